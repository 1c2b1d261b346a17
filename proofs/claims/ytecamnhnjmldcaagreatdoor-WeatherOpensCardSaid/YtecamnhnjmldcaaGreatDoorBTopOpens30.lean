/- Which observations are valid: the specification. -/
import Derived.Test.YtecamnhnjmldcaaGreatDoorBTopOpens29
set_option linter.unusedSimpArgs false
set_option linter.unusedVariables false
namespace Go.Proofs.YtecamnhnjmldcaaGreatDoor
open Go.RowKit
theorem range_all_snoc (p : Nat → Bool) (k : Nat) : (List.range (k + 1)).all p = ((List.range k).all p && p k) := by
  rw [List.range_succ, List.all_append]
  simp
theorem range_all_miss {p : Nat → Bool} {k n : Nat} (hk : k < n) (h : p k = false) : (List.range n).all p = false := by
  rw [List.all_eq_false]
  exact ⟨k, List.mem_range.2 hk, by rw [h]; decide⟩
/-- The hours of two observations differ. -/
def hneB (seen : List Sg) (i k : Nat) : Bool := !decide ((seen.getD k zeroSg).hour = (seen.getD i zeroSg).hour)
theorem okAt_eq (n : Nat) (seen : List Sg) (i : Nat) : okAt n seen i = ((inI (seen.getD i zeroSg).hour 0 ((n : Int) - 1) && (inI (seen.getD i zeroSg).wind 0 200 && (inI (seen.getD i zeroSg).rain 0 100 && inI (seen.getD i zeroSg).temp (-50) 50))) && (List.range i).all (hneB seen i)) := rfl
def seenE (f : List (List Hr)) (seen : List Sg) : Int := if fcE f = 0 then sgE f seen else 50
set_option maxHeartbeats 8000000 in
set_option maxRecDepth 100000 in
theorem rSeen_any (f : List (List Hr)) (A : Option Addr) (n c : Nat) (seen : List Sg) (SA : Option Addr) (m sc : Nat) (w : World) (h : FIn w f A n seen SA m) :
    Calls Tryz.prog 70 #[.agg #[.slice A n c], .slice SA m sc] w fun e w' => e = .returned (.int .i64 (seenE f seen)) ∧ Ext w w' := by
  have HC := hid (fun (W : World) (hW : Ext w W) => rCheck_any f A n c h.hn h.hm h.hx W (h.sc.ext hW))
  unfold seenE
  by_cases hz : fcE f = 0
  case neg =>
    have h50 : fcE f = 50 := by
      unfold fcE unlessM at hz ⊢
      cases hb : fcB f
      · rfl
      · rw [hb] at hz; exact absurd rfl hz
    rw [if_neg hz]
    rw [h50] at HC
    clear h hz h50
    go_enter Tryz.func70, Tryz.ntmps70
    go_wp2_with fail
    refine (HC.out _ (by (repeat' (first | with_reducible assumption | with_reducible exact Ext.refl _ | with_reducible refine Ext.alloc ?_ _ | with_reducible refine Ext.set ?_ ?_ _ | with_reducible refine Ext.drew ?_ | with_reducible refine Ext.drewN ?_ _ | with_reducible refine Ext.trans ?_ (by assumption) | (dsimp only; omega))))).mono ?_
    rintro e w2 ⟨rfl, hE⟩
    go_wp2
    go_ret
    exact ⟨rfl, by (repeat' (first | with_reducible assumption | with_reducible exact Ext.refl _ | with_reducible refine Ext.alloc ?_ _ | with_reducible refine Ext.set ?_ ?_ _ | with_reducible refine Ext.drew ?_ | with_reducible refine Ext.drewN ?_ _ | with_reducible refine Ext.trans ?_ (by assumption) | (dsimp only; omega)))⟩
  rw [if_pos hz]
  rw [hz] at HC
  have hfc := fcE_ok hz
  have hn0 : 0 < n := by
    have := (fc_ok hfc).2.1
    have := h.hn
    omega
  have HI := hid (fun (x : Int) (W : World) (hW : Ext w W) => rIsHour_any A n c f h.hn hn0 (by have := h.hours; omega) x W (h.sc.ext hW))
  have HW := hid (fun a b c W => rWithin_any a b c W)
  have HS := hid h.sg
  have HM := hid h.hl
  have hm2 := h.hm2
  by_cases h20 : m ≤ 20
  case neg =>
    have HR := hid (show sgE f seen = 51 by unfold sgE sgsB; rw [HM.out, decide_eq_false h20]; rfl)
    rw [HR.out]
    have h20' : 20 < m := by omega
    clear h hz hfc HI HW HS HR
    go_enter Tryz.func70, Tryz.ntmps70
    go_wp2_with fail
    refine (HC.out _ (by (repeat' (first | with_reducible assumption | with_reducible exact Ext.refl _ | with_reducible refine Ext.alloc ?_ _ | with_reducible refine Ext.set ?_ ?_ _ | with_reducible refine Ext.drew ?_ | with_reducible refine Ext.drewN ?_ _ | with_reducible refine Ext.trans ?_ (by assumption) | (dsimp only; omega))))).mono ?_
    rintro e w2 ⟨rfl, hE⟩
    go_wp2
    go_ret
    exact ⟨rfl, by (repeat' (first | with_reducible assumption | with_reducible exact Ext.refl _ | with_reducible refine Ext.alloc ?_ _ | with_reducible refine Ext.set ?_ ?_ _ | with_reducible refine Ext.drew ?_ | with_reducible refine Ext.drewN ?_ _ | with_reducible refine Ext.trans ?_ (by assumption) | (dsimp only; omega)))⟩
  have hsg : sgsB (hoursN f) seen = (List.range m).all (okAt (hoursN f) seen) := by
    rw [← okAll_sgs]; unfold okAll; rw [HM.out, decide_eq_true h20]; rfl
  have HR1 := hid (fun (h : (List.range m).all (okAt (hoursN f) seen) = true) => show sgE f seen = 0 by unfold sgE; rw [hsg, h]; rfl)
  have HR0 := hid (fun (h : (List.range m).all (okAt (hoursN f) seen) = false) => show sgE f seen = 51 by unfold sgE; rw [hsg, h]; rfl)
  have HOK := hid (okAt_eq (hoursN f) seen)
  have B0 := hid (show Blk _ _ _ _ from blk_last w (.cells #[.slice A n c] 24))
  clear h hz hfc hsg
  generalize sgE f seen = R at *
  generalize okAt (hoursN f) seen = OK at *
  generalize hoursN f = N at *
  go_enter Tryz.func70, Tryz.ntmps70
  go_wp2_with fail
  refine (HC.out _ (by (repeat' (first | with_reducible assumption | with_reducible exact Ext.refl _ | with_reducible refine Ext.alloc ?_ _ | with_reducible refine Ext.set ?_ ?_ _ | with_reducible refine Ext.drew ?_ | with_reducible refine Ext.drewN ?_ _ | with_reducible refine Ext.trans ?_ (by assumption) | (dsimp only; omega))))).mono ?_
  rintro e w1 ⟨rfl, hE⟩
  have E1 : Ext w w1 := by (repeat' (first | with_reducible assumption | with_reducible exact Ext.refl _ | with_reducible refine Ext.alloc ?_ _ | with_reducible refine Ext.set ?_ ?_ _ | with_reducible refine Ext.drew ?_ | with_reducible refine Ext.drewN ?_ _ | with_reducible refine Ext.trans ?_ (by assumption) | (dsimp only; omega)))
  have K1 := hid (show Blk _ _ _ _ from B0.out.ext hE)
  clear hE B0 HC
  have h20' : ¬ 20 < m := by omega
  go_wp2
  go_loopw [5] (fun i wr => Ext w wr ∧ Hid (Blk wr w.heap.size 24 #[.slice A n c]) ∧ ∃ k : Nat, k ≤ m ∧ i = .int .i64 k ∧ Hid ((List.range k).all OK = true)) (fun i _ => m - (intOf i).toNat)
  case atStart => exact ⟨E1, K1, 0, Nat.zero_le _, rfl, hid rfl⟩
  case round =>
    obtain ⟨hE, K0, k, hk, rfl, HA⟩ := hrel
    clear K1 E1
    by_cases hlt : k < m
    · obtain ⟨b, off, rfl, hb0, d0, d1, d2, d3⟩ := HS.out.at_ HM.out hlt
      have HOK1 := hid (HOK.out k)
      have HMI := hid (fun h => HR0.out (range_all_miss hlt h))
      have HST := hid (range_all_snoc OK k)
      obtain ⟨s, hs⟩ : ∃ s, seen.getD k zeroSg = s := ⟨_, rfl⟩
      rw [hs] at d0 d1 d2 d3 HOK1
      have HSK := hid hs
      clear hs
      obtain ⟨hr, wi, ra, te⟩ := s
      dsimp only at *
      have HD0 := hid d0
      replace d0 := (hE.cell (p := ⟨b, _, none⟩) hb0).trans d0
      replace d1 := (hE.cell (p := ⟨b, _, none⟩) hb0).trans d1
      replace d2 := (hE.cell (p := ⟨b, _, none⟩) hb0).trans d2
      replace d3 := (hE.cell (p := ⟨b, _, none⟩) hb0).trans d3
      have hbw := Nat.lt_of_lt_of_le hb0 hE.size
      have HX1 := hid (HI.out hr)
      have HX2 := hid (fun W => HW.out wi 0 200 W)
      have HX3 := hid (fun W => HW.out ra 0 100 W)
      have HX4 := hid (fun W => HW.out te (-50) 50 W)
      generalize inI hr 0 ((N : Int) - 1) = x1 at *
      generalize inI wi 0 200 = x2 at *
      generalize inI ra 0 100 = x3 at *
      generalize inI te (-50) 50 = x4 at *
      go_wp2_with fail
      refine wp_abs (fun W => W.cell? ⟨wr.heap.size, 0, none⟩ = some (.int .i64 wi) ∧ W.cell? ⟨wr.heap.size, 1, none⟩ = some (.int .i64 ra) ∧ W.cell? ⟨wr.heap.size, 2, none⟩ = some (.int .i64 te) ∧ wr.heap.size + 1 ≤ W.heap.size ∧ Ext wr W) ⟨by go_simp, by go_simp, by go_simp, by simp, by (repeat' (first | with_reducible assumption | with_reducible exact Ext.refl _ | with_reducible refine Ext.alloc ?_ _ | with_reducible refine Ext.set ?_ ?_ _ | with_reducible refine Ext.drew ?_ | with_reducible refine Ext.drewN ?_ _ | with_reducible refine Ext.trans ?_ (by assumption) | (dsimp only; omega)))⟩ ?_
      rintro W ⟨g0, g1, g2, hz, hEW⟩
      have K2 := hid (show Blk _ _ _ _ from K0.out.ext hEW)
      have f0 := K2.out.cell 0
      have q2 := K2.out.lt
      simp only [List.getElem?_toArray, List.getElem?_cons_zero] at f0
      replace d0 := (hEW.cell (p := ⟨b, _, none⟩) hbw).trans d0
      have q1 : b < W.heap.size := Nat.lt_of_lt_of_le hbw hEW.size
      have q3 : wr.heap.size < W.heap.size := hz
      clear d1 d2 d3 K0
      cases x1
      case false =>
        refine wp_region_held_drew (S := fun w' => (∀ b o, b < W.heap.size → w'.cell? ⟨b, o, none⟩ = W.cell? ⟨b, o, none⟩) ∧ W.heap.size ≤ w'.heap.size ∧ Ext W w') (by kernel_rfl) ?hS0 (fun hHeld => ?_)
        case hS0 => exact sK (Ext.drew (Ext.refl _))
        have X0 : Ext W W.drew := Ext.drew (Ext.refl W)
        have EX := X0
        obtain ⟨X, hX⟩ : ∃ X, W.drew = X := ⟨_, rfl⟩
        rw [hX] at EX hHeld ⊢
        clear hX X0
        refine tk1 (i := 0) (v := ?v0au) rfl ?y0au ?r0au
        case y0au => (intro w' hSw; (try dsimp only at hSw); go_simp; (try with_reducible rfl))
        try simp only [Act.put, sq1, sq2, sq3, sq4, sq5, sq6]
        refine tk1 (i := 1) (v := ?v1au) rfl ?y1au ?r1au
        case y1au => (intro w' hSw; (try dsimp only at hSw); go_simp; (try with_reducible rfl))
        try simp only [Act.put, sq1, sq2, sq3, sq4, sq5, sq6]
        refine tk1 (i := 2) (v := ?v2au) rfl ?y2au ?r2au
        case y2au => (intro w' hSw; (try dsimp only at hSw); go_simp; (try with_reducible rfl))
        try simp only [Act.put, sq1, sq2, sq3, sq4, sq5, sq6]
        refine tk1 (i := 3) (v := ?v3au) rfl ?y3au ?r3au
        case y3au => (intro w' hSw; (try dsimp only at hSw); go_simp; (try with_reducible rfl))
        try simp only [Act.put, sq1, sq2, sq3, sq4, sq5, sq6]
        refine tk1 (i := 4) (v := ?v4au) rfl ?y4au ?r4au
        case y4au => (intro w' hSw; (try dsimp only at hSw); go_simp; (try with_reducible rfl))
        try simp only [Act.put, sq1, sq2, sq3, sq4, sq5, sq6]
        refine tk1 (i := 5) (v := ?v5au) rfl ?y5au ?r5au
        case y5au => (intro w' hSw; (try dsimp only at hSw); go_simp; (try with_reducible rfl))
        try simp only [Act.put, sq1, sq2, sq3, sq4, sq5, sq6]
        refine wpAnyH_ready (rs := [6]) (by kernel_rfl) (by simp) ?_
        refine AllReadyH.cons (o := _) rfl (fun K hK => ?_) AllReadyH.nil
        go_simp
        refine Calls.mono (HX1.out _ ((hE.trans hEW).trans EX)) ?_
        rintro e X1 ⟨rfl, hE1⟩
        dsimp only
        replace EX := EX.trans hE1
        clear hHeld hE1
        refine hK.out _ _ (sK EX) (fun hHeld => ?_)
        clear hK K
        try simp only [Act.put, sq1, sq2, sq3, sq4, sq5, sq6]
        refine tk1 (i := 7) (v := ?v7bu) rfl ?y7bu ?r7bu
        case y7bu => (intro w' hSw; (try dsimp only at hSw); go_simp; (try with_reducible rfl))
        try simp only [Act.put, sq1, sq2, sq3, sq4, sq5, sq6]
        refine tk1 (i := 8) (v := ?v8bu) rfl ?y8bu ?r8bu
        case y8bu => (intro w' hSw; (try dsimp only at hSw); go_simp; (try with_reducible rfl))
        try simp only [Act.put, sq1, sq2, sq3, sq4, sq5, sq6]
        refine tku1 (i := 9) rfl ?r9cu
        try simp only [Act.put, sq1, sq2, sq3, sq4, sq5, sq6]
        refine tku1 (i := 10) rfl ?r10cu
        try simp only [Act.put, sq1, sq2, sq3, sq4, sq5, sq6]
        refine tku1 (i := 11) rfl ?r11cu
        try simp only [Act.put, sq1, sq2, sq3, sq4, sq5, sq6]
        refine tku1 (i := 12) rfl ?r12cu
        try simp only [Act.put, sq1, sq2, sq3, sq4, sq5, sq6]
        refine tk1 (i := 13) (v := ?v13du) rfl ?y13du ?r13du
        case y13du => (intro w' hSw; (try dsimp only at hSw); go_simp; (try with_reducible rfl))
        try simp only [Act.put, sq1, sq2, sq3, sq4, sq5, sq6]
        refine tk1 (i := 14) (v := ?v14du) rfl ?y14du ?r14du
        case y14du => (intro w' hSw; (try dsimp only at hSw); go_simp; (try with_reducible rfl))
        try simp only [Act.put, sq1, sq2, sq3, sq4, sq5, sq6]
        refine tku1 (i := 15) rfl ?r15eu
        try simp only [Act.put, sq1, sq2, sq3, sq4, sq5, sq6]
        refine tku1 (i := 16) rfl ?r16eu
        try simp only [Act.put, sq1, sq2, sq3, sq4, sq5, sq6]
        refine tku1 (i := 17) rfl ?r17eu
        try simp only [Act.put, sq1, sq2, sq3, sq4, sq5, sq6]
        refine tku1 (i := 18) rfl ?r18eu
        try simp only [Act.put, sq1, sq2, sq3, sq4, sq5, sq6]
        refine tk1 (i := 19) (v := ?v19fu) rfl ?y19fu ?r19fu
        case y19fu => (intro w' hSw; (try dsimp only at hSw); go_simp; (try with_reducible rfl))
        try simp only [Act.put, sq1, sq2, sq3, sq4, sq5, sq6]
        refine tk1 (i := 20) (v := ?v20fu) rfl ?y20fu ?r20fu
        case y20fu => (intro w' hSw; (try dsimp only at hSw); go_simp; (try with_reducible rfl))
        try simp only [Act.put, sq1, sq2, sq3, sq4, sq5, sq6]
        refine tku1 (i := 21) rfl ?r21gu
        try simp only [Act.put, sq1, sq2, sq3, sq4, sq5, sq6]
        refine tku1 (i := 22) rfl ?r22gu
        try simp only [Act.put, sq1, sq2, sq3, sq4, sq5, sq6]
        refine tku1 (i := 23) rfl ?r23gu
        try simp only [Act.put, sq1, sq2, sq3, sq4, sq5, sq6]
        refine tku1 (i := 24) rfl ?r24gu
        try simp only [Act.put, sq1, sq2, sq3, sq4, sq5, sq6]
        refine tk1 (i := 25) (v := ?v25hu) rfl ?y25hu ?r25hu
        case y25hu => (intro w' hSw; (try dsimp only at hSw); go_simp; (try with_reducible rfl))
        try simp only [Act.put, sq1, sq2, sq3, sq4, sq5, sq6]
        refine wpAnyH_done (by kernel_rfl) ?_ _
        clear hHeld
        have HRR := hid (HMI.out (by rw [HOK1.out]; rfl))
        have HEE := hid ((hE.trans hEW).trans EX)
        clear HR0 HR1 HMI HOK1 HST HA HOK
        go_wp2
        go_ret
        exact ⟨ret_int HRR.out.symm, HEE.out⟩
      cases x2
      case false =>
        refine wp_region_held_drew (S := fun w' => (∀ b o, b < W.heap.size → w'.cell? ⟨b, o, none⟩ = W.cell? ⟨b, o, none⟩) ∧ W.heap.size ≤ w'.heap.size ∧ Ext W w') (by kernel_rfl) ?hS0 (fun hHeld => ?_)
        case hS0 => exact sK (Ext.drew (Ext.refl _))
        have X0 : Ext W W.drew := Ext.drew (Ext.refl W)
        have EX := X0
        obtain ⟨X, hX⟩ : ∃ X, W.drew = X := ⟨_, rfl⟩
        rw [hX] at EX hHeld ⊢
        clear hX X0
        refine tk1 (i := 0) (v := ?v0av) rfl ?y0av ?r0av
        case y0av => (intro w' hSw; (try dsimp only at hSw); go_simp; (try with_reducible rfl))
        try simp only [Act.put, sq1, sq2, sq3, sq4, sq5, sq6]
        refine tk1 (i := 1) (v := ?v1av) rfl ?y1av ?r1av
        case y1av => (intro w' hSw; (try dsimp only at hSw); go_simp; (try with_reducible rfl))
        try simp only [Act.put, sq1, sq2, sq3, sq4, sq5, sq6]
        refine tk1 (i := 2) (v := ?v2av) rfl ?y2av ?r2av
        case y2av => (intro w' hSw; (try dsimp only at hSw); go_simp; (try with_reducible rfl))
        try simp only [Act.put, sq1, sq2, sq3, sq4, sq5, sq6]
        refine tk1 (i := 3) (v := ?v3av) rfl ?y3av ?r3av
        case y3av => (intro w' hSw; (try dsimp only at hSw); go_simp; (try with_reducible rfl))
        try simp only [Act.put, sq1, sq2, sq3, sq4, sq5, sq6]
        refine tk1 (i := 4) (v := ?v4av) rfl ?y4av ?r4av
        case y4av => (intro w' hSw; (try dsimp only at hSw); go_simp; (try with_reducible rfl))
        try simp only [Act.put, sq1, sq2, sq3, sq4, sq5, sq6]
        refine tk1 (i := 5) (v := ?v5av) rfl ?y5av ?r5av
        case y5av => (intro w' hSw; (try dsimp only at hSw); go_simp; (try with_reducible rfl))
        try simp only [Act.put, sq1, sq2, sq3, sq4, sq5, sq6]
        refine wpAnyH_ready (rs := [6]) (by kernel_rfl) (by simp) ?_
        refine AllReadyH.cons (o := _) rfl (fun K hK => ?_) AllReadyH.nil
        go_simp
        refine Calls.mono (HX1.out _ ((hE.trans hEW).trans EX)) ?_
        rintro e X1 ⟨rfl, hE1⟩
        dsimp only
        replace EX := EX.trans hE1
        clear hHeld hE1
        refine hK.out _ _ (sK EX) (fun hHeld => ?_)
        clear hK K
        try simp only [Act.put, sq1, sq2, sq3, sq4, sq5, sq6]
        refine tk1 (i := 7) (v := ?v7bv) rfl ?y7bv ?r7bv
        case y7bv => (intro w' hSw; (try dsimp only at hSw); go_simp; (try with_reducible rfl))
        try simp only [Act.put, sq1, sq2, sq3, sq4, sq5, sq6]
        refine tk1 (i := 8) (v := ?v8bv) rfl ?y8bv ?r8bv
        case y8bv => (intro w' hSw; (try dsimp only at hSw); go_simp; (try with_reducible rfl))
        try simp only [Act.put, sq1, sq2, sq3, sq4, sq5, sq6]
        refine tk1 (i := 9) (v := ?v9cv) rfl ?y9cv ?r9cv
        case y9cv => (intro w' hSw; (try dsimp only at hSw); go_simp; (try with_reducible rfl))
        try simp only [Act.put, sq1, sq2, sq3, sq4, sq5, sq6]
        refine tk1 (i := 10) (v := ?v10cv) rfl ?y10cv ?r10cv
        case y10cv => (intro w' hSw; (try dsimp only at hSw); go_simp; (try with_reducible rfl))
        try simp only [Act.put, sq1, sq2, sq3, sq4, sq5, sq6]
        refine wpAnyH_ready (rs := [11]) (by kernel_rfl) (by simp) ?_
        refine AllReadyH.cons (o := _) rfl (fun K hK => ?_) AllReadyH.nil
        go_simp
        refine Calls.mono (HX2.out _) ?_
        rintro e X2 ⟨rfl, rfl⟩
        dsimp only
        clear hHeld
        refine hK.out _ _ (sK EX) (fun hHeld => ?_)
        clear hK K
        try simp only [Act.put, sq1, sq2, sq3, sq4, sq5, sq6]
        refine tk1 (i := 12) (v := ?v12dv) rfl ?y12dv ?r12dv
        case y12dv => (intro w' hSw; (try dsimp only at hSw); go_simp; (try with_reducible rfl))
        try simp only [Act.put, sq1, sq2, sq3, sq4, sq5, sq6]
        refine tk1 (i := 13) (v := ?v13dv) rfl ?y13dv ?r13dv
        case y13dv => (intro w' hSw; (try dsimp only at hSw); go_simp; (try with_reducible rfl))
        try simp only [Act.put, sq1, sq2, sq3, sq4, sq5, sq6]
        refine tk1 (i := 14) (v := ?v14dv) rfl ?y14dv ?r14dv
        case y14dv => (intro w' hSw; (try dsimp only at hSw); go_simp; (try with_reducible rfl))
        try simp only [Act.put, sq1, sq2, sq3, sq4, sq5, sq6]
        refine tku1 (i := 15) rfl ?r15ev
        try simp only [Act.put, sq1, sq2, sq3, sq4, sq5, sq6]
        refine tku1 (i := 16) rfl ?r16ev
        try simp only [Act.put, sq1, sq2, sq3, sq4, sq5, sq6]
        refine tku1 (i := 17) rfl ?r17ev
        try simp only [Act.put, sq1, sq2, sq3, sq4, sq5, sq6]
        refine tku1 (i := 18) rfl ?r18ev
        try simp only [Act.put, sq1, sq2, sq3, sq4, sq5, sq6]
        refine tk1 (i := 19) (v := ?v19fv) rfl ?y19fv ?r19fv
        case y19fv => (intro w' hSw; (try dsimp only at hSw); go_simp; (try with_reducible rfl))
        try simp only [Act.put, sq1, sq2, sq3, sq4, sq5, sq6]
        refine tk1 (i := 20) (v := ?v20fv) rfl ?y20fv ?r20fv
        case y20fv => (intro w' hSw; (try dsimp only at hSw); go_simp; (try with_reducible rfl))
        try simp only [Act.put, sq1, sq2, sq3, sq4, sq5, sq6]
        refine tku1 (i := 21) rfl ?r21gv
        try simp only [Act.put, sq1, sq2, sq3, sq4, sq5, sq6]
        refine tku1 (i := 22) rfl ?r22gv
        try simp only [Act.put, sq1, sq2, sq3, sq4, sq5, sq6]
        refine tku1 (i := 23) rfl ?r23gv
        try simp only [Act.put, sq1, sq2, sq3, sq4, sq5, sq6]
        refine tku1 (i := 24) rfl ?r24gv
        try simp only [Act.put, sq1, sq2, sq3, sq4, sq5, sq6]
        refine tk1 (i := 25) (v := ?v25hv) rfl ?y25hv ?r25hv
        case y25hv => (intro w' hSw; (try dsimp only at hSw); go_simp; (try with_reducible rfl))
        try simp only [Act.put, sq1, sq2, sq3, sq4, sq5, sq6]
        refine wpAnyH_done (by kernel_rfl) ?_ _
        clear hHeld
        have HRR := hid (HMI.out (by rw [HOK1.out]; rfl))
        have HEE := hid ((hE.trans hEW).trans EX)
        clear HR0 HR1 HMI HOK1 HST HA HOK
        go_wp2
        go_ret
        exact ⟨ret_int HRR.out.symm, HEE.out⟩
      cases x3
      case false =>
        refine wp_region_held_drew (S := fun w' => (∀ b o, b < W.heap.size → w'.cell? ⟨b, o, none⟩ = W.cell? ⟨b, o, none⟩) ∧ W.heap.size ≤ w'.heap.size ∧ Ext W w') (by kernel_rfl) ?hS0 (fun hHeld => ?_)
        case hS0 => exact sK (Ext.drew (Ext.refl _))
        have X0 : Ext W W.drew := Ext.drew (Ext.refl W)
        have EX := X0
        obtain ⟨X, hX⟩ : ∃ X, W.drew = X := ⟨_, rfl⟩
        rw [hX] at EX hHeld ⊢
        clear hX X0
        refine tk1 (i := 0) (v := ?v0aw) rfl ?y0aw ?r0aw
        case y0aw => (intro w' hSw; (try dsimp only at hSw); go_simp; (try with_reducible rfl))
        try simp only [Act.put, sq1, sq2, sq3, sq4, sq5, sq6]
        refine tk1 (i := 1) (v := ?v1aw) rfl ?y1aw ?r1aw
        case y1aw => (intro w' hSw; (try dsimp only at hSw); go_simp; (try with_reducible rfl))
        try simp only [Act.put, sq1, sq2, sq3, sq4, sq5, sq6]
        refine tk1 (i := 2) (v := ?v2aw) rfl ?y2aw ?r2aw
        case y2aw => (intro w' hSw; (try dsimp only at hSw); go_simp; (try with_reducible rfl))
        try simp only [Act.put, sq1, sq2, sq3, sq4, sq5, sq6]
        refine tk1 (i := 3) (v := ?v3aw) rfl ?y3aw ?r3aw
        case y3aw => (intro w' hSw; (try dsimp only at hSw); go_simp; (try with_reducible rfl))
        try simp only [Act.put, sq1, sq2, sq3, sq4, sq5, sq6]
        refine tk1 (i := 4) (v := ?v4aw) rfl ?y4aw ?r4aw
        case y4aw => (intro w' hSw; (try dsimp only at hSw); go_simp; (try with_reducible rfl))
        try simp only [Act.put, sq1, sq2, sq3, sq4, sq5, sq6]
        refine tk1 (i := 5) (v := ?v5aw) rfl ?y5aw ?r5aw
        case y5aw => (intro w' hSw; (try dsimp only at hSw); go_simp; (try with_reducible rfl))
        try simp only [Act.put, sq1, sq2, sq3, sq4, sq5, sq6]
        refine wpAnyH_ready (rs := [6]) (by kernel_rfl) (by simp) ?_
        refine AllReadyH.cons (o := _) rfl (fun K hK => ?_) AllReadyH.nil
        go_simp
        refine Calls.mono (HX1.out _ ((hE.trans hEW).trans EX)) ?_
        rintro e X1 ⟨rfl, hE1⟩
        dsimp only
        replace EX := EX.trans hE1
        clear hHeld hE1
        refine hK.out _ _ (sK EX) (fun hHeld => ?_)
        clear hK K
        try simp only [Act.put, sq1, sq2, sq3, sq4, sq5, sq6]
        refine tk1 (i := 7) (v := ?v7bw) rfl ?y7bw ?r7bw
        case y7bw => (intro w' hSw; (try dsimp only at hSw); go_simp; (try with_reducible rfl))
        try simp only [Act.put, sq1, sq2, sq3, sq4, sq5, sq6]
        refine tk1 (i := 8) (v := ?v8bw) rfl ?y8bw ?r8bw
        case y8bw => (intro w' hSw; (try dsimp only at hSw); go_simp; (try with_reducible rfl))
        try simp only [Act.put, sq1, sq2, sq3, sq4, sq5, sq6]
        refine tk1 (i := 9) (v := ?v9cw) rfl ?y9cw ?r9cw
        case y9cw => (intro w' hSw; (try dsimp only at hSw); go_simp; (try with_reducible rfl))
        try simp only [Act.put, sq1, sq2, sq3, sq4, sq5, sq6]
        refine tk1 (i := 10) (v := ?v10cw) rfl ?y10cw ?r10cw
        case y10cw => (intro w' hSw; (try dsimp only at hSw); go_simp; (try with_reducible rfl))
        try simp only [Act.put, sq1, sq2, sq3, sq4, sq5, sq6]
        refine wpAnyH_ready (rs := [11]) (by kernel_rfl) (by simp) ?_
        refine AllReadyH.cons (o := _) rfl (fun K hK => ?_) AllReadyH.nil
        go_simp
        refine Calls.mono (HX2.out _) ?_
        rintro e X2 ⟨rfl, rfl⟩
        dsimp only
        clear hHeld
        refine hK.out _ _ (sK EX) (fun hHeld => ?_)
        clear hK K
        try simp only [Act.put, sq1, sq2, sq3, sq4, sq5, sq6]
        refine tk1 (i := 12) (v := ?v12dw) rfl ?y12dw ?r12dw
        case y12dw => (intro w' hSw; (try dsimp only at hSw); go_simp; (try with_reducible rfl))
        try simp only [Act.put, sq1, sq2, sq3, sq4, sq5, sq6]
        refine tk1 (i := 13) (v := ?v13dw) rfl ?y13dw ?r13dw
        case y13dw => (intro w' hSw; (try dsimp only at hSw); go_simp; (try with_reducible rfl))
        try simp only [Act.put, sq1, sq2, sq3, sq4, sq5, sq6]
        refine tk1 (i := 14) (v := ?v14dw) rfl ?y14dw ?r14dw
        case y14dw => (intro w' hSw; (try dsimp only at hSw); go_simp; (try with_reducible rfl))
        try simp only [Act.put, sq1, sq2, sq3, sq4, sq5, sq6]
        refine tk1 (i := 15) (v := ?v15dw) rfl ?y15dw ?r15dw
        case y15dw => (intro w' hSw; (try dsimp only at hSw); go_simp; (try with_reducible rfl))
        try simp only [Act.put, sq1, sq2, sq3, sq4, sq5, sq6]
        refine tk1 (i := 16) (v := ?v16dw) rfl ?y16dw ?r16dw
        case y16dw => (intro w' hSw; (try dsimp only at hSw); go_simp; (try with_reducible rfl))
        try simp only [Act.put, sq1, sq2, sq3, sq4, sq5, sq6]
        refine wpAnyH_ready (rs := [17]) (by kernel_rfl) (by simp) ?_
        refine AllReadyH.cons (o := _) rfl (fun K hK => ?_) AllReadyH.nil
        go_simp
        refine Calls.mono (HX3.out _) ?_
        rintro e X2 ⟨rfl, rfl⟩
        dsimp only
        clear hHeld
        refine hK.out _ _ (sK EX) (fun hHeld => ?_)
        clear hK K
        try simp only [Act.put, sq1, sq2, sq3, sq4, sq5, sq6]
        refine tk1 (i := 18) (v := ?v18fw) rfl ?y18fw ?r18fw
        case y18fw => (intro w' hSw; (try dsimp only at hSw); go_simp; (try with_reducible rfl))
        try simp only [Act.put, sq1, sq2, sq3, sq4, sq5, sq6]
        refine tk1 (i := 19) (v := ?v19fw) rfl ?y19fw ?r19fw
        case y19fw => (intro w' hSw; (try dsimp only at hSw); go_simp; (try with_reducible rfl))
        try simp only [Act.put, sq1, sq2, sq3, sq4, sq5, sq6]
        refine tk1 (i := 20) (v := ?v20fw) rfl ?y20fw ?r20fw
        case y20fw => (intro w' hSw; (try dsimp only at hSw); go_simp; (try with_reducible rfl))
        try simp only [Act.put, sq1, sq2, sq3, sq4, sq5, sq6]
        refine tku1 (i := 21) rfl ?r21gw
        try simp only [Act.put, sq1, sq2, sq3, sq4, sq5, sq6]
        refine tku1 (i := 22) rfl ?r22gw
        try simp only [Act.put, sq1, sq2, sq3, sq4, sq5, sq6]
        refine tku1 (i := 23) rfl ?r23gw
        try simp only [Act.put, sq1, sq2, sq3, sq4, sq5, sq6]
        refine tku1 (i := 24) rfl ?r24gw
        try simp only [Act.put, sq1, sq2, sq3, sq4, sq5, sq6]
        refine tk1 (i := 25) (v := ?v25hw) rfl ?y25hw ?r25hw
        case y25hw => (intro w' hSw; (try dsimp only at hSw); go_simp; (try with_reducible rfl))
        try simp only [Act.put, sq1, sq2, sq3, sq4, sq5, sq6]
        refine wpAnyH_done (by kernel_rfl) ?_ _
        clear hHeld
        have HRR := hid (HMI.out (by rw [HOK1.out]; rfl))
        have HEE := hid ((hE.trans hEW).trans EX)
        clear HR0 HR1 HMI HOK1 HST HA HOK
        go_wp2
        go_ret
        exact ⟨ret_int HRR.out.symm, HEE.out⟩
      cases x4
      case false =>
        refine wp_region_held_drew (S := fun w' => (∀ b o, b < W.heap.size → w'.cell? ⟨b, o, none⟩ = W.cell? ⟨b, o, none⟩) ∧ W.heap.size ≤ w'.heap.size ∧ Ext W w') (by kernel_rfl) ?hS0 (fun hHeld => ?_)
        case hS0 => exact sK (Ext.drew (Ext.refl _))
        have X0 : Ext W W.drew := Ext.drew (Ext.refl W)
        have EX := X0
        obtain ⟨X, hX⟩ : ∃ X, W.drew = X := ⟨_, rfl⟩
        rw [hX] at EX hHeld ⊢
        clear hX X0
        refine tk1 (i := 0) (v := ?v0ax) rfl ?y0ax ?r0ax
        case y0ax => (intro w' hSw; (try dsimp only at hSw); go_simp; (try with_reducible rfl))
        try simp only [Act.put, sq1, sq2, sq3, sq4, sq5, sq6]
        refine tk1 (i := 1) (v := ?v1ax) rfl ?y1ax ?r1ax
        case y1ax => (intro w' hSw; (try dsimp only at hSw); go_simp; (try with_reducible rfl))
        try simp only [Act.put, sq1, sq2, sq3, sq4, sq5, sq6]
        refine tk1 (i := 2) (v := ?v2ax) rfl ?y2ax ?r2ax
        case y2ax => (intro w' hSw; (try dsimp only at hSw); go_simp; (try with_reducible rfl))
        try simp only [Act.put, sq1, sq2, sq3, sq4, sq5, sq6]
        refine tk1 (i := 3) (v := ?v3ax) rfl ?y3ax ?r3ax
        case y3ax => (intro w' hSw; (try dsimp only at hSw); go_simp; (try with_reducible rfl))
        try simp only [Act.put, sq1, sq2, sq3, sq4, sq5, sq6]
        refine tk1 (i := 4) (v := ?v4ax) rfl ?y4ax ?r4ax
        case y4ax => (intro w' hSw; (try dsimp only at hSw); go_simp; (try with_reducible rfl))
        try simp only [Act.put, sq1, sq2, sq3, sq4, sq5, sq6]
        refine tk1 (i := 5) (v := ?v5ax) rfl ?y5ax ?r5ax
        case y5ax => (intro w' hSw; (try dsimp only at hSw); go_simp; (try with_reducible rfl))
        try simp only [Act.put, sq1, sq2, sq3, sq4, sq5, sq6]
        refine wpAnyH_ready (rs := [6]) (by kernel_rfl) (by simp) ?_
        refine AllReadyH.cons (o := _) rfl (fun K hK => ?_) AllReadyH.nil
        go_simp
        refine Calls.mono (HX1.out _ ((hE.trans hEW).trans EX)) ?_
        rintro e X1 ⟨rfl, hE1⟩
        dsimp only
        replace EX := EX.trans hE1
        clear hHeld hE1
        refine hK.out _ _ (sK EX) (fun hHeld => ?_)
        clear hK K
        try simp only [Act.put, sq1, sq2, sq3, sq4, sq5, sq6]
        refine tk1 (i := 7) (v := ?v7bx) rfl ?y7bx ?r7bx
        case y7bx => (intro w' hSw; (try dsimp only at hSw); go_simp; (try with_reducible rfl))
        try simp only [Act.put, sq1, sq2, sq3, sq4, sq5, sq6]
        refine tk1 (i := 8) (v := ?v8bx) rfl ?y8bx ?r8bx
        case y8bx => (intro w' hSw; (try dsimp only at hSw); go_simp; (try with_reducible rfl))
        try simp only [Act.put, sq1, sq2, sq3, sq4, sq5, sq6]
        refine tk1 (i := 9) (v := ?v9cx) rfl ?y9cx ?r9cx
        case y9cx => (intro w' hSw; (try dsimp only at hSw); go_simp; (try with_reducible rfl))
        try simp only [Act.put, sq1, sq2, sq3, sq4, sq5, sq6]
        refine tk1 (i := 10) (v := ?v10cx) rfl ?y10cx ?r10cx
        case y10cx => (intro w' hSw; (try dsimp only at hSw); go_simp; (try with_reducible rfl))
        try simp only [Act.put, sq1, sq2, sq3, sq4, sq5, sq6]
        refine wpAnyH_ready (rs := [11]) (by kernel_rfl) (by simp) ?_
        refine AllReadyH.cons (o := _) rfl (fun K hK => ?_) AllReadyH.nil
        go_simp
        refine Calls.mono (HX2.out _) ?_
        rintro e X2 ⟨rfl, rfl⟩
        dsimp only
        clear hHeld
        refine hK.out _ _ (sK EX) (fun hHeld => ?_)
        clear hK K
        try simp only [Act.put, sq1, sq2, sq3, sq4, sq5, sq6]
        refine tk1 (i := 12) (v := ?v12dx) rfl ?y12dx ?r12dx
        case y12dx => (intro w' hSw; (try dsimp only at hSw); go_simp; (try with_reducible rfl))
        try simp only [Act.put, sq1, sq2, sq3, sq4, sq5, sq6]
        refine tk1 (i := 13) (v := ?v13dx) rfl ?y13dx ?r13dx
        case y13dx => (intro w' hSw; (try dsimp only at hSw); go_simp; (try with_reducible rfl))
        try simp only [Act.put, sq1, sq2, sq3, sq4, sq5, sq6]
        refine tk1 (i := 14) (v := ?v14dx) rfl ?y14dx ?r14dx
        case y14dx => (intro w' hSw; (try dsimp only at hSw); go_simp; (try with_reducible rfl))
        try simp only [Act.put, sq1, sq2, sq3, sq4, sq5, sq6]
        refine tk1 (i := 15) (v := ?v15dx) rfl ?y15dx ?r15dx
        case y15dx => (intro w' hSw; (try dsimp only at hSw); go_simp; (try with_reducible rfl))
        try simp only [Act.put, sq1, sq2, sq3, sq4, sq5, sq6]
        refine tk1 (i := 16) (v := ?v16dx) rfl ?y16dx ?r16dx
        case y16dx => (intro w' hSw; (try dsimp only at hSw); go_simp; (try with_reducible rfl))
        try simp only [Act.put, sq1, sq2, sq3, sq4, sq5, sq6]
        refine wpAnyH_ready (rs := [17]) (by kernel_rfl) (by simp) ?_
        refine AllReadyH.cons (o := _) rfl (fun K hK => ?_) AllReadyH.nil
        go_simp
        refine Calls.mono (HX3.out _) ?_
        rintro e X2 ⟨rfl, rfl⟩
        dsimp only
        clear hHeld
        refine hK.out _ _ (sK EX) (fun hHeld => ?_)
        clear hK K
        try simp only [Act.put, sq1, sq2, sq3, sq4, sq5, sq6]
        refine tk1 (i := 18) (v := ?v18fx) rfl ?y18fx ?r18fx
        case y18fx => (intro w' hSw; (try dsimp only at hSw); go_simp; (try with_reducible rfl))
        try simp only [Act.put, sq1, sq2, sq3, sq4, sq5, sq6]
        refine tk1 (i := 19) (v := ?v19fx) rfl ?y19fx ?r19fx
        case y19fx => (intro w' hSw; (try dsimp only at hSw); go_simp; (try with_reducible rfl))
        try simp only [Act.put, sq1, sq2, sq3, sq4, sq5, sq6]
        refine tk1 (i := 20) (v := ?v20fx) rfl ?y20fx ?r20fx
        case y20fx => (intro w' hSw; (try dsimp only at hSw); go_simp; (try with_reducible rfl))
        try simp only [Act.put, sq1, sq2, sq3, sq4, sq5, sq6]
        refine tk1 (i := 21) (v := ?v21fx) rfl ?y21fx ?r21fx
        case y21fx => (intro w' hSw; (try dsimp only at hSw); go_simp; (try with_reducible rfl))
        try simp only [Act.put, sq1, sq2, sq3, sq4, sq5, sq6]
        refine tk1 (i := 22) (v := ?v22fx) rfl ?y22fx ?r22fx
        case y22fx => (intro w' hSw; (try dsimp only at hSw); go_simp; (try with_reducible rfl))
        try simp only [Act.put, sq1, sq2, sq3, sq4, sq5, sq6]
        refine wpAnyH_ready (rs := [23]) (by kernel_rfl) (by simp) ?_
        refine AllReadyH.cons (o := _) rfl (fun K hK => ?_) AllReadyH.nil
        go_simp
        refine Calls.mono (HX4.out _) ?_
        rintro e X2 ⟨rfl, rfl⟩
        dsimp only
        clear hHeld
        refine hK.out _ _ (sK EX) (fun hHeld => ?_)
        clear hK K
        try simp only [Act.put, sq1, sq2, sq3, sq4, sq5, sq6]
        refine tk1 (i := 24) (v := ?v24hx) rfl ?y24hx ?r24hx
        case y24hx => (intro w' hSw; (try dsimp only at hSw); go_simp; (try with_reducible rfl))
        try simp only [Act.put, sq1, sq2, sq3, sq4, sq5, sq6]
        refine tk1 (i := 25) (v := ?v25hx) rfl ?y25hx ?r25hx
        case y25hx => (intro w' hSw; (try dsimp only at hSw); go_simp; (try with_reducible rfl))
        try simp only [Act.put, sq1, sq2, sq3, sq4, sq5, sq6]
        refine wpAnyH_done (by kernel_rfl) ?_ _
        clear hHeld
        have HRR := hid (HMI.out (by rw [HOK1.out]; rfl))
        have HEE := hid ((hE.trans hEW).trans EX)
        clear HR0 HR1 HMI HOK1 HST HA HOK
        go_wp2
        go_ret
        exact ⟨ret_int HRR.out.symm, HEE.out⟩
      refine wp_region_held_drew (S := fun w' => (∀ b o, b < W.heap.size → w'.cell? ⟨b, o, none⟩ = W.cell? ⟨b, o, none⟩) ∧ W.heap.size ≤ w'.heap.size ∧ Ext W w') (by kernel_rfl) ?hS0 (fun hHeld => ?_)
      case hS0 => exact sK (Ext.drew (Ext.refl _))
      have X0 : Ext W W.drew := Ext.drew (Ext.refl W)
      have EX := X0
      obtain ⟨X, hX⟩ : ∃ X, W.drew = X := ⟨_, rfl⟩
      rw [hX] at EX hHeld ⊢
      clear hX X0
      refine tk1 (i := 0) (v := ?v0ay) rfl ?y0ay ?r0ay
      case y0ay => (intro w' hSw; (try dsimp only at hSw); go_simp; (try with_reducible rfl))
      try simp only [Act.put, sq1, sq2, sq3, sq4, sq5, sq6]
      refine tk1 (i := 1) (v := ?v1ay) rfl ?y1ay ?r1ay
      case y1ay => (intro w' hSw; (try dsimp only at hSw); go_simp; (try with_reducible rfl))
      try simp only [Act.put, sq1, sq2, sq3, sq4, sq5, sq6]
      refine tk1 (i := 2) (v := ?v2ay) rfl ?y2ay ?r2ay
      case y2ay => (intro w' hSw; (try dsimp only at hSw); go_simp; (try with_reducible rfl))
      try simp only [Act.put, sq1, sq2, sq3, sq4, sq5, sq6]
      refine tk1 (i := 3) (v := ?v3ay) rfl ?y3ay ?r3ay
      case y3ay => (intro w' hSw; (try dsimp only at hSw); go_simp; (try with_reducible rfl))
      try simp only [Act.put, sq1, sq2, sq3, sq4, sq5, sq6]
      refine tk1 (i := 4) (v := ?v4ay) rfl ?y4ay ?r4ay
      case y4ay => (intro w' hSw; (try dsimp only at hSw); go_simp; (try with_reducible rfl))
      try simp only [Act.put, sq1, sq2, sq3, sq4, sq5, sq6]
      refine tk1 (i := 5) (v := ?v5ay) rfl ?y5ay ?r5ay
      case y5ay => (intro w' hSw; (try dsimp only at hSw); go_simp; (try with_reducible rfl))
      try simp only [Act.put, sq1, sq2, sq3, sq4, sq5, sq6]
      refine wpAnyH_ready (rs := [6]) (by kernel_rfl) (by simp) ?_
      refine AllReadyH.cons (o := _) rfl (fun K hK => ?_) AllReadyH.nil
      go_simp
      refine Calls.mono (HX1.out _ ((hE.trans hEW).trans EX)) ?_
      rintro e X1 ⟨rfl, hE1⟩
      dsimp only
      replace EX := EX.trans hE1
      clear hHeld hE1
      refine hK.out _ _ (sK EX) (fun hHeld => ?_)
      clear hK K
      try simp only [Act.put, sq1, sq2, sq3, sq4, sq5, sq6]
      refine tk1 (i := 7) (v := ?v7by) rfl ?y7by ?r7by
      case y7by => (intro w' hSw; (try dsimp only at hSw); go_simp; (try with_reducible rfl))
      try simp only [Act.put, sq1, sq2, sq3, sq4, sq5, sq6]
      refine tk1 (i := 8) (v := ?v8by) rfl ?y8by ?r8by
      case y8by => (intro w' hSw; (try dsimp only at hSw); go_simp; (try with_reducible rfl))
      try simp only [Act.put, sq1, sq2, sq3, sq4, sq5, sq6]
      refine tk1 (i := 9) (v := ?v9cy) rfl ?y9cy ?r9cy
      case y9cy => (intro w' hSw; (try dsimp only at hSw); go_simp; (try with_reducible rfl))
      try simp only [Act.put, sq1, sq2, sq3, sq4, sq5, sq6]
      refine tk1 (i := 10) (v := ?v10cy) rfl ?y10cy ?r10cy
      case y10cy => (intro w' hSw; (try dsimp only at hSw); go_simp; (try with_reducible rfl))
      try simp only [Act.put, sq1, sq2, sq3, sq4, sq5, sq6]
      refine wpAnyH_ready (rs := [11]) (by kernel_rfl) (by simp) ?_
      refine AllReadyH.cons (o := _) rfl (fun K hK => ?_) AllReadyH.nil
      go_simp
      refine Calls.mono (HX2.out _) ?_
      rintro e X2 ⟨rfl, rfl⟩
      dsimp only
      clear hHeld
      refine hK.out _ _ (sK EX) (fun hHeld => ?_)
      clear hK K
      try simp only [Act.put, sq1, sq2, sq3, sq4, sq5, sq6]
      refine tk1 (i := 12) (v := ?v12dy) rfl ?y12dy ?r12dy
      case y12dy => (intro w' hSw; (try dsimp only at hSw); go_simp; (try with_reducible rfl))
      try simp only [Act.put, sq1, sq2, sq3, sq4, sq5, sq6]
      refine tk1 (i := 13) (v := ?v13dy) rfl ?y13dy ?r13dy
      case y13dy => (intro w' hSw; (try dsimp only at hSw); go_simp; (try with_reducible rfl))
      try simp only [Act.put, sq1, sq2, sq3, sq4, sq5, sq6]
      refine tk1 (i := 14) (v := ?v14dy) rfl ?y14dy ?r14dy
      case y14dy => (intro w' hSw; (try dsimp only at hSw); go_simp; (try with_reducible rfl))
      try simp only [Act.put, sq1, sq2, sq3, sq4, sq5, sq6]
      refine tk1 (i := 15) (v := ?v15dy) rfl ?y15dy ?r15dy
      case y15dy => (intro w' hSw; (try dsimp only at hSw); go_simp; (try with_reducible rfl))
      try simp only [Act.put, sq1, sq2, sq3, sq4, sq5, sq6]
      refine tk1 (i := 16) (v := ?v16dy) rfl ?y16dy ?r16dy
      case y16dy => (intro w' hSw; (try dsimp only at hSw); go_simp; (try with_reducible rfl))
      try simp only [Act.put, sq1, sq2, sq3, sq4, sq5, sq6]
      refine wpAnyH_ready (rs := [17]) (by kernel_rfl) (by simp) ?_
      refine AllReadyH.cons (o := _) rfl (fun K hK => ?_) AllReadyH.nil
      go_simp
      refine Calls.mono (HX3.out _) ?_
      rintro e X2 ⟨rfl, rfl⟩
      dsimp only
      clear hHeld
      refine hK.out _ _ (sK EX) (fun hHeld => ?_)
      clear hK K
      try simp only [Act.put, sq1, sq2, sq3, sq4, sq5, sq6]
      refine tk1 (i := 18) (v := ?v18fy) rfl ?y18fy ?r18fy
      case y18fy => (intro w' hSw; (try dsimp only at hSw); go_simp; (try with_reducible rfl))
      try simp only [Act.put, sq1, sq2, sq3, sq4, sq5, sq6]
      refine tk1 (i := 19) (v := ?v19fy) rfl ?y19fy ?r19fy
      case y19fy => (intro w' hSw; (try dsimp only at hSw); go_simp; (try with_reducible rfl))
      try simp only [Act.put, sq1, sq2, sq3, sq4, sq5, sq6]
      refine tk1 (i := 20) (v := ?v20fy) rfl ?y20fy ?r20fy
      case y20fy => (intro w' hSw; (try dsimp only at hSw); go_simp; (try with_reducible rfl))
      try simp only [Act.put, sq1, sq2, sq3, sq4, sq5, sq6]
      refine tk1 (i := 21) (v := ?v21fy) rfl ?y21fy ?r21fy
      case y21fy => (intro w' hSw; (try dsimp only at hSw); go_simp; (try with_reducible rfl))
      try simp only [Act.put, sq1, sq2, sq3, sq4, sq5, sq6]
      refine tk1 (i := 22) (v := ?v22fy) rfl ?y22fy ?r22fy
      case y22fy => (intro w' hSw; (try dsimp only at hSw); go_simp; (try with_reducible rfl))
      try simp only [Act.put, sq1, sq2, sq3, sq4, sq5, sq6]
      refine wpAnyH_ready (rs := [23]) (by kernel_rfl) (by simp) ?_
      refine AllReadyH.cons (o := _) rfl (fun K hK => ?_) AllReadyH.nil
      go_simp
      refine Calls.mono (HX4.out _) ?_
      rintro e X2 ⟨rfl, rfl⟩
      dsimp only
      clear hHeld
      refine hK.out _ _ (sK EX) (fun hHeld => ?_)
      clear hK K
      try simp only [Act.put, sq1, sq2, sq3, sq4, sq5, sq6]
      refine tk1 (i := 24) (v := ?v24hy) rfl ?y24hy ?r24hy
      case y24hy => (intro w' hSw; (try dsimp only at hSw); go_simp; (try with_reducible rfl))
      try simp only [Act.put, sq1, sq2, sq3, sq4, sq5, sq6]
      refine tk1 (i := 25) (v := ?v25hy) rfl ?y25hy ?r25hy
      case y25hy => (intro w' hSw; (try dsimp only at hSw); go_simp; (try with_reducible rfl))
      try simp only [Act.put, sq1, sq2, sq3, sq4, sq5, sq6]
      refine wpAnyH_done (by kernel_rfl) ?_ _
      clear hHeld
      have E3 := hid ((hE.trans hEW).trans EX)
      have J0 := hid (show Blk _ _ _ _ from K2.out.ext EX)
      have d0' := (EX.cell (p := ⟨b, _, none⟩) q1).trans d0
      have q1' := Nat.lt_of_lt_of_le q1 EX.size
      have HQ1 := hid (show ∀ q, hneB seen k q = !decide ((seen.getD q zeroSg).hour = hr) from fun q => by unfold hneB; rw [HSK.out])
      have HQS := hid (range_all_snoc (hneB seen k))
      have HQM := hid (fun q (hq : q < k) h => range_all_miss (p := hneB seen k) (n := k) hq h)
      clear HSK HX1 HX2 HX3 HX4 hEW EX f0 g0 g1 g2 K2 q1 q2 q3 hz hbw d0 HOK
      generalize hneB seen k = HB at *
      go_wp2
      go_loopw [7] (fun i wx => Ext w wx ∧ Hid (Blk wx w.heap.size 24 #[.slice A n c]) ∧ ∃ q : Nat, q ≤ k ∧ i = .int .i64 q ∧ Hid ((List.range q).all HB = true)) (fun i _ => k - (intOf i).toNat)
      case atStart => exact ⟨E3.out, J0, 0, Nat.zero_le _, rfl, hid rfl⟩
      case round =>
        clear E3 J0 d0' q1' hE
        obtain ⟨hE, K0, q, hq, rfl, HAJ⟩ := hrel
        by_cases hlt2 : q < k
        · obtain ⟨b', off', hA, hb', e0, -, -, -⟩ := HS.out.at_ HM.out (show q < m by omega)
          cases hA
          replace e0 := (hE.cell (p := ⟨b, _, none⟩) hb0).trans e0
          have d0 := (hE.cell (p := ⟨b, _, none⟩) hb0).trans HD0.out
          have hbw := Nat.lt_of_lt_of_le hb0 hE.size
          have hqm : q < m := by omega
          have HQ := hid (HQ1.out q)
          have HS2 := hid (HQS.out q)
          have HM2 := hid (HQM.out q hlt2)
          generalize (seen.getD q zeroSg).hour = hq' at *
          by_cases heq : hq' = hr
          · have hd : (hq' == hr) = true := by simp [heq]
            have HRR := hid (HMI.out (by rw [HOK1.out, HM2.out (by rw [HQ.out, decide_eq_true heq]; rfl)]; rfl))
            clear HR0 HR1 HMI HOK1 HST HA HQ HS2 HM2 HQ1 HQS HQM HAJ heq
            go_wp2_with fail
            refine wp_region_held_drew (S := fun w' => (∀ b o, b < wr.heap.size → w'.cell? ⟨b, o, none⟩ = wr.cell? ⟨b, o, none⟩) ∧ wr.heap.size ≤ w'.heap.size ∧ Ext wr w') (by kernel_rfl) ?hS0 (fun hHeld => ?_)
            case hS0 => exact sK (Ext.drew (Ext.refl _))
            have X0 : Ext wr wr.drew := Ext.drew (Ext.refl wr)
            have EX := X0
            obtain ⟨X, hX⟩ : ∃ X, wr.drew = X := ⟨_, rfl⟩
            rw [hX] at EX hHeld ⊢
            clear hX X0
            refine tk1 (i := 0) (v := ?v0ra) rfl ?y0ra ?r0ra
            case y0ra => (intro w' hSw; (try dsimp only at hSw); go_simp; (try with_reducible rfl))
            try simp only [Act.put, sq1, sq2, sq3, sq4, sq5, sq6]
            refine tk1 (i := 1) (v := ?v1ra) rfl ?y1ra ?r1ra
            case y1ra => (intro w' hSw; (try dsimp only at hSw); go_simp; (try with_reducible rfl))
            try simp only [Act.put, sq1, sq2, sq3, sq4, sq5, sq6]
            refine tk1 (i := 2) (v := ?v2ra) rfl ?y2ra ?r2ra
            case y2ra => (intro w' hSw; (try dsimp only at hSw); go_simp; (try with_reducible rfl))
            try simp only [Act.put, sq1, sq2, sq3, sq4, sq5, sq6]
            refine tk1 (i := 3) (v := ?v3ra) rfl ?y3ra ?r3ra
            case y3ra => (intro w' hSw; (try dsimp only at hSw); go_simp; (try with_reducible rfl))
            try simp only [Act.put, sq1, sq2, sq3, sq4, sq5, sq6]
            refine tk1 (i := 4) (v := ?v4ra) rfl ?y4ra ?r4ra
            case y4ra => (intro w' hSw; (try dsimp only at hSw); go_simp; (try with_reducible rfl))
            try simp only [Act.put, sq1, sq2, sq3, sq4, sq5, sq6]
            refine tk1 (i := 5) (v := ?v5ra) rfl ?y5ra ?r5ra
            case y5ra => (intro w' hSw; (try dsimp only at hSw); go_simp; (try with_reducible rfl))
            try simp only [Act.put, sq1, sq2, sq3, sq4, sq5, sq6]
            refine tk1 (i := 6) (v := ?v6ra) rfl ?y6ra ?r6ra
            case y6ra => (intro w' hSw; (try dsimp only at hSw); go_simp; (try with_reducible rfl))
            try simp only [Act.put, sq1, sq2, sq3, sq4, sq5, sq6]
            refine tk1 (i := 7) (v := ?v7ra) rfl ?y7ra ?r7ra
            case y7ra => (intro w' hSw; (try dsimp only at hSw); go_simp; (try with_reducible rfl))
            try simp only [Act.put, sq1, sq2, sq3, sq4, sq5, sq6]
            refine tk1 (i := 8) (v := ?v8ra) rfl ?y8ra ?r8ra
            case y8ra => (intro w' hSw; (try dsimp only at hSw); go_simp; (try with_reducible rfl))
            try simp only [Act.put, sq1, sq2, sq3, sq4, sq5, sq6]
            refine tk1 (i := 9) (v := ?v9ra) rfl ?y9ra ?r9ra
            case y9ra => (intro w' hSw; (try dsimp only at hSw); go_simp; (try with_reducible rfl))
            try simp only [Act.put, sq1, sq2, sq3, sq4, sq5, sq6]
            refine tk1 (i := 10) (v := ?v10ra) rfl ?y10ra ?r10ra
            case y10ra => (intro w' hSw; (try dsimp only at hSw); go_simp; (try with_reducible rfl))
            try simp only [Act.put, sq1, sq2, sq3, sq4, sq5, sq6]
            refine wpAnyH_done (by kernel_rfl) ?_ _
            clear hHeld
            have HEE := hid (hE.trans EX)
            go_wp2
            go_ret
            exact ⟨ret_int HRR.out.symm, HEE.out⟩
          · have hd : (hq' == hr) = false := by simp [heq]
            have HN2 := hid (HS2.out.trans (by rw [HAJ.out, HQ.out, decide_eq_false heq] <;> rfl))
            clear HR0 HR1 HMI HOK1 HST HA HQ HS2 HM2 HQ1 HQS HQM HAJ heq
            go_wp2_with fail
            refine wp_region_held_drew (S := fun w' => (∀ b o, b < wr.heap.size → w'.cell? ⟨b, o, none⟩ = wr.cell? ⟨b, o, none⟩) ∧ wr.heap.size ≤ w'.heap.size ∧ Ext wr w') (by kernel_rfl) ?hS0 (fun hHeld => ?_)
            case hS0 => exact sK (Ext.drew (Ext.refl _))
            have X0 : Ext wr wr.drew := Ext.drew (Ext.refl wr)
            have EX := X0
            obtain ⟨X, hX⟩ : ∃ X, wr.drew = X := ⟨_, rfl⟩
            rw [hX] at EX hHeld ⊢
            clear hX X0
            refine tk1 (i := 0) (v := ?v0rb) rfl ?y0rb ?r0rb
            case y0rb => (intro w' hSw; (try dsimp only at hSw); go_simp; (try with_reducible rfl))
            try simp only [Act.put, sq1, sq2, sq3, sq4, sq5, sq6]
            refine tk1 (i := 1) (v := ?v1rb) rfl ?y1rb ?r1rb
            case y1rb => (intro w' hSw; (try dsimp only at hSw); go_simp; (try with_reducible rfl))
            try simp only [Act.put, sq1, sq2, sq3, sq4, sq5, sq6]
            refine tk1 (i := 2) (v := ?v2rb) rfl ?y2rb ?r2rb
            case y2rb => (intro w' hSw; (try dsimp only at hSw); go_simp; (try with_reducible rfl))
            try simp only [Act.put, sq1, sq2, sq3, sq4, sq5, sq6]
            refine tk1 (i := 3) (v := ?v3rb) rfl ?y3rb ?r3rb
            case y3rb => (intro w' hSw; (try dsimp only at hSw); go_simp; (try with_reducible rfl))
            try simp only [Act.put, sq1, sq2, sq3, sq4, sq5, sq6]
            refine tk1 (i := 4) (v := ?v4rb) rfl ?y4rb ?r4rb
            case y4rb => (intro w' hSw; (try dsimp only at hSw); go_simp; (try with_reducible rfl))
            try simp only [Act.put, sq1, sq2, sq3, sq4, sq5, sq6]
            refine tk1 (i := 5) (v := ?v5rb) rfl ?y5rb ?r5rb
            case y5rb => (intro w' hSw; (try dsimp only at hSw); go_simp; (try with_reducible rfl))
            try simp only [Act.put, sq1, sq2, sq3, sq4, sq5, sq6]
            refine tk1 (i := 6) (v := ?v6rb) rfl ?y6rb ?r6rb
            case y6rb => (intro w' hSw; (try dsimp only at hSw); go_simp; (try with_reducible rfl))
            try simp only [Act.put, sq1, sq2, sq3, sq4, sq5, sq6]
            refine tk1 (i := 7) (v := ?v7rb) rfl ?y7rb ?r7rb
            case y7rb => (intro w' hSw; (try dsimp only at hSw); go_simp; (try with_reducible rfl))
            try simp only [Act.put, sq1, sq2, sq3, sq4, sq5, sq6]
            refine tk1 (i := 8) (v := ?v8rb) rfl ?y8rb ?r8rb
            case y8rb => (intro w' hSw; (try dsimp only at hSw); go_simp; (try with_reducible rfl))
            try simp only [Act.put, sq1, sq2, sq3, sq4, sq5, sq6]
            refine tk1 (i := 9) (v := ?v9rb) rfl ?y9rb ?r9rb
            case y9rb => (intro w' hSw; (try dsimp only at hSw); go_simp; (try with_reducible rfl))
            try simp only [Act.put, sq1, sq2, sq3, sq4, sq5, sq6]
            refine tk1 (i := 10) (v := ?v10rb) rfl ?y10rb ?r10rb
            case y10rb => (intro w' hSw; (try dsimp only at hSw); go_simp; (try with_reducible rfl))
            try simp only [Act.put, sq1, sq2, sq3, sq4, sq5, sq6]
            refine wpAnyH_done (by kernel_rfl) ?_ _
            clear hHeld
            have HEE := hid (hE.trans EX)
            have J2 := hid (show Blk _ _ _ _ from K0.out.ext EX)
            go_wp2
            go_roundw
            case rel => exact ⟨HEE.out, J2, q + 1, by omega, by go_num, HN2⟩
            case measure => simp [intOf]; omega
        · obtain rfl : q = k := by omega
          have HN2 := hid (HST.out.trans (by rw [HA.out, HOK1.out, HAJ.out] <;> rfl))
          clear HR0 HR1 HMI HOK1 HST HA HQ1 HQS HQM HAJ
          go_wp2
          go_roundw
          case rel => exact ⟨hE, K0, q + 1, by omega, by go_num, HN2⟩
          case measure => simp [intOf]; omega
    · obtain rfl : k = m := by omega
      have HRR := hid (HR1.out HA.out)
      clear HR0 HR1 HA
      go_wp2
      go_ret
      exact ⟨ret_int HRR.out.symm, hE⟩
end Go.Proofs.YtecamnhnjmldcaaGreatDoor
