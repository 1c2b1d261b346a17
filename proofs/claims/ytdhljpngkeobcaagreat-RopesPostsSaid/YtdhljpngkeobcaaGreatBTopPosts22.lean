/- level of the specification. -/
import Derived.Test.YtdhljpngkeobcaaGreatBTopPosts21
set_option linter.unusedSimpArgs false
set_option linter.unusedVariables false
namespace Go.Proofs.YtdhljpngkeobcaaGreat
open Go.RowKit
def lvS (ps : List Po) (lim yrs : Int) (es : List Nat) : Bool := (List.range es.length).all fun i => (List.range es.length).all fun k => !(decide (i < k) && tiltB lim yrs (ps.getD (es.getD i 0) zeroPo) (ps.getD (es.getD k 0) zeroPo))
theorem lvS_bad {ps : List Po} {lim yrs : Int} {es : List Nat} {i k : Nat} (hik : i < k) (hk : k < es.length) (h : tiltB lim yrs (ps.getD (es.getD i 0) zeroPo) (ps.getD (es.getD k 0) zeroPo) = true) : lvS ps lim yrs es = false := by
  unfold lvS
  rw [List.all_eq_false]
  refine ⟨i, List.mem_range.2 (by omega), ?_⟩
  rw [Bool.not_eq_true, List.all_eq_false]
  exact ⟨k, List.mem_range.2 hk, by rw [h, decide_eq_true hik]; decide⟩
theorem lvS_end {ps : List Po} {lim yrs : Int} {es : List Nat} (h : ∀ i, i < es.length → ∀ k, i < k → k < es.length → tiltB lim yrs (ps.getD (es.getD i 0) zeroPo) (ps.getD (es.getD k 0) zeroPo) = false) : lvS ps lim yrs es = true := by
  unfold lvS
  rw [List.all_eq_true]
  intro i hi
  rw [List.all_eq_true]
  intro k hk
  by_cases hik : i < k
  · rw [h i (List.mem_range.1 hi) k hik (List.mem_range.1 hk)]; simp
  · rw [decide_eq_false hik]; rfl
theorem lvS_levB (ps : List Po) (lim yrs : Int) (es : List Nat) : lvS ps lim yrs es = levB (es.map fun e => ps.getD e zeroPo) lim yrs := by
  have hg : ∀ i, i < es.length → (es.map fun e => ps.getD e zeroPo).getD i zeroPo = ps.getD (es.getD i 0) zeroPo := fun i hi => by
    rw [List.getD_eq_getElem?_getD, List.getElem?_map, List.getD_eq_getElem?_getD (l := es), List.getElem?_eq_getElem hi]
    rfl
  rw [Bool.eq_iff_iff]
  unfold lvS levB
  rw [List.length_map]
  simp only [List.all_eq_true, List.mem_range]
  constructor
  · intro h i hi j hj
    have := h j (by omega) i hi
    rw [decide_eq_true hj, Bool.true_and] at this
    rw [hg i hi, hg j (by omega)]
    exact this
  · intro h i hi k hk
    by_cases hik : i < k
    · have := h k hk i hik
      rw [hg i hi, hg k hk] at this
      rw [decide_eq_true hik, Bool.true_and]
      exact this
    · rw [decide_eq_false hik]; rfl
theorem memL_len (x : Nat) : (memL x).length = (elemsL 8 x).length := by unfold memL; rw [List.length_map]
theorem memL_at (x i : Nat) (h : i < (elemsL 8 x).length) : (memL x).getD i 0 = (((elemsL 8 x).getD i 0 : Nat) : Int) := by
  unfold memL
  rw [List.getD_eq_getElem?_getD, List.getElem?_map, List.getD_eq_getElem?_getD (l := elemsL 8 x), List.getElem?_eq_getElem h]
  rfl
theorem elems_len (x : Nat) : (elemsL 8 x).length ≤ 8 := by
  unfold elemsL
  exact Nat.le_trans (List.length_filter_le _ _) (by simp)
set_option maxRecDepth 100000 in
set_option maxHeartbeats 8000000 in
theorem rlevel_any (ps : List Po) (x : Nat) (hx8 : x < 256) (hes : ∀ e ∈ elemsL 8 x, e < ps.length) (A : Option Addr) (n c : Nat) (hn : ps.length = n) (hp : ∀ p ∈ ps, poB p = true) (lim yrs : Int) (hl : 0 ≤ lim ∧ lim ≤ 1000) (hyr : 0 ≤ yrs ∧ yrs ≤ 101) (w : World) (hx : PosAt w A ps) :
    Calls Tryz.prog 92 #[.slice A n c, .int .i64 x, .int .i64 lim, .int .i64 yrs] w fun e w' => e = .returned (.bool (lvS ps lim yrs (elemsL 8 x))) ∧ Ext w w' := by
  have HM := hid (fun W => rmembers_any x hx8 W)
  have HC := hid (fun (i j : Nat) (hi : i < n) (hj : j < n) (W : World) (hE : Ext w W) => rcan_any ps A n c hn hp i j hi hj lim yrs hl hyr W (hx.ext hE))
  have HES := hid (fun i (hi : i < (elemsL 8 x).length) => show (elemsL 8 x).getD i 0 < n by
    rw [← hn]
    apply hes
    simp [List.getD, List.getElem?_eq_getElem hi])
  have HAT := hid (fun i (hi : i < (elemsL 8 x).length) => memL_at x i hi)
  have HLN := hid (memL_len x)
  have h8 := elems_len x
  have HBD := hid (fun i k (hik : i < k) (hk : k < (elemsL 8 x).length) h => lvS_bad (ps := ps) (lim := lim) (yrs := yrs) (es := elemsL 8 x) hik hk h)
  have HEN := hid (fun h => lvS_end (ps := ps) (lim := lim) (yrs := yrs) (es := elemsL 8 x) h)
  obtain ⟨RR, hRR⟩ : ∃ b, lvS ps lim yrs (elemsL 8 x) = b := ⟨_, rfl⟩
  rw [hRR] at HBD HEN ⊢
  clear hRR hx hn hp hes
  generalize memL x = L at *
  generalize elemsL 8 x = es at *
  generalize hTB : (fun i j : Nat => tiltB lim yrs (ps.getD i zeroPo) (ps.getD j zeroPo)) = TB at *
  have hTe : ∀ i j, tiltB lim yrs (ps.getD i zeroPo) (ps.getD j zeroPo) = TB i j := fun i j => by rw [← hTB]
  simp only [hTe] at HC HBD HEN
  clear hTB hTe
  obtain ⟨m, hm⟩ : ∃ m, es.length = m := ⟨_, rfl⟩
  rw [hm] at HES HAT HLN h8 HBD HEN
  clear hm hx8
  go_enter Tryz.func92, Tryz.ntmps92
  go_wp2_with fail
  refine Calls.mono (HM.out _) ?_
  rintro e w2 ⟨LA, lc, rfl, hI, hE2⟩
  have HI := hid hI
  have HX2 := hid hE2
  rw [HLN.out]
  clear hI hE2 HM
  go_wp2
  go_loopw [10] (fun i wr => Ext w wr ∧ Ext w2 wr ∧ ∃ k : Nat, k ≤ m ∧ i = .int .i64 k ∧ Hid (∀ i, i < k → ∀ j, i < j → j < m → TB (es.getD i 0) (es.getD j 0) = false)) (fun i _ => m - (intOf i).toNat)
  case atStart => exact ⟨HX2.out, Ext.refl _, 0, Nat.zero_le _, rfl, hid (fun i hi => by omega)⟩
  case round =>
    obtain ⟨hE, hE2, i, hi, rfl, HA⟩ := hrel
    by_cases hlt : i < m
    · have hi1 : (i : Int) < (m : Int) := by omega
      have hi0 : (0 : Int) ≤ (i : Int) := by omega
      have hw1 : IntKind.i64.wrap ((i : Int) + 1) = ((i + 1 : Nat) : Int) := by rw [IntWalk.i64_in _ (by omega)]; omega
      obtain ⟨wo, hwo⟩ : ∃ wo, wo = wr := ⟨_, rfl⟩
      subst hwo
      go_wp2
      go_loopw [11] (fun u wx => Ext w wx ∧ Ext w2 wx ∧ ∃ k : Nat, i < k ∧ k ≤ m ∧ u = .int .i64 k ∧ Hid (∀ j, i < j → j < k → TB (es.getD i 0) (es.getD j 0) = false)) (fun u _ => m - (intOf u).toNat)
      case atStart => exact ⟨hE, hE2, i + 1, by omega, by omega, by first | rfl | go_num, hid (fun j h1 h2 => by omega)⟩
      case round =>
        obtain ⟨hF, hF2, k, hik, hk, rfl, HB⟩ := hrel
        by_cases hlt2 : k < m
        · obtain ⟨b, off, rfl, hb, hc⟩ := (HI.out.ext hF2) (fun h => by have := HLN.out; rw [h] at this; simp at this; omega)
          have q1 := hc i (by have := HLN.out; omega)
          have q2 := hc k (by have := HLN.out; omega)
          rw [HAT.out i hlt] at q1
          rw [HAT.out k hlt2] at q2
          have HCk := hid (HC.out (es.getD i 0) (es.getD k 0) (HES.out i hlt) (HES.out k hlt2))
          have HBDk := hid (HBD.out i k hik hlt2)
          obtain ⟨tb, htb⟩ : ∃ tb, TB (es.getD i 0) (es.getD k 0) = tb := ⟨_, rfl⟩
          rw [htb] at HCk HBDk
          have HTB := hid htb
          have hk0 : (0 : Int) ≤ (k : Int) := by omega
          have hk1 : (k : Int) < (m : Int) := by omega
          clear hc htb HC HES HAT HBD HEN
          generalize es.getD i 0 = ei at *
          cases tb
          · have HB2 := hid (show ∀ j, i < j → j < k + 1 → TB ei (es.getD j 0) = false from fun j h1 h2 => by
              rcases Nat.lt_succ_iff_lt_or_eq.1 h2 with h | rfl
              · exact HB.out j h1 h
              · exact HTB.out)
            generalize es.getD k 0 = ek at *
            go_wp2_with fail
            refine wp_region_held_drew (S := fun w' => (∀ b o, b < wr.heap.size → w'.cell? ⟨b, o, none⟩ = wr.cell? ⟨b, o, none⟩) ∧ wr.heap.size ≤ w'.heap.size ∧ Ext wr w') (by kernel_rfl) ?hS0 (fun hHeld => ?_)
            case hS0 => exact sK (Ext.drew (Ext.refl _))
            have X0 : Ext wr wr.drew := Ext.drew (Ext.refl wr)
            have EX := X0
            obtain ⟨X, hX⟩ : ∃ X, wr.drew = X := ⟨_, rfl⟩
            rw [hX] at EX hHeld ⊢
            clear hX X0
            refine tk1 (i := 0) (v := ?v0a) rfl ?y0a ?r0a
            case y0a => (intro w' hSw; (try dsimp only at hSw); go_simp; (try with_reducible rfl))
            try simp only [Act.put, sq1, sq2, sq3, sq4, sq5, sq6]
            refine tk1 (i := 1) (v := ?v1a) rfl ?y1a ?r1a
            case y1a => (intro w' hSw; (try dsimp only at hSw); go_simp; (try with_reducible rfl))
            try simp only [Act.put, sq1, sq2, sq3, sq4, sq5, sq6]
            refine tk1 (i := 2) (v := ?v2a) rfl ?y2a ?r2a
            case y2a => (intro w' hSw; (try dsimp only at hSw); go_simp; (try with_reducible rfl))
            try simp only [Act.put, sq1, sq2, sq3, sq4, sq5, sq6]
            refine tk1 (i := 3) (v := ?v3a) rfl ?y3a ?r3a
            case y3a => (intro w' hSw; (try dsimp only at hSw); go_simp; (try with_reducible rfl))
            try simp only [Act.put, sq1, sq2, sq3, sq4, sq5, sq6]
            refine tk1 (i := 4) (v := ?v4a) rfl ?y4a ?r4a
            case y4a => (intro w' hSw; (try dsimp only at hSw); go_simp; (try with_reducible rfl))
            try simp only [Act.put, sq1, sq2, sq3, sq4, sq5, sq6]
            refine tk1 (i := 5) (v := ?v5a) rfl ?y5a ?r5a
            case y5a => (intro w' hSw; (try dsimp only at hSw); go_simp; (try with_reducible rfl))
            try simp only [Act.put, sq1, sq2, sq3, sq4, sq5, sq6]
            refine tk1 (i := 6) (v := ?v6a) rfl ?y6a ?r6a
            case y6a => (intro w' hSw; (try dsimp only at hSw); go_simp; (try with_reducible rfl))
            try simp only [Act.put, sq1, sq2, sq3, sq4, sq5, sq6]
            refine tk1 (i := 7) (v := ?v7a) rfl ?y7a ?r7a
            case y7a => (intro w' hSw; (try dsimp only at hSw); go_simp; (try with_reducible rfl))
            try simp only [Act.put, sq1, sq2, sq3, sq4, sq5, sq6]
            refine tk1 (i := 8) (v := ?v8a) rfl ?y8a ?r8a
            case y8a => (intro w' hSw; (try dsimp only at hSw); go_simp; (try with_reducible rfl))
            try simp only [Act.put, sq1, sq2, sq3, sq4, sq5, sq6]
            refine tk1 (i := 9) (v := ?v9a) rfl ?y9a ?r9a
            case y9a => (intro w' hSw; (try dsimp only at hSw); go_simp; (try with_reducible rfl))
            try simp only [Act.put, sq1, sq2, sq3, sq4, sq5, sq6]
            refine tk1 (i := 10) (v := ?v10a) rfl ?y10a ?r10a
            case y10a => (intro w' hSw; (try dsimp only at hSw); go_simp; (try with_reducible rfl))
            try simp only [Act.put, sq1, sq2, sq3, sq4, sq5, sq6]
            refine wpAnyH_ready (rs := [11]) (by kernel_rfl) (by simp) ?_
            refine AllReadyH.cons (o := _) rfl (fun K hK => ?_) AllReadyH.nil
            go_simp
            refine Calls.mono (HCk.out _ (hF.trans EX)) ?_
            rintro e X ⟨rfl, hEX⟩
            dsimp only
            replace EX := EX.trans hEX
            clear hHeld hEX
            refine hK.out _ _ (sK EX) (fun hHeld => ?_)
            clear hK K
            try simp only [Act.put, sq1, sq2, sq3, sq4, sq5, sq6]
            refine wpAnyH_done (by kernel_rfl) ?_ _
            have HEE := hid (hF.trans EX)
            have HFF := hid (hF2.trans EX)
            clear hHeld EX
            go_wp2
            go_roundw
            case rel => exact ⟨HEE.out, HFF.out, k + 1, by omega, by omega, by go_num, HB2⟩
            case measure => simp [intOf]; omega
          · have HR := hid (HBDk.out rfl)
            generalize es.getD k 0 = ek at *
            go_wp2_with fail
            refine wp_region_held_drew (S := fun w' => (∀ b o, b < wr.heap.size → w'.cell? ⟨b, o, none⟩ = wr.cell? ⟨b, o, none⟩) ∧ wr.heap.size ≤ w'.heap.size ∧ Ext wr w') (by kernel_rfl) ?hS0 (fun hHeld => ?_)
            case hS0 => exact sK (Ext.drew (Ext.refl _))
            have X0 : Ext wr wr.drew := Ext.drew (Ext.refl wr)
            have EX := X0
            obtain ⟨X, hX⟩ : ∃ X, wr.drew = X := ⟨_, rfl⟩
            rw [hX] at EX hHeld ⊢
            clear hX X0
            refine tk1 (i := 0) (v := ?v0b) rfl ?y0b ?r0b
            case y0b => (intro w' hSw; (try dsimp only at hSw); go_simp; (try with_reducible rfl))
            try simp only [Act.put, sq1, sq2, sq3, sq4, sq5, sq6]
            refine tk1 (i := 1) (v := ?v1b) rfl ?y1b ?r1b
            case y1b => (intro w' hSw; (try dsimp only at hSw); go_simp; (try with_reducible rfl))
            try simp only [Act.put, sq1, sq2, sq3, sq4, sq5, sq6]
            refine tk1 (i := 2) (v := ?v2b) rfl ?y2b ?r2b
            case y2b => (intro w' hSw; (try dsimp only at hSw); go_simp; (try with_reducible rfl))
            try simp only [Act.put, sq1, sq2, sq3, sq4, sq5, sq6]
            refine tk1 (i := 3) (v := ?v3b) rfl ?y3b ?r3b
            case y3b => (intro w' hSw; (try dsimp only at hSw); go_simp; (try with_reducible rfl))
            try simp only [Act.put, sq1, sq2, sq3, sq4, sq5, sq6]
            refine tk1 (i := 4) (v := ?v4b) rfl ?y4b ?r4b
            case y4b => (intro w' hSw; (try dsimp only at hSw); go_simp; (try with_reducible rfl))
            try simp only [Act.put, sq1, sq2, sq3, sq4, sq5, sq6]
            refine tk1 (i := 5) (v := ?v5b) rfl ?y5b ?r5b
            case y5b => (intro w' hSw; (try dsimp only at hSw); go_simp; (try with_reducible rfl))
            try simp only [Act.put, sq1, sq2, sq3, sq4, sq5, sq6]
            refine tk1 (i := 6) (v := ?v6b) rfl ?y6b ?r6b
            case y6b => (intro w' hSw; (try dsimp only at hSw); go_simp; (try with_reducible rfl))
            try simp only [Act.put, sq1, sq2, sq3, sq4, sq5, sq6]
            refine tk1 (i := 7) (v := ?v7b) rfl ?y7b ?r7b
            case y7b => (intro w' hSw; (try dsimp only at hSw); go_simp; (try with_reducible rfl))
            try simp only [Act.put, sq1, sq2, sq3, sq4, sq5, sq6]
            refine tk1 (i := 8) (v := ?v8b) rfl ?y8b ?r8b
            case y8b => (intro w' hSw; (try dsimp only at hSw); go_simp; (try with_reducible rfl))
            try simp only [Act.put, sq1, sq2, sq3, sq4, sq5, sq6]
            refine tk1 (i := 9) (v := ?v9b) rfl ?y9b ?r9b
            case y9b => (intro w' hSw; (try dsimp only at hSw); go_simp; (try with_reducible rfl))
            try simp only [Act.put, sq1, sq2, sq3, sq4, sq5, sq6]
            refine tk1 (i := 10) (v := ?v10b) rfl ?y10b ?r10b
            case y10b => (intro w' hSw; (try dsimp only at hSw); go_simp; (try with_reducible rfl))
            try simp only [Act.put, sq1, sq2, sq3, sq4, sq5, sq6]
            refine wpAnyH_ready (rs := [11]) (by kernel_rfl) (by simp) ?_
            refine AllReadyH.cons (o := _) rfl (fun K hK => ?_) AllReadyH.nil
            go_simp
            refine Calls.mono (HCk.out _ (hF.trans EX)) ?_
            rintro e X ⟨rfl, hEX⟩
            dsimp only
            replace EX := EX.trans hEX
            clear hHeld hEX
            refine hK.out _ _ (sK EX) (fun hHeld => ?_)
            clear hK K
            try simp only [Act.put, sq1, sq2, sq3, sq4, sq5, sq6]
            refine wpAnyH_done (by kernel_rfl) ?_ _
            have HEE := hid (hF.trans EX)
            have HFF := hid (hF2.trans EX)
            clear hHeld EX
            go_wp2
            go_ret
            exact ⟨ret_bool HR.out.symm, HEE.out⟩
        · obtain rfl : k = m := by omega
          have HA2 := hid (show ∀ i', i' < i + 1 → ∀ j, i' < j → j < k → TB (es.getD i' 0) (es.getD j 0) = false from fun i' h1 j h2 h3 => by
            rcases Nat.lt_succ_iff_lt_or_eq.1 h1 with h | rfl
            · exact HA.out i' h j h2 h3
            · exact HB.out j h2 h3)
          clear HC HES HAT HBD HEN
          go_wp2
          go_roundw
          case rel => exact ⟨hF, hF2, i + 1, by omega, by go_num, HA2⟩
          case measure => simp [intOf]; omega
    · obtain rfl : i = m := by omega
      have HR := hid (HEN.out HA.out)
      go_wp2
      go_ret
      exact ⟨ret_bool HR.out.symm, hE⟩
end Go.Proofs.YtdhljpngkeobcaaGreat
