/- AreRules of the specification. -/
import Derived.Test.YtecamnhnjmldcaaGreatDoorBTopOpens33
import Derived.Test.YtecamnhnjmldcaaGreatDoorB22
set_option linter.unusedSimpArgs false
set_option linter.unusedVariables false
namespace Go.Proofs.YtecamnhnjmldcaaGreatDoor
open Go.RowKit
theorem isPath_in (a : Int) (n : Nat) : (decide (0 ≤ a) && decide (a < (n : Int))) = inI a 0 ((n : Int) - 1) := by
  unfold inI
  rw [show decide (a < (n : Int)) = decide (a ≤ (n : Int) - 1) from decide_eq_decide.2 (by omega)]
set_option maxHeartbeats 4000000 in
set_option maxRecDepth 100000 in
theorem rAreRules_any (m : Int) (NA : Option Addr) (nn nc : Nat) (hnn : nn ≤ 1000) (rs : List Rl) (RA : Option Addr) (rn rc : Nat) (hrn : rs.length = rn) (hrm : rn ≤ 1000) (w : World) (hr : RlsAt w RA rs) :
    Calls Tryz.prog 72 #[.agg #[.int .i64 m, .slice NA nn nc], .slice RA rn rc] w fun e w' => e = .returned (.bool (rlsB nn rs)) ∧ Ext w w' := by
  have HX := hid hr
  have HN := hid hrn
  have HIP := hid (fun a W => by
    have := rIsPath_any a (.int .i64 m) NA nn nc hnn W
    rw [isPath_in] at this
    exact this)
  have HLM := hid (fun l W => rLimits_any l W)
  have HWI := hid (fun a W => (rWithin_any a 0 48 W).mono fun e w' hw => show e = .returned (.bool (inI a 0 48)) ∧ Ext W w' from ⟨hw.1, by rw [hw.2]; exact Ext.refl _⟩)
  have HST := hid (all_take_snoc rs (rlB nn) zeroRl)
  have HBD := hid (fun k (hk : k < rs.length) (h : rlB nn (rs.getD k zeroRl) = false) => show rlsB nn rs = false by
    unfold rlsB
    rw [all_of_at rs (rlB nn) zeroRl k hk h]
    simp)
  have HEN := hid (fun (h : (rs.take rn).all (rlB nn) = true) => show rlsB nn rs = decide (rn ≤ 12) by
    unfold rlsB
    rw [all_true_end h (by rw [hrn]; exact Nat.le_refl _), hrn, Bool.and_true])
  have HRB := hid (fun r : Rl => show rlB nn r = (inI r.path 0 ((nn : Int) - 1) && (lmB r.lim && inI r.after 0 48)) from rfl)
  have B0 := hid (show Blk _ _ _ _ from blk_last w (.cells #[.int .i64 m, .slice NA nn nc] 47))
  clear hr hrn
  generalize rlB nn = RB at *
  generalize rlsB nn rs = R at *
  generalize hII : (fun a : Int => inI a 0 ((nn : Int) - 1)) = II at *
  have hIe : ∀ a : Int, inI a 0 ((nn : Int) - 1) = II a := fun a => by rw [← hII]
  simp only [hIe] at HIP HRB
  clear hII hIe
  go_enter Tryz.func72, Tryz.ntmps72
  go_wp2
  go_loopw [5] (fun i wr => Ext w wr ∧ Hid (Blk wr w.heap.size 47 #[.int .i64 m, .slice NA nn nc]) ∧ ∃ k : Nat, k ≤ rn ∧ i = .int .i64 k ∧ Hid ((rs.take k).all RB = true)) (fun i _ => rn - (intOf i).toNat)
  case atStart => exact ⟨by (repeat' (first | with_reducible assumption | with_reducible exact Ext.refl _ | with_reducible refine Ext.alloc ?_ _ | with_reducible refine Ext.set ?_ ?_ _ | with_reducible refine Ext.drew ?_ | with_reducible refine Ext.drewN ?_ _ | with_reducible refine Ext.trans ?_ (by assumption) | (dsimp only; omega))), B0, 0, Nat.zero_le _, rfl, hid rfl⟩
  case round =>
    obtain ⟨E, K0, k, hk, rfl, HA⟩ := hrel
    clear B0
    obtain ⟨a0, a1⟩ : _ ∧ _ := ⟨K0.out.cell 0, K0.out.cell 1⟩
    have z0 := K0.out.lt
    simp only [List.getElem?_toArray, List.getElem?_cons_zero, List.getElem?_cons_succ] at a0 a1
    by_cases hlt : k < rn
    · obtain ⟨b, off, rfl, hb0, d0, d1, d2, d3, d4, d5⟩ := HX.out.at_ HN.out hlt
      have hkl : k < rs.length := by rw [HN.out]; exact hlt
      have HST1 := hid (HST.out k hkl)
      have HBD1 := hid (HBD.out k hkl)
      obtain ⟨r, hre⟩ : ∃ r, rs.getD k zeroRl = r := ⟨_, rfl⟩
      rw [hre] at d0 d1 d2 d3 d4 d5 HST1 HBD1
      clear hre hkl
      have HRB1 := hid (HRB.out r)
      obtain ⟨pa, af, lm⟩ := r
      have HX1 := hid (HIP.out pa)
      have HX2 := hid (HLM.out lm)
      have HX3 := hid (HWI.out af)
      unfold Lm.val at HX2
      dsimp only at d0 d1 d2 d3 d4 d5 HRB1
      generalize II pa = x1 at *
      generalize lmB lm = x2 at *
      generalize inI af 0 48 = x3 at *
      obtain ⟨wi, ra, tl, th⟩ := lm
      dsimp only at d0 d1 d2 d3 d4 d5 HX2
      replace d0 := (E.cell (p := ⟨b, _, none⟩) hb0).trans d0
      replace d1 := (E.cell (p := ⟨b, _, none⟩) hb0).trans d1
      replace d2 := (E.cell (p := ⟨b, _, none⟩) hb0).trans d2
      replace d3 := (E.cell (p := ⟨b, _, none⟩) hb0).trans d3
      replace d4 := (E.cell (p := ⟨b, _, none⟩) hb0).trans d4
      replace d5 := (E.cell (p := ⟨b, _, none⟩) hb0).trans d5
      have hbw := Nat.lt_of_lt_of_le hb0 E.size
      have hk0 : (0 : Int) ≤ (k : Int) := by omega
      have hk1 : (k : Int) < (rn : Int) := by omega
      clear HST HBD HIP HLM HWI HRB
      cases x1
      case false =>
        have HRR := hid (HBD1.out (by rw [HRB1.out]; rfl))
        clear HST1 HBD1 HRB1 HA HEN
        go_wp2_with fail
        refine wp_region_held_drew (S := fun w' => (∀ b o, b < wr.heap.size → w'.cell? ⟨b, o, none⟩ = wr.cell? ⟨b, o, none⟩) ∧ wr.heap.size ≤ w'.heap.size ∧ Ext wr w') (by kernel_rfl) ?hS0 (fun hHeld => ?_)
        case hS0 => exact sK (Ext.drew (Ext.refl _))
        have X0 : Ext wr wr.drew := Ext.drew (Ext.refl wr)
        have EX := X0
        obtain ⟨X, hX⟩ : ∃ X, wr.drew = X := ⟨_, rfl⟩
        rw [hX] at EX hHeld ⊢
        clear hX X0
        refine tk1 (i := 0) (v := ?v0au) rfl ?y0au ?r0au
        case y0au => (intro w' hSw; (try dsimp only at hSw); go_simp; (try with_reducible rfl))
        try simp only [Act.put, sq1, sq2, sq3, sq4, sq5, sq6]
        refine tk1 (i := 1) (v := ?v1au) rfl ?y1au ?r1au
        case y1au => (intro w' hSw; (try dsimp only at hSw); go_simp; (try with_reducible rfl))
        try simp only [Act.put, sq1, sq2, sq3, sq4, sq5, sq6]
        refine tk1 (i := 2) (v := ?v2au) rfl ?y2au ?r2au
        case y2au => (intro w' hSw; (try dsimp only at hSw); go_simp; (try with_reducible rfl))
        try simp only [Act.put, sq1, sq2, sq3, sq4, sq5, sq6]
        refine tk1 (i := 3) (v := ?v3au) rfl ?y3au ?r3au
        case y3au => (intro w' hSw; (try dsimp only at hSw); go_simp; (try with_reducible rfl))
        try simp only [Act.put, sq1, sq2, sq3, sq4, sq5, sq6]
        refine tk1 (i := 4) (v := ?v4au) rfl ?y4au ?r4au
        case y4au => (intro w' hSw; (try dsimp only at hSw); go_simp; (try with_reducible rfl))
        try simp only [Act.put, sq1, sq2, sq3, sq4, sq5, sq6]
        refine tk1 (i := 5) (v := ?v5au) rfl ?y5au ?r5au
        case y5au => (intro w' hSw; (try dsimp only at hSw); go_simp; (try with_reducible rfl))
        try simp only [Act.put, sq1, sq2, sq3, sq4, sq5, sq6]
        refine wpAnyH_ready (rs := [6]) (by kernel_rfl) (by simp) ?_
        refine AllReadyH.cons (o := _) rfl (fun K hK => ?_) AllReadyH.nil
        go_simp
        refine Calls.mono (HX1.out _) ?_
        rintro e X ⟨rfl, hEX⟩
        dsimp only
        replace EX := EX.trans hEX
        (try replace OB := hid (OB.out.ext hEX))
        (try replace IS := hid (IS.out.ext hEX))
        clear hHeld hEX
        refine hK.out _ _ (sK EX) (fun hHeld => ?_)
        clear hK K
        try simp only [Act.put, sq1, sq2, sq3, sq4, sq5, sq6]
        refine tk1 (i := 7) (v := ?v7bu) rfl ?y7bu ?r7bu
        case y7bu => (intro w' hSw; (try dsimp only at hSw); go_simp; (try with_reducible rfl))
        try simp only [Act.put, sq1, sq2, sq3, sq4, sq5, sq6]
        refine tk1 (i := 8) (v := ?v8bu) rfl ?y8bu ?r8bu
        case y8bu => (intro w' hSw; (try dsimp only at hSw); go_simp; (try with_reducible rfl))
        try simp only [Act.put, sq1, sq2, sq3, sq4, sq5, sq6]
        refine tku1 (i := 9) rfl ?r9cu
        try simp only [Act.put, sq1, sq2, sq3, sq4, sq5, sq6]
        refine tku1 (i := 10) rfl ?r10cu
        try simp only [Act.put, sq1, sq2, sq3, sq4, sq5, sq6]
        refine tku1 (i := 11) rfl ?r11cu
        try simp only [Act.put, sq1, sq2, sq3, sq4, sq5, sq6]
        refine tku1 (i := 12) rfl ?r12cu
        try simp only [Act.put, sq1, sq2, sq3, sq4, sq5, sq6]
        refine tku1 (i := 13) rfl ?r13cu
        try simp only [Act.put, sq1, sq2, sq3, sq4, sq5, sq6]
        refine tku1 (i := 14) rfl ?r14cu
        try simp only [Act.put, sq1, sq2, sq3, sq4, sq5, sq6]
        refine tku1 (i := 15) rfl ?r15cu
        try simp only [Act.put, sq1, sq2, sq3, sq4, sq5, sq6]
        refine tk1 (i := 16) (v := ?v16du) rfl ?y16du ?r16du
        case y16du => (intro w' hSw; (try dsimp only at hSw); go_simp; (try with_reducible rfl))
        try simp only [Act.put, sq1, sq2, sq3, sq4, sq5, sq6]
        refine tk1 (i := 17) (v := ?v17du) rfl ?y17du ?r17du
        case y17du => (intro w' hSw; (try dsimp only at hSw); go_simp; (try with_reducible rfl))
        try simp only [Act.put, sq1, sq2, sq3, sq4, sq5, sq6]
        refine tku1 (i := 18) rfl ?r18eu
        try simp only [Act.put, sq1, sq2, sq3, sq4, sq5, sq6]
        refine tku1 (i := 19) rfl ?r19eu
        try simp only [Act.put, sq1, sq2, sq3, sq4, sq5, sq6]
        refine tku1 (i := 20) rfl ?r20eu
        try simp only [Act.put, sq1, sq2, sq3, sq4, sq5, sq6]
        refine tku1 (i := 21) rfl ?r21eu
        try simp only [Act.put, sq1, sq2, sq3, sq4, sq5, sq6]
        refine tku1 (i := 22) rfl ?r22eu
        try simp only [Act.put, sq1, sq2, sq3, sq4, sq5, sq6]
        refine tku1 (i := 23) rfl ?r23eu
        try simp only [Act.put, sq1, sq2, sq3, sq4, sq5, sq6]
        refine tku1 (i := 24) rfl ?r24eu
        try simp only [Act.put, sq1, sq2, sq3, sq4, sq5, sq6]
        refine tk1 (i := 25) (v := ?v25fu) rfl ?y25fu ?r25fu
        case y25fu => (intro w' hSw; (try dsimp only at hSw); go_simp; (try with_reducible rfl))
        try simp only [Act.put, sq1, sq2, sq3, sq4, sq5, sq6]
        refine wpAnyH_done (by kernel_rfl) ?_ _
        have HEE := hid (E.trans EX)
        clear hHeld EX HX1 HX2 HX3
        go_wp2
        go_ret
        exact ⟨ret_bool HRR.out.symm, HEE.out⟩
      cases x2
      case false =>
        have HRR := hid (HBD1.out (by rw [HRB1.out]; rfl))
        clear HST1 HBD1 HRB1 HA HEN
        go_wp2_with fail
        refine wp_region_held_drew (S := fun w' => (∀ b o, b < wr.heap.size → w'.cell? ⟨b, o, none⟩ = wr.cell? ⟨b, o, none⟩) ∧ wr.heap.size ≤ w'.heap.size ∧ Ext wr w') (by kernel_rfl) ?hS0 (fun hHeld => ?_)
        case hS0 => exact sK (Ext.drew (Ext.refl _))
        have X0 : Ext wr wr.drew := Ext.drew (Ext.refl wr)
        have EX := X0
        obtain ⟨X, hX⟩ : ∃ X, wr.drew = X := ⟨_, rfl⟩
        rw [hX] at EX hHeld ⊢
        clear hX X0
        refine tk1 (i := 0) (v := ?v0av) rfl ?y0av ?r0av
        case y0av => (intro w' hSw; (try dsimp only at hSw); go_simp; (try with_reducible rfl))
        try simp only [Act.put, sq1, sq2, sq3, sq4, sq5, sq6]
        refine tk1 (i := 1) (v := ?v1av) rfl ?y1av ?r1av
        case y1av => (intro w' hSw; (try dsimp only at hSw); go_simp; (try with_reducible rfl))
        try simp only [Act.put, sq1, sq2, sq3, sq4, sq5, sq6]
        refine tk1 (i := 2) (v := ?v2av) rfl ?y2av ?r2av
        case y2av => (intro w' hSw; (try dsimp only at hSw); go_simp; (try with_reducible rfl))
        try simp only [Act.put, sq1, sq2, sq3, sq4, sq5, sq6]
        refine tk1 (i := 3) (v := ?v3av) rfl ?y3av ?r3av
        case y3av => (intro w' hSw; (try dsimp only at hSw); go_simp; (try with_reducible rfl))
        try simp only [Act.put, sq1, sq2, sq3, sq4, sq5, sq6]
        refine tk1 (i := 4) (v := ?v4av) rfl ?y4av ?r4av
        case y4av => (intro w' hSw; (try dsimp only at hSw); go_simp; (try with_reducible rfl))
        try simp only [Act.put, sq1, sq2, sq3, sq4, sq5, sq6]
        refine tk1 (i := 5) (v := ?v5av) rfl ?y5av ?r5av
        case y5av => (intro w' hSw; (try dsimp only at hSw); go_simp; (try with_reducible rfl))
        try simp only [Act.put, sq1, sq2, sq3, sq4, sq5, sq6]
        refine wpAnyH_ready (rs := [6]) (by kernel_rfl) (by simp) ?_
        refine AllReadyH.cons (o := _) rfl (fun K hK => ?_) AllReadyH.nil
        go_simp
        refine Calls.mono (HX1.out _) ?_
        rintro e X ⟨rfl, hEX⟩
        dsimp only
        replace EX := EX.trans hEX
        (try replace OB := hid (OB.out.ext hEX))
        (try replace IS := hid (IS.out.ext hEX))
        clear hHeld hEX
        refine hK.out _ _ (sK EX) (fun hHeld => ?_)
        clear hK K
        try simp only [Act.put, sq1, sq2, sq3, sq4, sq5, sq6]
        refine tk1 (i := 7) (v := ?v7bv) rfl ?y7bv ?r7bv
        case y7bv => (intro w' hSw; (try dsimp only at hSw); go_simp; (try with_reducible rfl))
        try simp only [Act.put, sq1, sq2, sq3, sq4, sq5, sq6]
        refine tk1 (i := 8) (v := ?v8bv) rfl ?y8bv ?r8bv
        case y8bv => (intro w' hSw; (try dsimp only at hSw); go_simp; (try with_reducible rfl))
        try simp only [Act.put, sq1, sq2, sq3, sq4, sq5, sq6]
        refine tk1 (i := 9) (v := ?v9cv) rfl ?y9cv ?r9cv
        case y9cv => (intro w' hSw; (try dsimp only at hSw); go_simp; (try with_reducible rfl))
        try simp only [Act.put, sq1, sq2, sq3, sq4, sq5, sq6]
        refine tk1 (i := 10) (v := ?v10cv) rfl ?y10cv ?r10cv
        case y10cv => (intro w' hSw; (try dsimp only at hSw); go_simp; (try with_reducible rfl))
        try simp only [Act.put, sq1, sq2, sq3, sq4, sq5, sq6]
        refine tk1 (i := 11) (v := ?v11cv) rfl ?y11cv ?r11cv
        case y11cv => (intro w' hSw; (try dsimp only at hSw); go_simp; (try with_reducible rfl))
        try simp only [Act.put, sq1, sq2, sq3, sq4, sq5, sq6]
        refine tk1 (i := 12) (v := ?v12cv) rfl ?y12cv ?r12cv
        case y12cv => (intro w' hSw; (try dsimp only at hSw); go_simp; (try with_reducible rfl))
        try simp only [Act.put, sq1, sq2, sq3, sq4, sq5, sq6]
        refine tk1 (i := 13) (v := ?v13cv) rfl ?y13cv ?r13cv
        case y13cv => (intro w' hSw; (try dsimp only at hSw); go_simp; (try with_reducible rfl))
        try simp only [Act.put, sq1, sq2, sq3, sq4, sq5, sq6]
        refine wpAnyH_ready (rs := [14]) (by kernel_rfl) (by simp) ?_
        refine AllReadyH.cons (o := _) rfl (fun K hK => ?_) AllReadyH.nil
        go_simp
        refine Calls.mono (HX2.out _) ?_
        rintro e X ⟨rfl, hEX⟩
        dsimp only
        replace EX := EX.trans hEX
        (try replace OB := hid (OB.out.ext hEX))
        (try replace IS := hid (IS.out.ext hEX))
        clear hHeld hEX
        refine hK.out _ _ (sK EX) (fun hHeld => ?_)
        clear hK K
        try simp only [Act.put, sq1, sq2, sq3, sq4, sq5, sq6]
        refine tk1 (i := 15) (v := ?v15dv) rfl ?y15dv ?r15dv
        case y15dv => (intro w' hSw; (try dsimp only at hSw); go_simp; (try with_reducible rfl))
        try simp only [Act.put, sq1, sq2, sq3, sq4, sq5, sq6]
        refine tk1 (i := 16) (v := ?v16dv) rfl ?y16dv ?r16dv
        case y16dv => (intro w' hSw; (try dsimp only at hSw); go_simp; (try with_reducible rfl))
        try simp only [Act.put, sq1, sq2, sq3, sq4, sq5, sq6]
        refine tk1 (i := 17) (v := ?v17dv) rfl ?y17dv ?r17dv
        case y17dv => (intro w' hSw; (try dsimp only at hSw); go_simp; (try with_reducible rfl))
        try simp only [Act.put, sq1, sq2, sq3, sq4, sq5, sq6]
        refine tku1 (i := 18) rfl ?r18ev
        try simp only [Act.put, sq1, sq2, sq3, sq4, sq5, sq6]
        refine tku1 (i := 19) rfl ?r19ev
        try simp only [Act.put, sq1, sq2, sq3, sq4, sq5, sq6]
        refine tku1 (i := 20) rfl ?r20ev
        try simp only [Act.put, sq1, sq2, sq3, sq4, sq5, sq6]
        refine tku1 (i := 21) rfl ?r21ev
        try simp only [Act.put, sq1, sq2, sq3, sq4, sq5, sq6]
        refine tku1 (i := 22) rfl ?r22ev
        try simp only [Act.put, sq1, sq2, sq3, sq4, sq5, sq6]
        refine tku1 (i := 23) rfl ?r23ev
        try simp only [Act.put, sq1, sq2, sq3, sq4, sq5, sq6]
        refine tku1 (i := 24) rfl ?r24ev
        try simp only [Act.put, sq1, sq2, sq3, sq4, sq5, sq6]
        refine tk1 (i := 25) (v := ?v25fv) rfl ?y25fv ?r25fv
        case y25fv => (intro w' hSw; (try dsimp only at hSw); go_simp; (try with_reducible rfl))
        try simp only [Act.put, sq1, sq2, sq3, sq4, sq5, sq6]
        refine wpAnyH_done (by kernel_rfl) ?_ _
        have HEE := hid (E.trans EX)
        clear hHeld EX HX1 HX2 HX3
        go_wp2
        go_ret
        exact ⟨ret_bool HRR.out.symm, HEE.out⟩
      cases x3
      case false =>
        have HRR := hid (HBD1.out (by rw [HRB1.out]; rfl))
        clear HST1 HBD1 HRB1 HA HEN
        go_wp2_with fail
        refine wp_region_held_drew (S := fun w' => (∀ b o, b < wr.heap.size → w'.cell? ⟨b, o, none⟩ = wr.cell? ⟨b, o, none⟩) ∧ wr.heap.size ≤ w'.heap.size ∧ Ext wr w') (by kernel_rfl) ?hS0 (fun hHeld => ?_)
        case hS0 => exact sK (Ext.drew (Ext.refl _))
        have X0 : Ext wr wr.drew := Ext.drew (Ext.refl wr)
        have EX := X0
        obtain ⟨X, hX⟩ : ∃ X, wr.drew = X := ⟨_, rfl⟩
        rw [hX] at EX hHeld ⊢
        clear hX X0
        refine tk1 (i := 0) (v := ?v0aw) rfl ?y0aw ?r0aw
        case y0aw => (intro w' hSw; (try dsimp only at hSw); go_simp; (try with_reducible rfl))
        try simp only [Act.put, sq1, sq2, sq3, sq4, sq5, sq6]
        refine tk1 (i := 1) (v := ?v1aw) rfl ?y1aw ?r1aw
        case y1aw => (intro w' hSw; (try dsimp only at hSw); go_simp; (try with_reducible rfl))
        try simp only [Act.put, sq1, sq2, sq3, sq4, sq5, sq6]
        refine tk1 (i := 2) (v := ?v2aw) rfl ?y2aw ?r2aw
        case y2aw => (intro w' hSw; (try dsimp only at hSw); go_simp; (try with_reducible rfl))
        try simp only [Act.put, sq1, sq2, sq3, sq4, sq5, sq6]
        refine tk1 (i := 3) (v := ?v3aw) rfl ?y3aw ?r3aw
        case y3aw => (intro w' hSw; (try dsimp only at hSw); go_simp; (try with_reducible rfl))
        try simp only [Act.put, sq1, sq2, sq3, sq4, sq5, sq6]
        refine tk1 (i := 4) (v := ?v4aw) rfl ?y4aw ?r4aw
        case y4aw => (intro w' hSw; (try dsimp only at hSw); go_simp; (try with_reducible rfl))
        try simp only [Act.put, sq1, sq2, sq3, sq4, sq5, sq6]
        refine tk1 (i := 5) (v := ?v5aw) rfl ?y5aw ?r5aw
        case y5aw => (intro w' hSw; (try dsimp only at hSw); go_simp; (try with_reducible rfl))
        try simp only [Act.put, sq1, sq2, sq3, sq4, sq5, sq6]
        refine wpAnyH_ready (rs := [6]) (by kernel_rfl) (by simp) ?_
        refine AllReadyH.cons (o := _) rfl (fun K hK => ?_) AllReadyH.nil
        go_simp
        refine Calls.mono (HX1.out _) ?_
        rintro e X ⟨rfl, hEX⟩
        dsimp only
        replace EX := EX.trans hEX
        (try replace OB := hid (OB.out.ext hEX))
        (try replace IS := hid (IS.out.ext hEX))
        clear hHeld hEX
        refine hK.out _ _ (sK EX) (fun hHeld => ?_)
        clear hK K
        try simp only [Act.put, sq1, sq2, sq3, sq4, sq5, sq6]
        refine tk1 (i := 7) (v := ?v7bw) rfl ?y7bw ?r7bw
        case y7bw => (intro w' hSw; (try dsimp only at hSw); go_simp; (try with_reducible rfl))
        try simp only [Act.put, sq1, sq2, sq3, sq4, sq5, sq6]
        refine tk1 (i := 8) (v := ?v8bw) rfl ?y8bw ?r8bw
        case y8bw => (intro w' hSw; (try dsimp only at hSw); go_simp; (try with_reducible rfl))
        try simp only [Act.put, sq1, sq2, sq3, sq4, sq5, sq6]
        refine tk1 (i := 9) (v := ?v9cw) rfl ?y9cw ?r9cw
        case y9cw => (intro w' hSw; (try dsimp only at hSw); go_simp; (try with_reducible rfl))
        try simp only [Act.put, sq1, sq2, sq3, sq4, sq5, sq6]
        refine tk1 (i := 10) (v := ?v10cw) rfl ?y10cw ?r10cw
        case y10cw => (intro w' hSw; (try dsimp only at hSw); go_simp; (try with_reducible rfl))
        try simp only [Act.put, sq1, sq2, sq3, sq4, sq5, sq6]
        refine tk1 (i := 11) (v := ?v11cw) rfl ?y11cw ?r11cw
        case y11cw => (intro w' hSw; (try dsimp only at hSw); go_simp; (try with_reducible rfl))
        try simp only [Act.put, sq1, sq2, sq3, sq4, sq5, sq6]
        refine tk1 (i := 12) (v := ?v12cw) rfl ?y12cw ?r12cw
        case y12cw => (intro w' hSw; (try dsimp only at hSw); go_simp; (try with_reducible rfl))
        try simp only [Act.put, sq1, sq2, sq3, sq4, sq5, sq6]
        refine tk1 (i := 13) (v := ?v13cw) rfl ?y13cw ?r13cw
        case y13cw => (intro w' hSw; (try dsimp only at hSw); go_simp; (try with_reducible rfl))
        try simp only [Act.put, sq1, sq2, sq3, sq4, sq5, sq6]
        refine wpAnyH_ready (rs := [14]) (by kernel_rfl) (by simp) ?_
        refine AllReadyH.cons (o := _) rfl (fun K hK => ?_) AllReadyH.nil
        go_simp
        refine Calls.mono (HX2.out _) ?_
        rintro e X ⟨rfl, hEX⟩
        dsimp only
        replace EX := EX.trans hEX
        (try replace OB := hid (OB.out.ext hEX))
        (try replace IS := hid (IS.out.ext hEX))
        clear hHeld hEX
        refine hK.out _ _ (sK EX) (fun hHeld => ?_)
        clear hK K
        try simp only [Act.put, sq1, sq2, sq3, sq4, sq5, sq6]
        refine tk1 (i := 15) (v := ?v15dw) rfl ?y15dw ?r15dw
        case y15dw => (intro w' hSw; (try dsimp only at hSw); go_simp; (try with_reducible rfl))
        try simp only [Act.put, sq1, sq2, sq3, sq4, sq5, sq6]
        refine tk1 (i := 16) (v := ?v16dw) rfl ?y16dw ?r16dw
        case y16dw => (intro w' hSw; (try dsimp only at hSw); go_simp; (try with_reducible rfl))
        try simp only [Act.put, sq1, sq2, sq3, sq4, sq5, sq6]
        refine tk1 (i := 17) (v := ?v17dw) rfl ?y17dw ?r17dw
        case y17dw => (intro w' hSw; (try dsimp only at hSw); go_simp; (try with_reducible rfl))
        try simp only [Act.put, sq1, sq2, sq3, sq4, sq5, sq6]
        refine tk1 (i := 18) (v := ?v18ew) rfl ?y18ew ?r18ew
        case y18ew => (intro w' hSw; (try dsimp only at hSw); go_simp; (try with_reducible rfl))
        try simp only [Act.put, sq1, sq2, sq3, sq4, sq5, sq6]
        refine tk1 (i := 19) (v := ?v19ew) rfl ?y19ew ?r19ew
        case y19ew => (intro w' hSw; (try dsimp only at hSw); go_simp; (try with_reducible rfl))
        try simp only [Act.put, sq1, sq2, sq3, sq4, sq5, sq6]
        refine tk1 (i := 20) (v := ?v20ew) rfl ?y20ew ?r20ew
        case y20ew => (intro w' hSw; (try dsimp only at hSw); go_simp; (try with_reducible rfl))
        try simp only [Act.put, sq1, sq2, sq3, sq4, sq5, sq6]
        refine tk1 (i := 21) (v := ?v21ew) rfl ?y21ew ?r21ew
        case y21ew => (intro w' hSw; (try dsimp only at hSw); go_simp; (try with_reducible rfl))
        try simp only [Act.put, sq1, sq2, sq3, sq4, sq5, sq6]
        refine tk1 (i := 22) (v := ?v22ew) rfl ?y22ew ?r22ew
        case y22ew => (intro w' hSw; (try dsimp only at hSw); go_simp; (try with_reducible rfl))
        try simp only [Act.put, sq1, sq2, sq3, sq4, sq5, sq6]
        refine wpAnyH_ready (rs := [23]) (by kernel_rfl) (by simp) ?_
        refine AllReadyH.cons (o := _) rfl (fun K hK => ?_) AllReadyH.nil
        go_simp
        refine Calls.mono (HX3.out _) ?_
        rintro e X ⟨rfl, hEX⟩
        dsimp only
        replace EX := EX.trans hEX
        (try replace OB := hid (OB.out.ext hEX))
        (try replace IS := hid (IS.out.ext hEX))
        clear hHeld hEX
        refine hK.out _ _ (sK EX) (fun hHeld => ?_)
        clear hK K
        try simp only [Act.put, sq1, sq2, sq3, sq4, sq5, sq6]
        refine tk1 (i := 24) (v := ?v24fw) rfl ?y24fw ?r24fw
        case y24fw => (intro w' hSw; (try dsimp only at hSw); go_simp; (try with_reducible rfl))
        try simp only [Act.put, sq1, sq2, sq3, sq4, sq5, sq6]
        refine tk1 (i := 25) (v := ?v25fw) rfl ?y25fw ?r25fw
        case y25fw => (intro w' hSw; (try dsimp only at hSw); go_simp; (try with_reducible rfl))
        try simp only [Act.put, sq1, sq2, sq3, sq4, sq5, sq6]
        refine wpAnyH_done (by kernel_rfl) ?_ _
        have HEE := hid (E.trans EX)
        clear hHeld EX HX1 HX2 HX3
        go_wp2
        go_ret
        exact ⟨ret_bool HRR.out.symm, HEE.out⟩
      have HRR := hid (HST1.out.trans (by rw [HA.out, HRB1.out] <;> rfl))
      clear HST1 HBD1 HRB1 HA HEN
      go_wp2_with fail
      refine wp_region_held_drew (S := fun w' => (∀ b o, b < wr.heap.size → w'.cell? ⟨b, o, none⟩ = wr.cell? ⟨b, o, none⟩) ∧ wr.heap.size ≤ w'.heap.size ∧ Ext wr w') (by kernel_rfl) ?hS0 (fun hHeld => ?_)
      case hS0 => exact sK (Ext.drew (Ext.refl _))
      have X0 : Ext wr wr.drew := Ext.drew (Ext.refl wr)
      have EX := X0
      obtain ⟨X, hX⟩ : ∃ X, wr.drew = X := ⟨_, rfl⟩
      rw [hX] at EX hHeld ⊢
      clear hX X0
      refine tk1 (i := 0) (v := ?v0ax) rfl ?y0ax ?r0ax
      case y0ax => (intro w' hSw; (try dsimp only at hSw); go_simp; (try with_reducible rfl))
      try simp only [Act.put, sq1, sq2, sq3, sq4, sq5, sq6]
      refine tk1 (i := 1) (v := ?v1ax) rfl ?y1ax ?r1ax
      case y1ax => (intro w' hSw; (try dsimp only at hSw); go_simp; (try with_reducible rfl))
      try simp only [Act.put, sq1, sq2, sq3, sq4, sq5, sq6]
      refine tk1 (i := 2) (v := ?v2ax) rfl ?y2ax ?r2ax
      case y2ax => (intro w' hSw; (try dsimp only at hSw); go_simp; (try with_reducible rfl))
      try simp only [Act.put, sq1, sq2, sq3, sq4, sq5, sq6]
      refine tk1 (i := 3) (v := ?v3ax) rfl ?y3ax ?r3ax
      case y3ax => (intro w' hSw; (try dsimp only at hSw); go_simp; (try with_reducible rfl))
      try simp only [Act.put, sq1, sq2, sq3, sq4, sq5, sq6]
      refine tk1 (i := 4) (v := ?v4ax) rfl ?y4ax ?r4ax
      case y4ax => (intro w' hSw; (try dsimp only at hSw); go_simp; (try with_reducible rfl))
      try simp only [Act.put, sq1, sq2, sq3, sq4, sq5, sq6]
      refine tk1 (i := 5) (v := ?v5ax) rfl ?y5ax ?r5ax
      case y5ax => (intro w' hSw; (try dsimp only at hSw); go_simp; (try with_reducible rfl))
      try simp only [Act.put, sq1, sq2, sq3, sq4, sq5, sq6]
      refine wpAnyH_ready (rs := [6]) (by kernel_rfl) (by simp) ?_
      refine AllReadyH.cons (o := _) rfl (fun K hK => ?_) AllReadyH.nil
      go_simp
      refine Calls.mono (HX1.out _) ?_
      rintro e X ⟨rfl, hEX⟩
      dsimp only
      replace EX := EX.trans hEX
      (try replace OB := hid (OB.out.ext hEX))
      (try replace IS := hid (IS.out.ext hEX))
      clear hHeld hEX
      refine hK.out _ _ (sK EX) (fun hHeld => ?_)
      clear hK K
      try simp only [Act.put, sq1, sq2, sq3, sq4, sq5, sq6]
      refine tk1 (i := 7) (v := ?v7bx) rfl ?y7bx ?r7bx
      case y7bx => (intro w' hSw; (try dsimp only at hSw); go_simp; (try with_reducible rfl))
      try simp only [Act.put, sq1, sq2, sq3, sq4, sq5, sq6]
      refine tk1 (i := 8) (v := ?v8bx) rfl ?y8bx ?r8bx
      case y8bx => (intro w' hSw; (try dsimp only at hSw); go_simp; (try with_reducible rfl))
      try simp only [Act.put, sq1, sq2, sq3, sq4, sq5, sq6]
      refine tk1 (i := 9) (v := ?v9cx) rfl ?y9cx ?r9cx
      case y9cx => (intro w' hSw; (try dsimp only at hSw); go_simp; (try with_reducible rfl))
      try simp only [Act.put, sq1, sq2, sq3, sq4, sq5, sq6]
      refine tk1 (i := 10) (v := ?v10cx) rfl ?y10cx ?r10cx
      case y10cx => (intro w' hSw; (try dsimp only at hSw); go_simp; (try with_reducible rfl))
      try simp only [Act.put, sq1, sq2, sq3, sq4, sq5, sq6]
      refine tk1 (i := 11) (v := ?v11cx) rfl ?y11cx ?r11cx
      case y11cx => (intro w' hSw; (try dsimp only at hSw); go_simp; (try with_reducible rfl))
      try simp only [Act.put, sq1, sq2, sq3, sq4, sq5, sq6]
      refine tk1 (i := 12) (v := ?v12cx) rfl ?y12cx ?r12cx
      case y12cx => (intro w' hSw; (try dsimp only at hSw); go_simp; (try with_reducible rfl))
      try simp only [Act.put, sq1, sq2, sq3, sq4, sq5, sq6]
      refine tk1 (i := 13) (v := ?v13cx) rfl ?y13cx ?r13cx
      case y13cx => (intro w' hSw; (try dsimp only at hSw); go_simp; (try with_reducible rfl))
      try simp only [Act.put, sq1, sq2, sq3, sq4, sq5, sq6]
      refine wpAnyH_ready (rs := [14]) (by kernel_rfl) (by simp) ?_
      refine AllReadyH.cons (o := _) rfl (fun K hK => ?_) AllReadyH.nil
      go_simp
      refine Calls.mono (HX2.out _) ?_
      rintro e X ⟨rfl, hEX⟩
      dsimp only
      replace EX := EX.trans hEX
      (try replace OB := hid (OB.out.ext hEX))
      (try replace IS := hid (IS.out.ext hEX))
      clear hHeld hEX
      refine hK.out _ _ (sK EX) (fun hHeld => ?_)
      clear hK K
      try simp only [Act.put, sq1, sq2, sq3, sq4, sq5, sq6]
      refine tk1 (i := 15) (v := ?v15dx) rfl ?y15dx ?r15dx
      case y15dx => (intro w' hSw; (try dsimp only at hSw); go_simp; (try with_reducible rfl))
      try simp only [Act.put, sq1, sq2, sq3, sq4, sq5, sq6]
      refine tk1 (i := 16) (v := ?v16dx) rfl ?y16dx ?r16dx
      case y16dx => (intro w' hSw; (try dsimp only at hSw); go_simp; (try with_reducible rfl))
      try simp only [Act.put, sq1, sq2, sq3, sq4, sq5, sq6]
      refine tk1 (i := 17) (v := ?v17dx) rfl ?y17dx ?r17dx
      case y17dx => (intro w' hSw; (try dsimp only at hSw); go_simp; (try with_reducible rfl))
      try simp only [Act.put, sq1, sq2, sq3, sq4, sq5, sq6]
      refine tk1 (i := 18) (v := ?v18ex) rfl ?y18ex ?r18ex
      case y18ex => (intro w' hSw; (try dsimp only at hSw); go_simp; (try with_reducible rfl))
      try simp only [Act.put, sq1, sq2, sq3, sq4, sq5, sq6]
      refine tk1 (i := 19) (v := ?v19ex) rfl ?y19ex ?r19ex
      case y19ex => (intro w' hSw; (try dsimp only at hSw); go_simp; (try with_reducible rfl))
      try simp only [Act.put, sq1, sq2, sq3, sq4, sq5, sq6]
      refine tk1 (i := 20) (v := ?v20ex) rfl ?y20ex ?r20ex
      case y20ex => (intro w' hSw; (try dsimp only at hSw); go_simp; (try with_reducible rfl))
      try simp only [Act.put, sq1, sq2, sq3, sq4, sq5, sq6]
      refine tk1 (i := 21) (v := ?v21ex) rfl ?y21ex ?r21ex
      case y21ex => (intro w' hSw; (try dsimp only at hSw); go_simp; (try with_reducible rfl))
      try simp only [Act.put, sq1, sq2, sq3, sq4, sq5, sq6]
      refine tk1 (i := 22) (v := ?v22ex) rfl ?y22ex ?r22ex
      case y22ex => (intro w' hSw; (try dsimp only at hSw); go_simp; (try with_reducible rfl))
      try simp only [Act.put, sq1, sq2, sq3, sq4, sq5, sq6]
      refine wpAnyH_ready (rs := [23]) (by kernel_rfl) (by simp) ?_
      refine AllReadyH.cons (o := _) rfl (fun K hK => ?_) AllReadyH.nil
      go_simp
      refine Calls.mono (HX3.out _) ?_
      rintro e X ⟨rfl, hEX⟩
      dsimp only
      replace EX := EX.trans hEX
      (try replace OB := hid (OB.out.ext hEX))
      (try replace IS := hid (IS.out.ext hEX))
      clear hHeld hEX
      refine hK.out _ _ (sK EX) (fun hHeld => ?_)
      clear hK K
      try simp only [Act.put, sq1, sq2, sq3, sq4, sq5, sq6]
      refine tk1 (i := 24) (v := ?v24fx) rfl ?y24fx ?r24fx
      case y24fx => (intro w' hSw; (try dsimp only at hSw); go_simp; (try with_reducible rfl))
      try simp only [Act.put, sq1, sq2, sq3, sq4, sq5, sq6]
      refine tk1 (i := 25) (v := ?v25fx) rfl ?y25fx ?r25fx
      case y25fx => (intro w' hSw; (try dsimp only at hSw); go_simp; (try with_reducible rfl))
      try simp only [Act.put, sq1, sq2, sq3, sq4, sq5, sq6]
      refine wpAnyH_done (by kernel_rfl) ?_ _
      have HEE := hid (E.trans EX)
      have HKK := hid (K0.out.ext EX)
      clear hHeld EX HX1 HX2 HX3
      go_wp2
      go_roundw
      case rel => exact ⟨HEE.out, HKK, k + 1, by omega, by go_num, HRR⟩
      case measure => simp [intOf]; omega
    · obtain rfl : k = rn := by omega
      have HD := hid (HEN.out HA.out)
      clear HST HBD HIP HLM HWI HRB HEN HA
      go_wp2
      go_ret
      exact ⟨ret_bool (by rw [HD.out]; exact decide_eq_decide.2 (by omega)), by (repeat' (first | with_reducible assumption | with_reducible exact Ext.refl _ | with_reducible refine Ext.alloc ?_ _ | with_reducible refine Ext.set ?_ ?_ _ | with_reducible refine Ext.drew ?_ | with_reducible refine Ext.drewN ?_ _ | with_reducible refine Ext.trans ?_ (by assumption) | (dsimp only; omega)))⟩
end Go.Proofs.YtecamnhnjmldcaaGreatDoor
