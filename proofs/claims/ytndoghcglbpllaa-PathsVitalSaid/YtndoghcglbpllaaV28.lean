/- Vital, Within and Turn. -/
import Derived.Test.YtndoghcglbpllaaV11
import Derived.Test.YtndoghcglbpllaaV26
import Derived.Test.YtndoghcglbpllaaV27
import Derived.Deep.RegionHeld3
set_option linter.unusedSimpArgs false
set_option linter.unusedVariables false
namespace Go.Proofs.Ytndoghcglbpllaa
open Go.RowKit
set_option maxRecDepth 100000 in
set_option maxHeartbeats 4000000 in
theorem pathsVital_any (m g l pl ph from_ to_ start D x : Int) (RA : Option Addr) (rn rc : Nat) (r : List Int) (hrn : r.length = rn) (A : Option Addr) (n c : Nat) (ps : List Pt) (hn : ps.length = n) (w : World) (hp : PathsAt w A ps) (hR : IntsAt w RA r) :
    Calls Try.prog 5 #[.agg #[.int .i64 m, .slice A n c], .agg #[.int .i64 g, .int .i64 l, .int .i64 pl, .int .i64 ph], .agg #[.int .i64 from_, .int .i64 to_, .int .i64 start, .int .i64 D, .slice RA rn rc, .int .i64 x]] w fun e w' => e = .returned (.bool true) ∧ Ext w w' := by
  have HF := hid (fun (W : World) (hE : Ext w W) => far2_any m A n c ps hn W (hp.ext hE))
  have HCP := hid (fun (h : NearOk m ps) (W : World) (hE : Ext w W) => copy_any m A n c ps hn (by have := h.1; omega) (fun k hk => by have := h.2 k (by omega); omega) W (hp.ext hE))
  have HP := hid hp
  have HN := hid hn
  have HR := hid hR
  have HRN := hid hrn
  have t0 := three_blocks w (.cells #[.int .i64 m, .slice A n c] 24) (.cells #[.int .i64 g, .int .i64 l, .int .i64 pl, .int .i64 ph] 28) (.cells #[.int .i64 from_, .int .i64 to_, .int .i64 start, .int .i64 D, .slice RA rn rc, .int .i64 x] 31)
  have B0 := hid t0.1
  have B1 := hid t0.2.1
  have B2 := hid t0.2.2
  clear hp hn t0 hR hrn
  go_enter Try.func5, Try.ntmps5
  go_wp2_with fail
  refine (HF.out _ (by (repeat' (first | with_reducible assumption | with_reducible exact Ext.refl _ | with_reducible refine Ext.alloc ?_ _ | with_reducible refine Ext.set ?_ ?_ _ | with_reducible refine Ext.drew ?_ | with_reducible refine Ext.drewN ?_ _ | with_reducible refine Ext.trans ?_ (by assumption) | (dsimp only; omega))))).mono ?_
  rintro e w1 ⟨⟨B, rfl, hB⟩, hE⟩
  (first | (have hK := KC.step (n := w.heap.size + 3) (by with_reducible assumption) hE) | (have hK := KC.step (KC.step (n := w.heap.size + 3) (by with_reducible assumption) (ext_alloc1 _ _)) hE) | (have hK := KC.step (KC.refl (n := w.heap.size + 3) (by simp)) hE)); have hC := hK.cell; have hF := hK.fro; have hX := hK.ext
  have E7 : Ext w w1 := by (repeat' (first | with_reducible assumption | with_reducible exact Ext.refl _ | with_reducible refine Ext.alloc ?_ _ | with_reducible refine Ext.set ?_ ?_ _ | with_reducible refine Ext.drew ?_ | with_reducible refine Ext.drewN ?_ _ | with_reducible refine Ext.trans ?_ (by assumption) | (dsimp only; omega)))
  have HB := hid hB
  have C0 := hid (blk_ext B0.out hE)
  have C1 := hid (blk_ext B1.out hE)
  have C2 := hid (blk_ext B2.out hE)
  clear hB hE HF B0 B1 B2
  cases B
  case true => go_wp2_with fail
               refine (works_any _).mono ?_
               rintro e w9 ⟨rfl, hE9⟩
               have EZ : Ext w w9 := by (repeat' (first | with_reducible assumption | with_reducible exact Ext.refl _ | with_reducible refine Ext.alloc ?_ _ | with_reducible refine Ext.set ?_ ?_ _ | with_reducible refine Ext.drew ?_ | with_reducible refine Ext.drewN ?_ _ | with_reducible refine Ext.trans ?_ (by assumption) | (dsimp only; omega)))
               go_wp2
               go_ret
               exact ⟨rfl, EZ⟩
  have HCP2 := hid (HCP.out (HB.out rfl))
  clear HCP HB
  by_cases hr60 : rn ≤ 60
  case neg =>
    have h60 : (60 : Int) < (rn : Int) := by omega
    go_wp2_with fail
    refine (works_any _).mono ?_
    rintro e w9 ⟨rfl, hE9⟩
    have EZ : Ext w w9 := by (repeat' (first | with_reducible assumption | with_reducible exact Ext.refl _ | with_reducible refine Ext.alloc ?_ _ | with_reducible refine Ext.set ?_ ?_ _ | with_reducible refine Ext.drew ?_ | with_reducible refine Ext.drewN ?_ _ | with_reducible refine Ext.trans ?_ (by assumption) | (dsimp only; omega)))
    go_wp2
    go_ret
    exact ⟨rfl, EZ⟩
  have h60 : ¬ (60 : Int) < (rn : Int) := by omega
  go_wp2_with fail
  refine (HCP2.out _ E7).mono ?_
  rintro e w2 ⟨v, rfl, hcr, hE⟩
  have E2 := E7.trans hE
  obtain ⟨A2, c2, rfl, hp2⟩ := hcr.paths HN.out
  have D0 := hid (blk_ext C0.out hE)
  have D1 := hid (blk_ext C1.out hE)
  have D2 := hid (blk_ext C2.out hE)
  have HP2 := hid hp2
  clear hE hcr hp2 C0 C1 C2 HCP2 E7 hK hC hF hX h60
  obtain ⟨xs, E, hxl, hv1, hv2⟩ := vital_both m g l pl ph from_ start to_ D A A2 n c c2 ps HN.out
  obtain ⟨us, ys, E', hul, hyl, hw1, hw2⟩ := within_both m g l pl ph from_ start D A A2 n c c2 ps HN.out
  have HV1 := hid (fun (W : World) (hE : Ext w2 W) => hv1 W (HP2.out.ext hE))
  have HV2 := hid (fun (W : World) (hE : Ext w2 W) => hv2 W (HP.out.ext (E2.trans hE)))
  have HW1 := hid (fun (W : World) (hE : Ext w2 W) => hw1 W (HP2.out.ext hE))
  have HW2 := hid (fun (W : World) (hE : Ext w2 W) => hw2 W (HP.out.ext (E2.trans hE)))
  clear hv1 hv2 hw1 hw2
  have F3 := Ext.refl w2
  have c00 := blk_cell (blk_ext D0.out F3) 0
  have c01 := blk_cell (blk_ext D0.out F3) 1
  have c10 := blk_cell (blk_ext D1.out F3) 0
  have c11 := blk_cell (blk_ext D1.out F3) 1
  have c12 := blk_cell (blk_ext D1.out F3) 2
  have c13 := blk_cell (blk_ext D1.out F3) 3
  have c20 := blk_cell (blk_ext D2.out F3) 0
  have c21 := blk_cell (blk_ext D2.out F3) 1
  have c22 := blk_cell (blk_ext D2.out F3) 2
  have c23 := blk_cell (blk_ext D2.out F3) 3
  have c24 := blk_cell (blk_ext D2.out F3) 4
  have c30 := blk_cell (blk_ext D2.out F3) 0
  have c31 := blk_cell (blk_ext D2.out F3) 1
  simp only [List.getElem?_toArray, List.getElem?_cons_zero, List.getElem?_cons_succ] at c00 c01 c10 c11 c12 c13 c20 c21 c22 c23 c24 c30 c31
  have q0 := (Array.getElem?_eq_some_iff.1 (blk_ext D0.out F3)).1
  have q1 := (Array.getElem?_eq_some_iff.1 (blk_ext D1.out F3)).1
  have q2 := (Array.getElem?_eq_some_iff.1 (blk_ext D2.out F3)).1
  have q3 := (Array.getElem?_eq_some_iff.1 (blk_ext D2.out F3)).1
  clear c30 c31 q3 F3
  go_wp2_with fail
  refine (HV1.out _ (ext_alloc1 _ _)).mono ?_
  rintro e w4 ⟨v, rfl, hown, hE⟩
  have D3 := hid (blk_ext (heap_alloc_new w2 (.cells #[.int .i64 m, .slice A2 n c2] 24)) hE)
  have F3 : Ext w2 w4 := (ext_alloc1 _ _).trans hE
  have D0 := hid (blk_ext D0.out F3)
  have D1 := hid (blk_ext D1.out F3)
  have D2 := hid (blk_ext D2.out F3)
  have E3 := E2.trans F3
  obtain ⟨z, hz⟩ : ∃ z, w2.heap.size = z := ⟨_, rfl⟩
  rw [hz] at D3 ⊢
  clear hz
  obtain ⟨A4, c4, rfl, i1⟩ := hown.form
  have HI1 := hid i1
  have F4 := Ext.refl w4
  clear c00 c01 c10 c11 c12 c13 c20 c21 c22 c23 c24 q0 q1 q2
  have c00 := blk_cell (blk_ext D0.out F4) 0
  have c01 := blk_cell (blk_ext D0.out F4) 1
  have c10 := blk_cell (blk_ext D1.out F4) 0
  have c11 := blk_cell (blk_ext D1.out F4) 1
  have c12 := blk_cell (blk_ext D1.out F4) 2
  have c13 := blk_cell (blk_ext D1.out F4) 3
  have c20 := blk_cell (blk_ext D2.out F4) 0
  have c21 := blk_cell (blk_ext D2.out F4) 1
  have c22 := blk_cell (blk_ext D2.out F4) 2
  have c23 := blk_cell (blk_ext D2.out F4) 3
  have c24 := blk_cell (blk_ext D2.out F4) 4
  have c30 := blk_cell (blk_ext D3.out F4) 0
  have c31 := blk_cell (blk_ext D3.out F4) 1
  simp only [List.getElem?_toArray, List.getElem?_cons_zero, List.getElem?_cons_succ] at c00 c01 c10 c11 c12 c13 c20 c21 c22 c23 c24 c30 c31
  have q0 := (Array.getElem?_eq_some_iff.1 (blk_ext D0.out F4)).1
  have q1 := (Array.getElem?_eq_some_iff.1 (blk_ext D1.out F4)).1
  have q2 := (Array.getElem?_eq_some_iff.1 (blk_ext D2.out F4)).1
  have q3 := (Array.getElem?_eq_some_iff.1 (blk_ext D3.out F4)).1
  clear hE hown i1
  go_wp2_with fail
  refine (HV2.out _ F3).mono ?_
  rintro e w5 ⟨v, rfl, hown, hE⟩
  obtain ⟨A5, c5, rfl, i2⟩ := hown.form
  have HI2 := hid i2
  have HI1' := hid (HI1.out.ext hE)
  have F5 := F4.trans hE
  clear hE hown i2 c00 c01 c10 c11 c12 c13 c20 c21 c22 c23 c24 c30 c31 q0 q1 q2 q3 HV1 HV2 HI1
  go_wp2_with fail
  refine (sameInts_any A4 A5 xs.length xs.length c4 c5 xs xs rfl rfl hxl hxl _ HI1'.out HI2.out).mono ?_
  rintro e w6 ⟨rfl, hE⟩
  rw [decide_eq_true rfl]
  have F6 := F5.trans hE
  have c00 := blk_cell (blk_ext D0.out F6) 0
  have c01 := blk_cell (blk_ext D0.out F6) 1
  have c10 := blk_cell (blk_ext D1.out F6) 0
  have c11 := blk_cell (blk_ext D1.out F6) 1
  have c12 := blk_cell (blk_ext D1.out F6) 2
  have c13 := blk_cell (blk_ext D1.out F6) 3
  have c20 := blk_cell (blk_ext D2.out F6) 0
  have c21 := blk_cell (blk_ext D2.out F6) 1
  have c22 := blk_cell (blk_ext D2.out F6) 2
  have c23 := blk_cell (blk_ext D2.out F6) 3
  have c24 := blk_cell (blk_ext D2.out F6) 4
  have c30 := blk_cell (blk_ext D3.out F6) 0
  have c31 := blk_cell (blk_ext D3.out F6) 1
  simp only [List.getElem?_toArray, List.getElem?_cons_zero, List.getElem?_cons_succ] at c00 c01 c10 c11 c12 c13 c20 c21 c22 c23 c24 c30 c31
  have q0 := (Array.getElem?_eq_some_iff.1 (blk_ext D0.out F6)).1
  have q1 := (Array.getElem?_eq_some_iff.1 (blk_ext D1.out F6)).1
  have q2 := (Array.getElem?_eq_some_iff.1 (blk_ext D2.out F6)).1
  have q3 := (Array.getElem?_eq_some_iff.1 (blk_ext D3.out F6)).1
  clear hE HI1' HI2
  go_wp2_with fail
  refine (HW1.out _ (F3.trans F6)).mono ?_
  rintro e w7 ⟨v, v', rfl, o1, o2, hE⟩
  obtain ⟨A7, c7, rfl, i1⟩ := o1.form
  obtain ⟨A8, c8, rfl, i2⟩ := o2.form
  have HI1 := hid i1
  have HI2 := hid i2
  have F7 := F6.trans hE
  clear hE o1 o2 i1 i2 c00 c01 c10 c11 c12 c13 c20 c21 c22 c23 c24 c30 c31 q0 q1 q2 q3
  have c00 := blk_cell (blk_ext D0.out F7) 0
  have c01 := blk_cell (blk_ext D0.out F7) 1
  have c10 := blk_cell (blk_ext D1.out F7) 0
  have c11 := blk_cell (blk_ext D1.out F7) 1
  have c12 := blk_cell (blk_ext D1.out F7) 2
  have c13 := blk_cell (blk_ext D1.out F7) 3
  have c20 := blk_cell (blk_ext D2.out F7) 0
  have c21 := blk_cell (blk_ext D2.out F7) 1
  have c22 := blk_cell (blk_ext D2.out F7) 2
  have c23 := blk_cell (blk_ext D2.out F7) 3
  have c24 := blk_cell (blk_ext D2.out F7) 4
  have c30 := blk_cell (blk_ext D3.out F7) 0
  have c31 := blk_cell (blk_ext D3.out F7) 1
  simp only [List.getElem?_toArray, List.getElem?_cons_zero, List.getElem?_cons_succ] at c00 c01 c10 c11 c12 c13 c20 c21 c22 c23 c24 c30 c31
  have q0 := (Array.getElem?_eq_some_iff.1 (blk_ext D0.out F7)).1
  have q1 := (Array.getElem?_eq_some_iff.1 (blk_ext D1.out F7)).1
  have q2 := (Array.getElem?_eq_some_iff.1 (blk_ext D2.out F7)).1
  have q3 := (Array.getElem?_eq_some_iff.1 (blk_ext D3.out F7)).1
  go_wp2_with fail
  refine (HW2.out _ (F3.trans F7)).mono ?_
  rintro e w8 ⟨v, v', rfl, o1, o2, hE⟩
  obtain ⟨A9, c9, rfl, i1⟩ := o1.form
  obtain ⟨A10, c10', rfl, i2⟩ := o2.form
  have HI3 := hid i1
  have HI4 := hid i2
  have HI1' := hid (HI1.out.ext hE)
  have HI2' := hid (HI2.out.ext hE)
  have F8 := F7.trans hE
  clear hE o1 o2 i1 i2 c00 c01 c10 c11 c12 c13 c20 c21 c22 c23 c24 c30 c31 q0 q1 q2 q3 HI1 HI2 HW1 HW2
  go_wp2_with fail
  refine (sameInts_any A7 A9 us.length us.length c7 c9 us us rfl rfl hul hul _ HI1'.out HI3.out).mono ?_
  rintro e w9 ⟨rfl, hE⟩
  rw [decide_eq_true rfl]
  have F9 := F8.trans hE
  have HI2 := hid (HI2'.out.ext hE)
  have HI4' := hid (HI4.out.ext hE)
  clear hE HI1' HI3 HI2' HI4
  go_wp2_with fail
  refine (sameInts_any A8 A10 ys.length ys.length c8 c10' ys ys rfl rfl hyl hyl _ HI2.out HI4'.out).mono ?_
  rintro e w10 ⟨rfl, hE⟩
  rw [decide_eq_true rfl]
  have F10 := F9.trans hE
  clear hE HI2 HI4'
  have c00 := blk_cell (blk_ext D0.out F10) 0
  have c01 := blk_cell (blk_ext D0.out F10) 1
  have c10 := blk_cell (blk_ext D1.out F10) 0
  have c11 := blk_cell (blk_ext D1.out F10) 1
  have c12 := blk_cell (blk_ext D1.out F10) 2
  have c13 := blk_cell (blk_ext D1.out F10) 3
  have c20 := blk_cell (blk_ext D2.out F10) 0
  have c21 := blk_cell (blk_ext D2.out F10) 1
  have c22 := blk_cell (blk_ext D2.out F10) 2
  have c23 := blk_cell (blk_ext D2.out F10) 3
  have c24 := blk_cell (blk_ext D2.out F10) 4
  have c30 := blk_cell (blk_ext D3.out F10) 0
  have c31 := blk_cell (blk_ext D3.out F10) 1
  simp only [List.getElem?_toArray, List.getElem?_cons_zero, List.getElem?_cons_succ] at c00 c01 c10 c11 c12 c13 c20 c21 c22 c23 c24 c30 c31
  have q0 := (Array.getElem?_eq_some_iff.1 (blk_ext D0.out F10)).1
  have q1 := (Array.getElem?_eq_some_iff.1 (blk_ext D1.out F10)).1
  have q2 := (Array.getElem?_eq_some_iff.1 (blk_ext D2.out F10)).1
  have q3 := (Array.getElem?_eq_some_iff.1 (blk_ext D3.out F10)).1
  go_wp2_with fail
  obtain ⟨qq, EE, ht1, ht2⟩ := turn_both m g l pl ph from_ start to_ D A A2 n c c2 ps HN.out rn r HRN.out (by omega)
  have HT1 := hid ht1
  have HT2 := hid ht2
  have HRW := hid (HR.out.ext (E3.trans F10))
  clear ht1 ht2
  refine wp_region_held_drew (S := fun w' => (∀ b o, b < w10.heap.size → w'.cell? ⟨b, o, none⟩ = w10.cell? ⟨b, o, none⟩) ∧ w10.heap.size ≤ w'.heap.size ∧ Ext w10 w') (by kernel_rfl) ?hS0 (fun hHeld => ?_)
  case hS0 => exact ⟨fun _ _ _ => rfl, Nat.le_refl _, Ext.drew (Ext.refl _)⟩
  refine wpAnyH_take (i := 0) (oi := _) (v := ?v0h) rfl (by kernel_rfl) (by kernel_rfl) (by kernel_rfl) (fun _ _ _ h => h) (Or.inl ⟨by rfl, ?y0h⟩) (by assumption) ?r0h
  case y0h => (intro w' hSw; (try dsimp only at hSw); go_simp; (try with_reducible rfl))
  try simp only [Act.put, List.getElem_toArray, List.getElem_cons_zero, List.getElem_cons_succ, List.setIfInBounds_toArray, List.set_cons_zero, List.set_cons_succ]
  refine wpAnyH_take (i := 1) (oi := _) (v := ?v1h) rfl (by kernel_rfl) (by kernel_rfl) (by kernel_rfl) (fun _ _ _ h => h) (Or.inl ⟨by rfl, ?y1h⟩) (by assumption) ?r1h
  case y1h => (intro w' hSw; (try dsimp only at hSw); go_simp; (try with_reducible rfl))
  try simp only [Act.put, List.getElem_toArray, List.getElem_cons_zero, List.getElem_cons_succ, List.setIfInBounds_toArray, List.set_cons_zero, List.set_cons_succ]
  refine wpAnyH_take (i := 3) (oi := _) (v := ?v3h) rfl (by kernel_rfl) (by kernel_rfl) (by kernel_rfl) (fun _ _ _ h => h) (Or.inl ⟨by rfl, ?y3h⟩) (by assumption) ?r3h
  case y3h => (intro w' hSw; (try dsimp only at hSw); go_simp; (try with_reducible rfl))
  try simp only [Act.put, List.getElem_toArray, List.getElem_cons_zero, List.getElem_cons_succ, List.setIfInBounds_toArray, List.set_cons_zero, List.set_cons_succ]
  refine wpAnyH_take (i := 4) (oi := _) (v := ?v4h) rfl (by kernel_rfl) (by kernel_rfl) (by kernel_rfl) (fun _ _ _ h => h) (Or.inl ⟨by rfl, ?y4h⟩) (by assumption) ?r4h
  case y4h => (intro w' hSw; (try dsimp only at hSw); go_simp; (try with_reducible rfl))
  try simp only [Act.put, List.getElem_toArray, List.getElem_cons_zero, List.getElem_cons_succ, List.setIfInBounds_toArray, List.set_cons_zero, List.set_cons_succ]
  refine wpAnyH_take (i := 6) (oi := _) (v := ?v6h) rfl (by kernel_rfl) (by kernel_rfl) (by kernel_rfl) (fun _ _ _ h => h) (Or.inl ⟨by rfl, ?y6h⟩) (by assumption) ?r6h
  case y6h => (intro w' hSw; (try dsimp only at hSw); go_simp; (try with_reducible rfl))
  try simp only [Act.put, List.getElem_toArray, List.getElem_cons_zero, List.getElem_cons_succ, List.setIfInBounds_toArray, List.set_cons_zero, List.set_cons_succ]
  refine wpAnyH_take (i := 7) (oi := _) (v := ?v7h) rfl (by kernel_rfl) (by kernel_rfl) (by kernel_rfl) (fun _ _ _ h => h) (Or.inl ⟨by rfl, ?y7h⟩) (by assumption) ?r7h
  case y7h => (intro w' hSw; (try dsimp only at hSw); go_simp; (try with_reducible rfl))
  try simp only [Act.put, List.getElem_toArray, List.getElem_cons_zero, List.getElem_cons_succ, List.setIfInBounds_toArray, List.set_cons_zero, List.set_cons_succ]
  refine wpAnyH_take (i := 8) (oi := _) (v := ?v8h) rfl (by kernel_rfl) (by kernel_rfl) (by kernel_rfl) (fun _ _ _ h => h) (Or.inl ⟨by rfl, ?y8h⟩) (by assumption) ?r8h
  case y8h => (intro w' hSw; (try dsimp only at hSw); go_simp; (try with_reducible rfl))
  try simp only [Act.put, List.getElem_toArray, List.getElem_cons_zero, List.getElem_cons_succ, List.setIfInBounds_toArray, List.set_cons_zero, List.set_cons_succ]
  refine wpAnyH_take (i := 9) (oi := _) (v := ?v9h) rfl (by kernel_rfl) (by kernel_rfl) (by kernel_rfl) (fun _ _ _ h => h) (Or.inl ⟨by rfl, ?y9h⟩) (by assumption) ?r9h
  case y9h => (intro w' hSw; (try dsimp only at hSw); go_simp; (try with_reducible rfl))
  try simp only [Act.put, List.getElem_toArray, List.getElem_cons_zero, List.getElem_cons_succ, List.setIfInBounds_toArray, List.set_cons_zero, List.set_cons_succ]
  refine wpAnyH_take (i := 10) (oi := _) (v := ?v10h) rfl (by kernel_rfl) (by kernel_rfl) (by kernel_rfl) (fun _ _ _ h => h) (Or.inl ⟨by rfl, ?y10h⟩) (by assumption) ?r10h
  case y10h => (intro w' hSw; (try dsimp only at hSw); go_simp; (try with_reducible rfl))
  try simp only [Act.put, List.getElem_toArray, List.getElem_cons_zero, List.getElem_cons_succ, List.setIfInBounds_toArray, List.set_cons_zero, List.set_cons_succ]
  refine wpAnyH_take (i := 11) (oi := _) (v := ?v11h) rfl (by kernel_rfl) (by kernel_rfl) (by kernel_rfl) (fun _ _ _ h => h) (Or.inl ⟨by rfl, ?y11h⟩) (by assumption) ?r11h
  case y11h => (intro w' hSw; (try dsimp only at hSw); go_simp; (try with_reducible rfl))
  try simp only [Act.put, List.getElem_toArray, List.getElem_cons_zero, List.getElem_cons_succ, List.setIfInBounds_toArray, List.set_cons_zero, List.set_cons_succ]
  refine wpAnyH_take (i := 12) (oi := _) (v := ?v12h) rfl (by kernel_rfl) (by kernel_rfl) (by kernel_rfl) (fun _ _ _ h => h) (Or.inl ⟨by rfl, ?y12h⟩) (by assumption) ?r12h
  case y12h => (intro w' hSw; (try dsimp only at hSw); go_simp; (try with_reducible rfl))
  try simp only [Act.put, List.getElem_toArray, List.getElem_cons_zero, List.getElem_cons_succ, List.setIfInBounds_toArray, List.set_cons_zero, List.set_cons_succ]
  refine wpAnyH_take (i := 13) (oi := _) (v := ?v13h) rfl (by kernel_rfl) (by kernel_rfl) (by kernel_rfl) (fun _ _ _ h => h) (Or.inl ⟨by rfl, ?y13h⟩) (by assumption) ?r13h
  case y13h => (intro w' hSw; (try dsimp only at hSw); go_simp; (try with_reducible rfl))
  try simp only [Act.put, List.getElem_toArray, List.getElem_cons_zero, List.getElem_cons_succ, List.setIfInBounds_toArray, List.set_cons_zero, List.set_cons_succ]
  clear hHeld
  refine wpAnyH_ready (rs := [2]) (by kernel_rfl) (by simp) ?_
  refine AllReadyH.cons (o := _) rfl (fun K hK => ?_) AllReadyH.nil
  go_simp
  have e1 : Ext w10 (w10.drew.alloc (.cells #[] 3)) := (Ext.drew (Ext.refl w10)).alloc _
  refine hK.out _ _ ⟨kcell (w1 := w10.drew) (W := w10) (fun _ _ _ => rfl) (Nat.le_refl _) (ext_alloc1 w10.drew (.cells #[] 3)), e1.size, e1⟩ (fun hHeld => ?_)
  clear hK K
  try simp only [Act.put, List.getElem_toArray, List.getElem_cons_zero, List.getElem_cons_succ, List.setIfInBounds_toArray, List.set_cons_zero, List.set_cons_succ]
  have HZ := hid (heap_alloc_new w10.drew (.cells #[] 3))
  clear hHeld
  refine wpAnyH_ready (rs := [5]) (by kernel_rfl) (by simp) ?_
  refine AllReadyH.cons (o := _) rfl (fun K hK => ?_) AllReadyH.nil
  refine wp_append_all _ rfl _ _ rfl w10.heap.size RA rc r (by rfl) HZ.out (by rw [HRN.out]; rfl) (HRW.out.ext e1) (by have := HRN.out; omega) ?_
  intro AR cr w11 hi hg
  rw [HRN.out]
  have e2 : Ext w10 w11 := ext_of_grown e1 hg (fun q hq => by injection hq with hq; omega)
  have HIR := hid hi
  clear hi hg
  refine hK.out _ _ ⟨kcell (w1 := w10) (W := w10) (fun _ _ _ => rfl) (Nat.le_refl _) e2, e2.size, e2⟩ (fun hHeld => ?_)
  clear hK K
  try simp only [Act.put, List.getElem_toArray, List.getElem_cons_zero, List.getElem_cons_succ, List.setIfInBounds_toArray, List.set_cons_zero, List.set_cons_succ]
  clear hHeld
  refine wpAnyH_ready (rs := [14]) (by kernel_rfl) (by simp) ?_
  refine AllReadyH.cons (o := _) rfl (fun K hK => ?_) AllReadyH.nil
  go_simp
  refine (HT1.out _ AR cr (HP2.out.ext ((F3.trans F10).trans e2)) HIR.out).mono ?_
  rintro e w12 ⟨rfl, hE⟩
  have e3 := e2.trans hE
  dsimp only
  refine hK.out _ _ ⟨kcell (w1 := w10) (W := w10) (fun _ _ _ => rfl) (Nat.le_refl _) e3, e3.size, e3⟩ (fun hHeld => ?_)
  clear hK K
  try simp only [Act.put, List.getElem_toArray, List.getElem_cons_zero, List.getElem_cons_succ, List.setIfInBounds_toArray, List.set_cons_zero, List.set_cons_succ]
  refine wpAnyH_take (i := 15) (oi := _) (v := ?v15h) rfl (by kernel_rfl) (by kernel_rfl) (by kernel_rfl) (fun _ _ _ h => h) (Or.inl ⟨by rfl, ?y15h⟩) (by assumption) ?r15h
  case y15h => (intro w' hSw; (try dsimp only at hSw); go_simp; (try with_reducible rfl))
  try simp only [Act.put, List.getElem_toArray, List.getElem_cons_zero, List.getElem_cons_succ, List.setIfInBounds_toArray, List.set_cons_zero, List.set_cons_succ]
  refine wpAnyH_take (i := 16) (oi := _) (v := ?v16h) rfl (by kernel_rfl) (by kernel_rfl) (by kernel_rfl) (fun _ _ _ h => h) (Or.inl ⟨by rfl, ?y16h⟩) (by assumption) ?r16h
  case y16h => (intro w' hSw; (try dsimp only at hSw); go_simp; (try with_reducible rfl))
  try simp only [Act.put, List.getElem_toArray, List.getElem_cons_zero, List.getElem_cons_succ, List.setIfInBounds_toArray, List.set_cons_zero, List.set_cons_succ]
  refine wpAnyH_take (i := 17) (oi := _) (v := ?v17h) rfl (by kernel_rfl) (by kernel_rfl) (by kernel_rfl) (fun _ _ _ h => h) (Or.inl ⟨by rfl, ?y17h⟩) (by assumption) ?r17h
  case y17h => (intro w' hSw; (try dsimp only at hSw); go_simp; (try with_reducible rfl))
  try simp only [Act.put, List.getElem_toArray, List.getElem_cons_zero, List.getElem_cons_succ, List.setIfInBounds_toArray, List.set_cons_zero, List.set_cons_succ]
  refine wpAnyH_take (i := 18) (oi := _) (v := ?v18h) rfl (by kernel_rfl) (by kernel_rfl) (by kernel_rfl) (fun _ _ _ h => h) (Or.inl ⟨by rfl, ?y18h⟩) (by assumption) ?r18h
  case y18h => (intro w' hSw; (try dsimp only at hSw); go_simp; (try with_reducible rfl))
  try simp only [Act.put, List.getElem_toArray, List.getElem_cons_zero, List.getElem_cons_succ, List.setIfInBounds_toArray, List.set_cons_zero, List.set_cons_succ]
  refine wpAnyH_take (i := 19) (oi := _) (v := ?v19h) rfl (by kernel_rfl) (by kernel_rfl) (by kernel_rfl) (fun _ _ _ h => h) (Or.inl ⟨by rfl, ?y19h⟩) (by assumption) ?r19h
  case y19h => (intro w' hSw; (try dsimp only at hSw); go_simp; (try with_reducible rfl))
  try simp only [Act.put, List.getElem_toArray, List.getElem_cons_zero, List.getElem_cons_succ, List.setIfInBounds_toArray, List.set_cons_zero, List.set_cons_succ]
  refine wpAnyH_done (by kernel_rfl) ?_ _
  have F12 := F10.trans e3
  clear hHeld hE e1 e2 e3 c00 c01 c10 c11 c12 c13 c20 c21 c22 c23 c24 c30 c31 q0 q1 q2 q3
  have c00 := blk_cell (blk_ext D0.out F12) 0
  have c01 := blk_cell (blk_ext D0.out F12) 1
  have c10 := blk_cell (blk_ext D1.out F12) 0
  have c11 := blk_cell (blk_ext D1.out F12) 1
  have c12 := blk_cell (blk_ext D1.out F12) 2
  have c13 := blk_cell (blk_ext D1.out F12) 3
  have c20 := blk_cell (blk_ext D2.out F12) 0
  have c21 := blk_cell (blk_ext D2.out F12) 1
  have c22 := blk_cell (blk_ext D2.out F12) 2
  have c23 := blk_cell (blk_ext D2.out F12) 3
  have c24 := blk_cell (blk_ext D2.out F12) 4
  have c30 := blk_cell (blk_ext D3.out F12) 0
  have c31 := blk_cell (blk_ext D3.out F12) 1
  simp only [List.getElem?_toArray, List.getElem?_cons_zero, List.getElem?_cons_succ] at c00 c01 c10 c11 c12 c13 c20 c21 c22 c23 c24 c30 c31
  have q0 := (Array.getElem?_eq_some_iff.1 (blk_ext D0.out F12)).1
  have q1 := (Array.getElem?_eq_some_iff.1 (blk_ext D1.out F12)).1
  have q2 := (Array.getElem?_eq_some_iff.1 (blk_ext D2.out F12)).1
  have q3 := (Array.getElem?_eq_some_iff.1 (blk_ext D3.out F12)).1
  go_wp2_with fail
  refine (HT2.out _ RA rc (HP.out.ext (E3.trans F12)) (HR.out.ext (E3.trans F12))).mono ?_
  rintro e w13 ⟨rfl, hE⟩
  have E7 := E3.trans (F12.trans hE)
  clear hE c00 c01 c10 c11 c12 c13 c20 c21 c22 c23 c24 c30 c31 q0 q1 q2 q3
  go_wp2_with fail
  refine (works_any _).mono ?_
  rintro e w9 ⟨rfl, hE9⟩
  have EZ : Ext w w9 := by (repeat' (first | with_reducible assumption | with_reducible exact Ext.refl _ | with_reducible refine Ext.alloc ?_ _ | with_reducible refine Ext.set ?_ ?_ _ | with_reducible refine Ext.drew ?_ | with_reducible refine Ext.drewN ?_ _ | with_reducible refine Ext.trans ?_ (by assumption) | (dsimp only; omega)))
  go_wp2
  go_ret
  exact ⟨rfl, EZ⟩
end Go.Proofs.Ytndoghcglbpllaa
