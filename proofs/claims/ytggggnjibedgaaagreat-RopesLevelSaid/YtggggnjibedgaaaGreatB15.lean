/- The example of the chapter: an outing and three posts. -/
import Derived.Test.YtggggnjibedgaaaGreatB14
set_option linter.unusedSimpArgs false
set_option linter.unusedVariables false
namespace Go.Proofs.YtggggnjibedgaaaGreat
open Go.RowKit
set_option maxHeartbeats 40000000 in
set_option maxRecDepth 100000 in
theorem example_any (w : World) :
    Calls Tryz.prog 54 #[] w fun e w' => ∃ A PA pc, e = .returned (.tuple #[exO.val A, .slice PA 3 pc]) ∧ OuAt w' exO A ∧ PosAt w' PA exP ∧ Ext w w' := by
  have HSP := hid span_any
  have x := blks3 w (.cells exZc 53) (.cells exWc 148) (.cells (exMc w.heap.size) 24)
  go_enter Tryz.func54, Tryz.ntmps54
  go_wp2_with fail
  refine Calls.mono (HSP.out _ _ _) ?_
  rintro e w1 ⟨rfl, E1⟩
  dsimp only
  have z1 : w.heap.size + 1 + 1 < w1.heap.size := by have := E1.size; simp at this; omega
  have R0 := hid (show Blk w1 w.heap.size 53 exZc from blk_ext x.1 E1)
  have R1 := hid (show Blk w1 (w.heap.size + 1) 148 exWc from blk_ext x.2.1 E1)
  have R2 := hid (show Blk w1 (w.heap.size + 1 + 1) 24 (exMc w.heap.size) from blk_ext x.2.2 E1)
  have EW : Ext w w1 := ((ext_alloc1 _ _).trans (ext_alloc1 _ _)).trans ((ext_alloc1 _ _).trans E1)
  clear x E1
  go_wp2_with fail
  refine Calls.mono (HSP.out _ _ _) ?_
  rintro e w2 ⟨rfl, E2⟩
  dsimp only
  go_wp2_with fail
  refine Calls.mono (HSP.out _ _ _) ?_
  rintro e w3 ⟨rfl, E3⟩
  dsimp only
  go_wp2_with fail
  refine Calls.mono (HSP.out _ _ _) ?_
  rintro e w4 ⟨rfl, E4⟩
  dsimp only
  have E14 := E2.trans (E3.trans E4)
  have y := blks2 w4 (.cells exFc 75) (.cells (exR1 w4.heap.size) 27)
  have z4 := E14.size
  go_wp2_with fail
  have E5 : Ext w1 ((w4.alloc (.cells exFc 75)).alloc (.cells (exR1 w4.heap.size) 27)) := E14.trans ((ext_alloc1 _ _).trans (ext_alloc1 _ _))
  have HF := hid (show ExF w w4.heap.size false false false false false 0 0 0 0 ((w4.alloc (.cells exFc 75)).alloc (.cells (exR1 w4.heap.size) 27)) from
    ⟨EW.trans E5, by omega, by simp, R0.out.ext E5, R1.out.ext E5, R2.out.ext E5, y.1, y.2, fun h => Bool.noConfusion h, fun h => Bool.noConfusion h, fun h => Bool.noConfusion h, fun h => Bool.noConfusion h⟩)
  clear R0 R1 R2 E14 E2 E3 E4 EW E5 y
  refine wp_absW (ExF w w4.heap.size false false false false false 0 0 0 0) HF.out ?_
  clear HF
  rintro X0 hF
  have HF := hid (hF.ext (Ext.drew (Ext.refl X0)))
  clear hF
  refine wp_region_held_drew (S := fun w' => Blk w' (w.heap.size + 1 + 1) 24 (exMc w.heap.size) ∧ Blk w' (w4.heap.size + 1) 27 (exR1 w4.heap.size)) (by kernel_rfl) ?hS0 (fun hHeld => ?_)
  case hS0 => exact HF.out.s
  refine tk1 (i := 0) (v := ?v0a) rfl ?y0a ?r0a
  case y0a => (intro w' hSw; (try dsimp only at hSw); go_simp; (try with_reducible rfl))
  try simp only [Act.put, sq1, sq2, sq3, sq4, sq5, sq6]
  refine tk1 (i := 1) (v := ?v1a) rfl ?y1a ?r1a
  case y1a => (intro w' hSw; (try dsimp only at hSw); go_simp; (try with_reducible rfl))
  try simp only [Act.put, sq1, sq2, sq3, sq4, sq5, sq6]
  refine tk1 (i := 2) (v := ?v2a) rfl ?y2a ?r2a
  case y2a => (intro w' hSw; (try dsimp only at hSw); go_simp; (try with_reducible rfl))
  try simp only [Act.put, sq1, sq2, sq3, sq4, sq5, sq6]
  refine tk1 (i := 5) (v := .agg #[.int .i64 3650, .int .i64 1825, .int .i64 10, .slice (some ⟨w.heap.size + 1, 0, none⟩) 3 3]) rfl ?y5 ?r5
  case y5 =>
    intro w' hSw
    (try dsimp only at hSw)
    have l0 := hSw.1.cell 0
    have l1 := hSw.1.cell 1
    have l2 := hSw.1.cell 2
    have l3 := hSw.1.cell 3
    unfold exMc at l0 l1 l2 l3
    simp only [List.getElem?_toArray, List.getElem?_cons_zero, List.getElem?_cons_succ] at l0 l1 l2 l3
    go_simp
  try simp only [Act.put, sq1, sq2, sq3, sq4, sq5, sq6]
  refine tk1 (i := 6) (v := .agg #[.int .i64 0, .int .i64 100, .int .i64 50, .slice (some ⟨w4.heap.size, 0, none⟩) 2 2]) rfl ?y6 ?r6
  case y6 =>
    intro w' hSw
    (try dsimp only at hSw)
    have l0 := hSw.2.cell 0
    have l1 := hSw.2.cell 1
    have l2 := hSw.2.cell 2
    have l3 := hSw.2.cell 3
    unfold exR1 at l0 l1 l2 l3
    simp only [List.getElem?_toArray, List.getElem?_cons_zero, List.getElem?_cons_succ] at l0 l1 l2 l3
    go_simp
  try simp only [Act.put, sq1, sq2, sq3, sq4, sq5, sq6]
  refine tk1 (i := 7) (v := ?v7a) rfl ?y7a ?r7a
  case y7a => (intro w' hSw; (try dsimp only at hSw); go_simp; (try with_reducible rfl))
  try simp only [Act.put, sq1, sq2, sq3, sq4, sq5, sq6]
  refine wp_name (fun WP hWP => ?_)
  generalize w4.heap.size = b4 at *
  clear hHeld
  have ST_348_311 := hid (show ∀ (g q r z : Nat) (X : World) (f : Nat) (l : Array Bool), f = 1 → l = #[true, true, true, true, true, true, true, true, true, true, true, true, true, true, true, true, true, true, false] → ExF w b4 true true true true true g q r z X → WP f l { tmps := #[.pointer (some ⟨w.heap.size, 0, none⟩), .slice none 0 0, .pointer (some ⟨w.heap.size + 1 + 1, 0, none⟩), .pointer (some ⟨b4 + 1, 0, none⟩), .agg #[.int .i64 30, .int .i64 1], .agg #[.int .i64 100, .int .i64 4], .agg #[.int .i64 170, .int .i64 10], .slice (some ⟨w.heap.size + 1, 0, none⟩) 3 3, .agg #[.int .i64 3650, .int .i64 1825, .int .i64 10, .slice (some ⟨w.heap.size + 1, 0, none⟩) 3 3], .agg #[.int .i64 20, .int .i64 30], .agg #[.int .i64 100, .int .i64 100], .agg #[.int .i64 200, .int .i64 20, .int .i64 30, .int .i64 100, .int .i64 100], .agg #[.int .i64 40, .int .i64 60], .agg #[.int .i64 40, .int .i64 50], .agg #[.int .i64 300, .int .i64 40, .int .i64 60, .int .i64 40, .int .i64 50], .slice (some ⟨b4, 0, none⟩) 2 2, .agg #[.int .i64 0, .int .i64 100, .int .i64 50, .slice (some ⟨b4, 0, none⟩) 2 2], .agg #[.int .i64 4, .int .i64 500, .int .i64 6], .agg #[.int .i64 3, .int .i64 399, .int .i64 9], .agg #[.int .i64 3, .int .i64 400, .int .i64 4], .slice (some ⟨g, 0, none⟩) 3 3, .slice (some ⟨q, 0, none⟩) 3 3, .agg #[.int .i64 3650, .int .i64 1825, .int .i64 10, .slice (some ⟨w.heap.size + 1, 0, none⟩) 3 3], .agg #[.int .i64 0, .int .i64 100, .int .i64 50, .slice (some ⟨b4, 0, none⟩) 2 2], .agg #[.int .i64 300, .int .i64 (-1), .int .i64 20, .slice none 0 0], .slice (some ⟨r, 0, none⟩) 2 2, .agg #[.int .i64 400, .int .i64 3, .int .i64 10, .slice (some ⟨g, 0, none⟩) 3 3, .slice (some ⟨q, 0, none⟩) 3 3, .int .i64 3650, .int .i64 1825, .int .i64 10, .slice (some ⟨w.heap.size + 1, 0, none⟩) 3 3, .slice (some ⟨r, 0, none⟩) 2 2], .agg #[.int .i64 0, .int .i64 2], .agg #[.int .i64 0, .int .i64 0, .int .i64 2], .agg #[.int .i64 1, .int .i64 3], .agg #[.int .i64 4000, .int .i64 1, .int .i64 3], .agg #[.int .i64 5, .int .i64 9], .agg #[.int .i64 6000, .int .i64 5, .int .i64 9], .slice (some ⟨z, 0, none⟩) 3 3], defers := [] } X from by
    rintro g q r z X _ _ rfl rfl hF
    have HF := hid hF
    have hHeld := hF.s
    clear hF
    refine (hWP.out _ _ _ _).2 ?_
    refine tk1 (i := 18) (v := ?v18fin) rfl ?y18fin ?r18fin
    case y18fin => (intro w' hSw; (try dsimp only at hSw); go_simp; (try with_reducible rfl))
    try simp only [Act.put, sq1, sq2, sq3, sq4, sq5, sq6]
    refine wpAnyH_done (by kernel_rfl) ?_ _
    have B0 := HF.out.b0
    rw [if_pos rfl] at B0
    unfold exOc at B0
    obtain ⟨r0, r1, r2, r3, r4, r5, r6, r7, r8, r9⟩ : _ ∧ _ ∧ _ ∧ _ ∧ _ ∧ _ ∧ _ ∧ _ ∧ _ ∧ _ := ⟨B0.cell 0, B0.cell 1, B0.cell 2, B0.cell 3, B0.cell 4, B0.cell 5, B0.cell 6, B0.cell 7, B0.cell 8, B0.cell 9⟩
    simp only [List.getElem?_toArray, List.getElem?_cons_zero, List.getElem?_cons_succ] at r0 r1 r2 r3 r4 r5 r6 r7 r8 r9
    have HO := hid HF.out.ou
    have HE := hid HF.out.e
    clear B0 HF hHeld
    go_wp2
    exact bodyPost_ret (v := .tuple #[exO.val ⟨some ⟨g, 0, none⟩, 3, some ⟨q, 0, none⟩, 3, some ⟨w.heap.size + 1, 0, none⟩, 3, some ⟨r, 0, none⟩, 2⟩, .slice (some ⟨z, 0, none⟩) 3 3]) (by simp [results, Tryz.results54, go_sem, r0, r1, r2, r3, r4, r5, r6, r7, r8, r9, Ou.val, exO, exM]) rfl ⟨_, _, 3, rfl, HO.out.1, HO.out.2, HE.out⟩)
  have ST_348_301 := hid (show ∀ (g q r : Nat) (X : World) (f : Nat) (l : Array Bool), f = 2 → l = #[true, true, true, true, true, true, true, true, true, true, true, true, true, true, true, true, false, true, false] → ExF w b4 true true true false true g q r 0 X → WP f l { tmps := #[.pointer (some ⟨w.heap.size, 0, none⟩), .slice none 0 0, .pointer (some ⟨w.heap.size + 1 + 1, 0, none⟩), .pointer (some ⟨b4 + 1, 0, none⟩), .agg #[.int .i64 30, .int .i64 1], .agg #[.int .i64 100, .int .i64 4], .agg #[.int .i64 170, .int .i64 10], .slice (some ⟨w.heap.size + 1, 0, none⟩) 3 3, .agg #[.int .i64 3650, .int .i64 1825, .int .i64 10, .slice (some ⟨w.heap.size + 1, 0, none⟩) 3 3], .agg #[.int .i64 20, .int .i64 30], .agg #[.int .i64 100, .int .i64 100], .agg #[.int .i64 200, .int .i64 20, .int .i64 30, .int .i64 100, .int .i64 100], .agg #[.int .i64 40, .int .i64 60], .agg #[.int .i64 40, .int .i64 50], .agg #[.int .i64 300, .int .i64 40, .int .i64 60, .int .i64 40, .int .i64 50], .slice (some ⟨b4, 0, none⟩) 2 2, .agg #[.int .i64 0, .int .i64 100, .int .i64 50, .slice (some ⟨b4, 0, none⟩) 2 2], .agg #[.int .i64 4, .int .i64 500, .int .i64 6], .agg #[.int .i64 3, .int .i64 399, .int .i64 9], .agg #[.int .i64 3, .int .i64 400, .int .i64 4], .slice (some ⟨g, 0, none⟩) 3 3, .slice (some ⟨q, 0, none⟩) 3 3, .agg #[.int .i64 3650, .int .i64 1825, .int .i64 10, .slice (some ⟨w.heap.size + 1, 0, none⟩) 3 3], .agg #[.int .i64 0, .int .i64 100, .int .i64 50, .slice (some ⟨b4, 0, none⟩) 2 2], .agg #[.int .i64 300, .int .i64 (-1), .int .i64 20, .slice none 0 0], .slice (some ⟨r, 0, none⟩) 2 2, .agg #[.int .i64 400, .int .i64 3, .int .i64 10, .slice (some ⟨g, 0, none⟩) 3 3, .slice (some ⟨q, 0, none⟩) 3 3, .int .i64 3650, .int .i64 1825, .int .i64 10, .slice (some ⟨w.heap.size + 1, 0, none⟩) 3 3, .slice (some ⟨r, 0, none⟩) 2 2], .agg #[.int .i64 0, .int .i64 2], .agg #[.int .i64 0, .int .i64 0, .int .i64 2], .agg #[.int .i64 1, .int .i64 3], .agg #[.int .i64 4000, .int .i64 1, .int .i64 3], .agg #[.int .i64 5, .int .i64 9], .agg #[.int .i64 6000, .int .i64 5, .int .i64 9], undef], defers := [] } X from by
    rintro g q r X _ _ rfl rfl hF
    have HF := hid hF
    have hHeld := hF.s
    clear hF
    refine (hWP.out _ _ _ _).2 ?_
    refine wpAnyH_ready (rs := [16]) (by kernel_rfl) (by simp) ?_
    refine AllReadyH.cons (o := _) rfl (fun K hK => ?_) AllReadyH.nil
    · go_simp
      have HN := hid HF.out.z
      clear hHeld
      refine hK.out _ _ HN.out.s (fun hHeld => ?_)
      clear hK K
      try simp only [Act.put, sq1, sq2, sq3, sq4, sq5, sq6]
      exact (hWP.out _ _ _ _).1 (ST_348_311.out g q r X.heap.size _ _ _ rfl (by kernel_rfl) HN.out))
  have ST_348_310 := hid (show ∀ (g q r z : Nat) (X : World) (f : Nat) (l : Array Bool), f = 2 → l = #[true, true, true, true, true, true, true, true, true, true, true, true, true, true, true, true, true, false, false] → ExF w b4 true true true true false g q r z X → WP f l { tmps := #[.pointer (some ⟨w.heap.size, 0, none⟩), .slice none 0 0, .pointer (some ⟨w.heap.size + 1 + 1, 0, none⟩), .pointer (some ⟨b4 + 1, 0, none⟩), .agg #[.int .i64 30, .int .i64 1], .agg #[.int .i64 100, .int .i64 4], .agg #[.int .i64 170, .int .i64 10], .slice (some ⟨w.heap.size + 1, 0, none⟩) 3 3, .agg #[.int .i64 3650, .int .i64 1825, .int .i64 10, .slice (some ⟨w.heap.size + 1, 0, none⟩) 3 3], .agg #[.int .i64 20, .int .i64 30], .agg #[.int .i64 100, .int .i64 100], .agg #[.int .i64 200, .int .i64 20, .int .i64 30, .int .i64 100, .int .i64 100], .agg #[.int .i64 40, .int .i64 60], .agg #[.int .i64 40, .int .i64 50], .agg #[.int .i64 300, .int .i64 40, .int .i64 60, .int .i64 40, .int .i64 50], .slice (some ⟨b4, 0, none⟩) 2 2, .agg #[.int .i64 0, .int .i64 100, .int .i64 50, .slice (some ⟨b4, 0, none⟩) 2 2], .agg #[.int .i64 4, .int .i64 500, .int .i64 6], .agg #[.int .i64 3, .int .i64 399, .int .i64 9], .agg #[.int .i64 3, .int .i64 400, .int .i64 4], .slice (some ⟨g, 0, none⟩) 3 3, .slice (some ⟨q, 0, none⟩) 3 3, .agg #[.int .i64 3650, .int .i64 1825, .int .i64 10, .slice (some ⟨w.heap.size + 1, 0, none⟩) 3 3], .agg #[.int .i64 0, .int .i64 100, .int .i64 50, .slice (some ⟨b4, 0, none⟩) 2 2], .agg #[.int .i64 300, .int .i64 (-1), .int .i64 20, .slice none 0 0], .slice (some ⟨r, 0, none⟩) 2 2, .agg #[.int .i64 400, .int .i64 3, .int .i64 10, .slice (some ⟨g, 0, none⟩) 3 3, .slice (some ⟨q, 0, none⟩) 3 3, .int .i64 3650, .int .i64 1825, .int .i64 10, .slice (some ⟨w.heap.size + 1, 0, none⟩) 3 3, .slice (some ⟨r, 0, none⟩) 2 2], .agg #[.int .i64 0, .int .i64 2], .agg #[.int .i64 0, .int .i64 0, .int .i64 2], .agg #[.int .i64 1, .int .i64 3], .agg #[.int .i64 4000, .int .i64 1, .int .i64 3], .agg #[.int .i64 5, .int .i64 9], .agg #[.int .i64 6000, .int .i64 5, .int .i64 9], .slice (some ⟨z, 0, none⟩) 3 3], defers := [] } X from by
    rintro g q r z X _ _ rfl rfl hF
    have HF := hid hF
    have hHeld := hF.s
    clear hF
    refine (hWP.out _ _ _ _).2 ?_
    refine wpAnyH_ready (rs := [17]) (by kernel_rfl) (by simp) ?_
    refine AllReadyH.cons (o := _) rfl (fun K hK => ?_) AllReadyH.nil
    · refine wp_store_mid 53 _ _ rfl w.heap.size 0 (exOc w.heap.size g q r) rfl rfl (blk_there HF.out.b0 rfl) infoOu (by simp [exOc, Value.oneCell']) ?_
      have HN := hid HF.out.store
      clear hHeld
      refine hK.out _ _ HN.out.s (fun hHeld => ?_)
      clear hK K
      try simp only [Act.put, sq1, sq2, sq3, sq4, sq5, sq6]
      exact (hWP.out _ _ _ _).1 (ST_348_311.out g q r z _ _ _ rfl (by kernel_rfl) HN.out))
  have ST_348_300 := hid (show ∀ (g q r : Nat) (X : World) (f : Nat) (l : Array Bool), f = 3 → l = #[true, true, true, true, true, true, true, true, true, true, true, true, true, true, true, true, false, false, false] → ExF w b4 true true true false false g q r 0 X → WP f l { tmps := #[.pointer (some ⟨w.heap.size, 0, none⟩), .slice none 0 0, .pointer (some ⟨w.heap.size + 1 + 1, 0, none⟩), .pointer (some ⟨b4 + 1, 0, none⟩), .agg #[.int .i64 30, .int .i64 1], .agg #[.int .i64 100, .int .i64 4], .agg #[.int .i64 170, .int .i64 10], .slice (some ⟨w.heap.size + 1, 0, none⟩) 3 3, .agg #[.int .i64 3650, .int .i64 1825, .int .i64 10, .slice (some ⟨w.heap.size + 1, 0, none⟩) 3 3], .agg #[.int .i64 20, .int .i64 30], .agg #[.int .i64 100, .int .i64 100], .agg #[.int .i64 200, .int .i64 20, .int .i64 30, .int .i64 100, .int .i64 100], .agg #[.int .i64 40, .int .i64 60], .agg #[.int .i64 40, .int .i64 50], .agg #[.int .i64 300, .int .i64 40, .int .i64 60, .int .i64 40, .int .i64 50], .slice (some ⟨b4, 0, none⟩) 2 2, .agg #[.int .i64 0, .int .i64 100, .int .i64 50, .slice (some ⟨b4, 0, none⟩) 2 2], .agg #[.int .i64 4, .int .i64 500, .int .i64 6], .agg #[.int .i64 3, .int .i64 399, .int .i64 9], .agg #[.int .i64 3, .int .i64 400, .int .i64 4], .slice (some ⟨g, 0, none⟩) 3 3, .slice (some ⟨q, 0, none⟩) 3 3, .agg #[.int .i64 3650, .int .i64 1825, .int .i64 10, .slice (some ⟨w.heap.size + 1, 0, none⟩) 3 3], .agg #[.int .i64 0, .int .i64 100, .int .i64 50, .slice (some ⟨b4, 0, none⟩) 2 2], .agg #[.int .i64 300, .int .i64 (-1), .int .i64 20, .slice none 0 0], .slice (some ⟨r, 0, none⟩) 2 2, .agg #[.int .i64 400, .int .i64 3, .int .i64 10, .slice (some ⟨g, 0, none⟩) 3 3, .slice (some ⟨q, 0, none⟩) 3 3, .int .i64 3650, .int .i64 1825, .int .i64 10, .slice (some ⟨w.heap.size + 1, 0, none⟩) 3 3, .slice (some ⟨r, 0, none⟩) 2 2], .agg #[.int .i64 0, .int .i64 2], .agg #[.int .i64 0, .int .i64 0, .int .i64 2], .agg #[.int .i64 1, .int .i64 3], .agg #[.int .i64 4000, .int .i64 1, .int .i64 3], .agg #[.int .i64 5, .int .i64 9], .agg #[.int .i64 6000, .int .i64 5, .int .i64 9], undef], defers := [] } X from by
    rintro g q r X _ _ rfl rfl hF
    have HF := hid hF
    have hHeld := hF.s
    clear hF
    refine (hWP.out _ _ _ _).2 ?_
    refine wpAnyH_ready (rs := [16, 17]) (by kernel_rfl) (by simp) ?_
    refine AllReadyH.cons (o := _) rfl (fun K hK => ?_) (AllReadyH.cons (o := _) rfl (fun K hK => ?_) AllReadyH.nil)
    · go_simp
      have HN := hid HF.out.z
      clear hHeld
      refine hK.out _ _ HN.out.s (fun hHeld => ?_)
      clear hK K
      try simp only [Act.put, sq1, sq2, sq3, sq4, sq5, sq6]
      exact (hWP.out _ _ _ _).1 (ST_348_310.out g q r X.heap.size _ _ _ rfl (by kernel_rfl) HN.out)
    · refine wp_store_mid 53 _ _ rfl w.heap.size 0 (exOc w.heap.size g q r) rfl rfl (blk_there HF.out.b0 rfl) infoOu (by simp [exOc, Value.oneCell']) ?_
      have HN := hid HF.out.store
      clear hHeld
      refine hK.out _ _ HN.out.s (fun hHeld => ?_)
      clear hK K
      try simp only [Act.put, sq1, sq2, sq3, sq4, sq5, sq6]
      exact (hWP.out _ _ _ _).1 (ST_348_301.out g q r _ _ _ rfl (by kernel_rfl) HN.out))
  have ST_34_310 := hid (show ∀ (g q z : Nat) (X : World) (f : Nat) (l : Array Bool), f = 4 → l = #[true, true, true, true, true, true, true, true, false, false, true, true, true, true, true, true, true, false, false] → ExF w b4 true true false true false g q 0 z X → WP f l { tmps := #[.pointer (some ⟨w.heap.size, 0, none⟩), .slice none 0 0, .pointer (some ⟨w.heap.size + 1 + 1, 0, none⟩), .pointer (some ⟨b4 + 1, 0, none⟩), .agg #[.int .i64 30, .int .i64 1], .agg #[.int .i64 100, .int .i64 4], .agg #[.int .i64 170, .int .i64 10], .slice (some ⟨w.heap.size + 1, 0, none⟩) 3 3, .agg #[.int .i64 3650, .int .i64 1825, .int .i64 10, .slice (some ⟨w.heap.size + 1, 0, none⟩) 3 3], .agg #[.int .i64 20, .int .i64 30], .agg #[.int .i64 100, .int .i64 100], .agg #[.int .i64 200, .int .i64 20, .int .i64 30, .int .i64 100, .int .i64 100], .agg #[.int .i64 40, .int .i64 60], .agg #[.int .i64 40, .int .i64 50], .agg #[.int .i64 300, .int .i64 40, .int .i64 60, .int .i64 40, .int .i64 50], .slice (some ⟨b4, 0, none⟩) 2 2, .agg #[.int .i64 0, .int .i64 100, .int .i64 50, .slice (some ⟨b4, 0, none⟩) 2 2], .agg #[.int .i64 4, .int .i64 500, .int .i64 6], .agg #[.int .i64 3, .int .i64 399, .int .i64 9], .agg #[.int .i64 3, .int .i64 400, .int .i64 4], .slice (some ⟨g, 0, none⟩) 3 3, .slice (some ⟨q, 0, none⟩) 3 3, .agg #[.int .i64 3650, .int .i64 1825, .int .i64 10, .slice (some ⟨w.heap.size + 1, 0, none⟩) 3 3], .agg #[.int .i64 0, .int .i64 100, .int .i64 50, .slice (some ⟨b4, 0, none⟩) 2 2], .agg #[.int .i64 300, .int .i64 (-1), .int .i64 20, .slice none 0 0], undef, undef, .agg #[.int .i64 0, .int .i64 2], .agg #[.int .i64 0, .int .i64 0, .int .i64 2], .agg #[.int .i64 1, .int .i64 3], .agg #[.int .i64 4000, .int .i64 1, .int .i64 3], .agg #[.int .i64 5, .int .i64 9], .agg #[.int .i64 6000, .int .i64 5, .int .i64 9], .slice (some ⟨z, 0, none⟩) 3 3], defers := [] } X from by
    rintro g q z X _ _ rfl rfl hF
    have HF := hid hF
    have hHeld := hF.s
    clear hF
    refine (hWP.out _ _ _ _).2 ?_
    refine wpAnyH_ready (rs := [8]) (by kernel_rfl) (by simp) ?_
    refine AllReadyH.cons (o := _) rfl (fun K hK => ?_) AllReadyH.nil
    · go_simp
      have HN := hid HF.out.r
      clear hHeld
      refine hK.out _ _ HN.out.s (fun hHeld => ?_)
      clear hK K
      try simp only [Act.put, sq1, sq2, sq3, sq4, sq5, sq6]
      refine tk1 (i := 9) (v := ?v9k1) rfl ?y9k1 ?r9k1
      case y9k1 => (intro w' hSw; (try dsimp only at hSw); go_simp; (try with_reducible rfl))
      try simp only [Act.put, sq1, sq2, sq3, sq4, sq5, sq6]
      exact (hWP.out _ _ _ _).1 (ST_348_310.out g q X.heap.size z _ _ _ rfl (by kernel_rfl) HN.out))
  have ST_38_310 := hid (show ∀ (g r z : Nat) (X : World) (f : Nat) (l : Array Bool), f = 4 → l = #[true, true, true, true, false, true, true, true, true, false, true, true, true, true, true, true, true, false, false] → ExF w b4 true false true true false g 0 r z X → WP f l { tmps := #[.pointer (some ⟨w.heap.size, 0, none⟩), .slice none 0 0, .pointer (some ⟨w.heap.size + 1 + 1, 0, none⟩), .pointer (some ⟨b4 + 1, 0, none⟩), .agg #[.int .i64 30, .int .i64 1], .agg #[.int .i64 100, .int .i64 4], .agg #[.int .i64 170, .int .i64 10], .slice (some ⟨w.heap.size + 1, 0, none⟩) 3 3, .agg #[.int .i64 3650, .int .i64 1825, .int .i64 10, .slice (some ⟨w.heap.size + 1, 0, none⟩) 3 3], .agg #[.int .i64 20, .int .i64 30], .agg #[.int .i64 100, .int .i64 100], .agg #[.int .i64 200, .int .i64 20, .int .i64 30, .int .i64 100, .int .i64 100], .agg #[.int .i64 40, .int .i64 60], .agg #[.int .i64 40, .int .i64 50], .agg #[.int .i64 300, .int .i64 40, .int .i64 60, .int .i64 40, .int .i64 50], .slice (some ⟨b4, 0, none⟩) 2 2, .agg #[.int .i64 0, .int .i64 100, .int .i64 50, .slice (some ⟨b4, 0, none⟩) 2 2], .agg #[.int .i64 4, .int .i64 500, .int .i64 6], .agg #[.int .i64 3, .int .i64 399, .int .i64 9], .agg #[.int .i64 3, .int .i64 400, .int .i64 4], .slice (some ⟨g, 0, none⟩) 3 3, undef, .agg #[.int .i64 3650, .int .i64 1825, .int .i64 10, .slice (some ⟨w.heap.size + 1, 0, none⟩) 3 3], .agg #[.int .i64 0, .int .i64 100, .int .i64 50, .slice (some ⟨b4, 0, none⟩) 2 2], .agg #[.int .i64 300, .int .i64 (-1), .int .i64 20, .slice none 0 0], .slice (some ⟨r, 0, none⟩) 2 2, undef, .agg #[.int .i64 0, .int .i64 2], .agg #[.int .i64 0, .int .i64 0, .int .i64 2], .agg #[.int .i64 1, .int .i64 3], .agg #[.int .i64 4000, .int .i64 1, .int .i64 3], .agg #[.int .i64 5, .int .i64 9], .agg #[.int .i64 6000, .int .i64 5, .int .i64 9], .slice (some ⟨z, 0, none⟩) 3 3], defers := [] } X from by
    rintro g r z X _ _ rfl rfl hF
    have HF := hid hF
    have hHeld := hF.s
    clear hF
    refine (hWP.out _ _ _ _).2 ?_
    refine wpAnyH_ready (rs := [4]) (by kernel_rfl) (by simp) ?_
    refine AllReadyH.cons (o := _) rfl (fun K hK => ?_) AllReadyH.nil
    · go_simp
      have HN := hid HF.out.q
      clear hHeld
      refine hK.out _ _ HN.out.s (fun hHeld => ?_)
      clear hK K
      try simp only [Act.put, sq1, sq2, sq3, sq4, sq5, sq6]
      refine tk1 (i := 9) (v := ?v9k2) rfl ?y9k2 ?r9k2
      case y9k2 => (intro w' hSw; (try dsimp only at hSw); go_simp; (try with_reducible rfl))
      try simp only [Act.put, sq1, sq2, sq3, sq4, sq5, sq6]
      exact (hWP.out _ _ _ _).1 (ST_348_310.out g X.heap.size r z _ _ _ rfl (by kernel_rfl) HN.out))
  have ST_48_310 := hid (show ∀ (q r z : Nat) (X : World) (f : Nat) (l : Array Bool), f = 4 → l = #[true, true, true, false, true, true, true, true, true, false, true, true, true, true, true, true, true, false, false] → ExF w b4 false true true true false 0 q r z X → WP f l { tmps := #[.pointer (some ⟨w.heap.size, 0, none⟩), .slice none 0 0, .pointer (some ⟨w.heap.size + 1 + 1, 0, none⟩), .pointer (some ⟨b4 + 1, 0, none⟩), .agg #[.int .i64 30, .int .i64 1], .agg #[.int .i64 100, .int .i64 4], .agg #[.int .i64 170, .int .i64 10], .slice (some ⟨w.heap.size + 1, 0, none⟩) 3 3, .agg #[.int .i64 3650, .int .i64 1825, .int .i64 10, .slice (some ⟨w.heap.size + 1, 0, none⟩) 3 3], .agg #[.int .i64 20, .int .i64 30], .agg #[.int .i64 100, .int .i64 100], .agg #[.int .i64 200, .int .i64 20, .int .i64 30, .int .i64 100, .int .i64 100], .agg #[.int .i64 40, .int .i64 60], .agg #[.int .i64 40, .int .i64 50], .agg #[.int .i64 300, .int .i64 40, .int .i64 60, .int .i64 40, .int .i64 50], .slice (some ⟨b4, 0, none⟩) 2 2, .agg #[.int .i64 0, .int .i64 100, .int .i64 50, .slice (some ⟨b4, 0, none⟩) 2 2], .agg #[.int .i64 4, .int .i64 500, .int .i64 6], .agg #[.int .i64 3, .int .i64 399, .int .i64 9], .agg #[.int .i64 3, .int .i64 400, .int .i64 4], undef, .slice (some ⟨q, 0, none⟩) 3 3, .agg #[.int .i64 3650, .int .i64 1825, .int .i64 10, .slice (some ⟨w.heap.size + 1, 0, none⟩) 3 3], .agg #[.int .i64 0, .int .i64 100, .int .i64 50, .slice (some ⟨b4, 0, none⟩) 2 2], .agg #[.int .i64 300, .int .i64 (-1), .int .i64 20, .slice none 0 0], .slice (some ⟨r, 0, none⟩) 2 2, undef, .agg #[.int .i64 0, .int .i64 2], .agg #[.int .i64 0, .int .i64 0, .int .i64 2], .agg #[.int .i64 1, .int .i64 3], .agg #[.int .i64 4000, .int .i64 1, .int .i64 3], .agg #[.int .i64 5, .int .i64 9], .agg #[.int .i64 6000, .int .i64 5, .int .i64 9], .slice (some ⟨z, 0, none⟩) 3 3], defers := [] } X from by
    rintro q r z X _ _ rfl rfl hF
    have HF := hid hF
    have hHeld := hF.s
    clear hF
    refine (hWP.out _ _ _ _).2 ?_
    refine wpAnyH_ready (rs := [3]) (by kernel_rfl) (by simp) ?_
    refine AllReadyH.cons (o := _) rfl (fun K hK => ?_) AllReadyH.nil
    · go_simp
      have HN := hid HF.out.g
      clear hHeld
      refine hK.out _ _ HN.out.s (fun hHeld => ?_)
      clear hK K
      try simp only [Act.put, sq1, sq2, sq3, sq4, sq5, sq6]
      refine tk1 (i := 9) (v := ?v9k3) rfl ?y9k3 ?r9k3
      case y9k3 => (intro w' hSw; (try dsimp only at hSw); go_simp; (try with_reducible rfl))
      try simp only [Act.put, sq1, sq2, sq3, sq4, sq5, sq6]
      exact (hWP.out _ _ _ _).1 (ST_348_310.out X.heap.size q r z _ _ _ rfl (by kernel_rfl) HN.out))
  have ST_3_310 := hid (show ∀ (g z : Nat) (X : World) (f : Nat) (l : Array Bool), f = 5 → l = #[true, true, true, true, false, true, true, true, false, false, true, true, true, true, true, true, true, false, false] → ExF w b4 true false false true false g 0 0 z X → WP f l { tmps := #[.pointer (some ⟨w.heap.size, 0, none⟩), .slice none 0 0, .pointer (some ⟨w.heap.size + 1 + 1, 0, none⟩), .pointer (some ⟨b4 + 1, 0, none⟩), .agg #[.int .i64 30, .int .i64 1], .agg #[.int .i64 100, .int .i64 4], .agg #[.int .i64 170, .int .i64 10], .slice (some ⟨w.heap.size + 1, 0, none⟩) 3 3, .agg #[.int .i64 3650, .int .i64 1825, .int .i64 10, .slice (some ⟨w.heap.size + 1, 0, none⟩) 3 3], .agg #[.int .i64 20, .int .i64 30], .agg #[.int .i64 100, .int .i64 100], .agg #[.int .i64 200, .int .i64 20, .int .i64 30, .int .i64 100, .int .i64 100], .agg #[.int .i64 40, .int .i64 60], .agg #[.int .i64 40, .int .i64 50], .agg #[.int .i64 300, .int .i64 40, .int .i64 60, .int .i64 40, .int .i64 50], .slice (some ⟨b4, 0, none⟩) 2 2, .agg #[.int .i64 0, .int .i64 100, .int .i64 50, .slice (some ⟨b4, 0, none⟩) 2 2], .agg #[.int .i64 4, .int .i64 500, .int .i64 6], .agg #[.int .i64 3, .int .i64 399, .int .i64 9], .agg #[.int .i64 3, .int .i64 400, .int .i64 4], .slice (some ⟨g, 0, none⟩) 3 3, undef, .agg #[.int .i64 3650, .int .i64 1825, .int .i64 10, .slice (some ⟨w.heap.size + 1, 0, none⟩) 3 3], .agg #[.int .i64 0, .int .i64 100, .int .i64 50, .slice (some ⟨b4, 0, none⟩) 2 2], .agg #[.int .i64 300, .int .i64 (-1), .int .i64 20, .slice none 0 0], undef, undef, .agg #[.int .i64 0, .int .i64 2], .agg #[.int .i64 0, .int .i64 0, .int .i64 2], .agg #[.int .i64 1, .int .i64 3], .agg #[.int .i64 4000, .int .i64 1, .int .i64 3], .agg #[.int .i64 5, .int .i64 9], .agg #[.int .i64 6000, .int .i64 5, .int .i64 9], .slice (some ⟨z, 0, none⟩) 3 3], defers := [] } X from by
    rintro g z X _ _ rfl rfl hF
    have HF := hid hF
    have hHeld := hF.s
    clear hF
    refine (hWP.out _ _ _ _).2 ?_
    refine wpAnyH_ready (rs := [4, 8]) (by kernel_rfl) (by simp) ?_
    refine AllReadyH.cons (o := _) rfl (fun K hK => ?_) (AllReadyH.cons (o := _) rfl (fun K hK => ?_) AllReadyH.nil)
    · go_simp
      have HN := hid HF.out.q
      clear hHeld
      refine hK.out _ _ HN.out.s (fun hHeld => ?_)
      clear hK K
      try simp only [Act.put, sq1, sq2, sq3, sq4, sq5, sq6]
      exact (hWP.out _ _ _ _).1 (ST_34_310.out g X.heap.size z _ _ _ rfl (by kernel_rfl) HN.out)
    · go_simp
      have HN := hid HF.out.r
      clear hHeld
      refine hK.out _ _ HN.out.s (fun hHeld => ?_)
      clear hK K
      try simp only [Act.put, sq1, sq2, sq3, sq4, sq5, sq6]
      exact (hWP.out _ _ _ _).1 (ST_38_310.out g X.heap.size z _ _ _ rfl (by kernel_rfl) HN.out))
  have ST_4_310 := hid (show ∀ (q z : Nat) (X : World) (f : Nat) (l : Array Bool), f = 5 → l = #[true, true, true, false, true, true, true, true, false, false, true, true, true, true, true, true, true, false, false] → ExF w b4 false true false true false 0 q 0 z X → WP f l { tmps := #[.pointer (some ⟨w.heap.size, 0, none⟩), .slice none 0 0, .pointer (some ⟨w.heap.size + 1 + 1, 0, none⟩), .pointer (some ⟨b4 + 1, 0, none⟩), .agg #[.int .i64 30, .int .i64 1], .agg #[.int .i64 100, .int .i64 4], .agg #[.int .i64 170, .int .i64 10], .slice (some ⟨w.heap.size + 1, 0, none⟩) 3 3, .agg #[.int .i64 3650, .int .i64 1825, .int .i64 10, .slice (some ⟨w.heap.size + 1, 0, none⟩) 3 3], .agg #[.int .i64 20, .int .i64 30], .agg #[.int .i64 100, .int .i64 100], .agg #[.int .i64 200, .int .i64 20, .int .i64 30, .int .i64 100, .int .i64 100], .agg #[.int .i64 40, .int .i64 60], .agg #[.int .i64 40, .int .i64 50], .agg #[.int .i64 300, .int .i64 40, .int .i64 60, .int .i64 40, .int .i64 50], .slice (some ⟨b4, 0, none⟩) 2 2, .agg #[.int .i64 0, .int .i64 100, .int .i64 50, .slice (some ⟨b4, 0, none⟩) 2 2], .agg #[.int .i64 4, .int .i64 500, .int .i64 6], .agg #[.int .i64 3, .int .i64 399, .int .i64 9], .agg #[.int .i64 3, .int .i64 400, .int .i64 4], undef, .slice (some ⟨q, 0, none⟩) 3 3, .agg #[.int .i64 3650, .int .i64 1825, .int .i64 10, .slice (some ⟨w.heap.size + 1, 0, none⟩) 3 3], .agg #[.int .i64 0, .int .i64 100, .int .i64 50, .slice (some ⟨b4, 0, none⟩) 2 2], .agg #[.int .i64 300, .int .i64 (-1), .int .i64 20, .slice none 0 0], undef, undef, .agg #[.int .i64 0, .int .i64 2], .agg #[.int .i64 0, .int .i64 0, .int .i64 2], .agg #[.int .i64 1, .int .i64 3], .agg #[.int .i64 4000, .int .i64 1, .int .i64 3], .agg #[.int .i64 5, .int .i64 9], .agg #[.int .i64 6000, .int .i64 5, .int .i64 9], .slice (some ⟨z, 0, none⟩) 3 3], defers := [] } X from by
    rintro q z X _ _ rfl rfl hF
    have HF := hid hF
    have hHeld := hF.s
    clear hF
    refine (hWP.out _ _ _ _).2 ?_
    refine wpAnyH_ready (rs := [3, 8]) (by kernel_rfl) (by simp) ?_
    refine AllReadyH.cons (o := _) rfl (fun K hK => ?_) (AllReadyH.cons (o := _) rfl (fun K hK => ?_) AllReadyH.nil)
    · go_simp
      have HN := hid HF.out.g
      clear hHeld
      refine hK.out _ _ HN.out.s (fun hHeld => ?_)
      clear hK K
      try simp only [Act.put, sq1, sq2, sq3, sq4, sq5, sq6]
      exact (hWP.out _ _ _ _).1 (ST_34_310.out X.heap.size q z _ _ _ rfl (by kernel_rfl) HN.out)
    · go_simp
      have HN := hid HF.out.r
      clear hHeld
      refine hK.out _ _ HN.out.s (fun hHeld => ?_)
      clear hK K
      try simp only [Act.put, sq1, sq2, sq3, sq4, sq5, sq6]
      exact (hWP.out _ _ _ _).1 (ST_48_310.out q X.heap.size z _ _ _ rfl (by kernel_rfl) HN.out))
  have ST_8_310 := hid (show ∀ (r z : Nat) (X : World) (f : Nat) (l : Array Bool), f = 5 → l = #[true, true, true, false, false, true, true, true, true, false, true, true, true, true, true, true, true, false, false] → ExF w b4 false false true true false 0 0 r z X → WP f l { tmps := #[.pointer (some ⟨w.heap.size, 0, none⟩), .slice none 0 0, .pointer (some ⟨w.heap.size + 1 + 1, 0, none⟩), .pointer (some ⟨b4 + 1, 0, none⟩), .agg #[.int .i64 30, .int .i64 1], .agg #[.int .i64 100, .int .i64 4], .agg #[.int .i64 170, .int .i64 10], .slice (some ⟨w.heap.size + 1, 0, none⟩) 3 3, .agg #[.int .i64 3650, .int .i64 1825, .int .i64 10, .slice (some ⟨w.heap.size + 1, 0, none⟩) 3 3], .agg #[.int .i64 20, .int .i64 30], .agg #[.int .i64 100, .int .i64 100], .agg #[.int .i64 200, .int .i64 20, .int .i64 30, .int .i64 100, .int .i64 100], .agg #[.int .i64 40, .int .i64 60], .agg #[.int .i64 40, .int .i64 50], .agg #[.int .i64 300, .int .i64 40, .int .i64 60, .int .i64 40, .int .i64 50], .slice (some ⟨b4, 0, none⟩) 2 2, .agg #[.int .i64 0, .int .i64 100, .int .i64 50, .slice (some ⟨b4, 0, none⟩) 2 2], .agg #[.int .i64 4, .int .i64 500, .int .i64 6], .agg #[.int .i64 3, .int .i64 399, .int .i64 9], .agg #[.int .i64 3, .int .i64 400, .int .i64 4], undef, undef, .agg #[.int .i64 3650, .int .i64 1825, .int .i64 10, .slice (some ⟨w.heap.size + 1, 0, none⟩) 3 3], .agg #[.int .i64 0, .int .i64 100, .int .i64 50, .slice (some ⟨b4, 0, none⟩) 2 2], .agg #[.int .i64 300, .int .i64 (-1), .int .i64 20, .slice none 0 0], .slice (some ⟨r, 0, none⟩) 2 2, undef, .agg #[.int .i64 0, .int .i64 2], .agg #[.int .i64 0, .int .i64 0, .int .i64 2], .agg #[.int .i64 1, .int .i64 3], .agg #[.int .i64 4000, .int .i64 1, .int .i64 3], .agg #[.int .i64 5, .int .i64 9], .agg #[.int .i64 6000, .int .i64 5, .int .i64 9], .slice (some ⟨z, 0, none⟩) 3 3], defers := [] } X from by
    rintro r z X _ _ rfl rfl hF
    have HF := hid hF
    have hHeld := hF.s
    clear hF
    refine (hWP.out _ _ _ _).2 ?_
    refine wpAnyH_ready (rs := [3, 4]) (by kernel_rfl) (by simp) ?_
    refine AllReadyH.cons (o := _) rfl (fun K hK => ?_) (AllReadyH.cons (o := _) rfl (fun K hK => ?_) AllReadyH.nil)
    · go_simp
      have HN := hid HF.out.g
      clear hHeld
      refine hK.out _ _ HN.out.s (fun hHeld => ?_)
      clear hK K
      try simp only [Act.put, sq1, sq2, sq3, sq4, sq5, sq6]
      exact (hWP.out _ _ _ _).1 (ST_38_310.out X.heap.size r z _ _ _ rfl (by kernel_rfl) HN.out)
    · go_simp
      have HN := hid HF.out.q
      clear hHeld
      refine hK.out _ _ HN.out.s (fun hHeld => ?_)
      clear hK K
      try simp only [Act.put, sq1, sq2, sq3, sq4, sq5, sq6]
      exact (hWP.out _ _ _ _).1 (ST_48_310.out X.heap.size r z _ _ _ rfl (by kernel_rfl) HN.out))
  have ST_34_300 := hid (show ∀ (g q : Nat) (X : World) (f : Nat) (l : Array Bool), f = 5 → l = #[true, true, true, true, true, true, true, true, false, false, true, true, true, true, true, true, false, false, false] → ExF w b4 true true false false false g q 0 0 X → WP f l { tmps := #[.pointer (some ⟨w.heap.size, 0, none⟩), .slice none 0 0, .pointer (some ⟨w.heap.size + 1 + 1, 0, none⟩), .pointer (some ⟨b4 + 1, 0, none⟩), .agg #[.int .i64 30, .int .i64 1], .agg #[.int .i64 100, .int .i64 4], .agg #[.int .i64 170, .int .i64 10], .slice (some ⟨w.heap.size + 1, 0, none⟩) 3 3, .agg #[.int .i64 3650, .int .i64 1825, .int .i64 10, .slice (some ⟨w.heap.size + 1, 0, none⟩) 3 3], .agg #[.int .i64 20, .int .i64 30], .agg #[.int .i64 100, .int .i64 100], .agg #[.int .i64 200, .int .i64 20, .int .i64 30, .int .i64 100, .int .i64 100], .agg #[.int .i64 40, .int .i64 60], .agg #[.int .i64 40, .int .i64 50], .agg #[.int .i64 300, .int .i64 40, .int .i64 60, .int .i64 40, .int .i64 50], .slice (some ⟨b4, 0, none⟩) 2 2, .agg #[.int .i64 0, .int .i64 100, .int .i64 50, .slice (some ⟨b4, 0, none⟩) 2 2], .agg #[.int .i64 4, .int .i64 500, .int .i64 6], .agg #[.int .i64 3, .int .i64 399, .int .i64 9], .agg #[.int .i64 3, .int .i64 400, .int .i64 4], .slice (some ⟨g, 0, none⟩) 3 3, .slice (some ⟨q, 0, none⟩) 3 3, .agg #[.int .i64 3650, .int .i64 1825, .int .i64 10, .slice (some ⟨w.heap.size + 1, 0, none⟩) 3 3], .agg #[.int .i64 0, .int .i64 100, .int .i64 50, .slice (some ⟨b4, 0, none⟩) 2 2], .agg #[.int .i64 300, .int .i64 (-1), .int .i64 20, .slice none 0 0], undef, undef, .agg #[.int .i64 0, .int .i64 2], .agg #[.int .i64 0, .int .i64 0, .int .i64 2], .agg #[.int .i64 1, .int .i64 3], .agg #[.int .i64 4000, .int .i64 1, .int .i64 3], .agg #[.int .i64 5, .int .i64 9], .agg #[.int .i64 6000, .int .i64 5, .int .i64 9], undef], defers := [] } X from by
    rintro g q X _ _ rfl rfl hF
    have HF := hid hF
    have hHeld := hF.s
    clear hF
    refine (hWP.out _ _ _ _).2 ?_
    refine wpAnyH_ready (rs := [8, 16]) (by kernel_rfl) (by simp) ?_
    refine AllReadyH.cons (o := _) rfl (fun K hK => ?_) (AllReadyH.cons (o := _) rfl (fun K hK => ?_) AllReadyH.nil)
    · go_simp
      have HN := hid HF.out.r
      clear hHeld
      refine hK.out _ _ HN.out.s (fun hHeld => ?_)
      clear hK K
      try simp only [Act.put, sq1, sq2, sq3, sq4, sq5, sq6]
      refine tk1 (i := 9) (v := ?v9k4) rfl ?y9k4 ?r9k4
      case y9k4 => (intro w' hSw; (try dsimp only at hSw); go_simp; (try with_reducible rfl))
      try simp only [Act.put, sq1, sq2, sq3, sq4, sq5, sq6]
      exact (hWP.out _ _ _ _).1 (ST_348_300.out g q X.heap.size _ _ _ rfl (by kernel_rfl) HN.out)
    · go_simp
      have HN := hid HF.out.z
      clear hHeld
      refine hK.out _ _ HN.out.s (fun hHeld => ?_)
      clear hK K
      try simp only [Act.put, sq1, sq2, sq3, sq4, sq5, sq6]
      exact (hWP.out _ _ _ _).1 (ST_34_310.out g q X.heap.size _ _ _ rfl (by kernel_rfl) HN.out))
  have ST_38_300 := hid (show ∀ (g r : Nat) (X : World) (f : Nat) (l : Array Bool), f = 5 → l = #[true, true, true, true, false, true, true, true, true, false, true, true, true, true, true, true, false, false, false] → ExF w b4 true false true false false g 0 r 0 X → WP f l { tmps := #[.pointer (some ⟨w.heap.size, 0, none⟩), .slice none 0 0, .pointer (some ⟨w.heap.size + 1 + 1, 0, none⟩), .pointer (some ⟨b4 + 1, 0, none⟩), .agg #[.int .i64 30, .int .i64 1], .agg #[.int .i64 100, .int .i64 4], .agg #[.int .i64 170, .int .i64 10], .slice (some ⟨w.heap.size + 1, 0, none⟩) 3 3, .agg #[.int .i64 3650, .int .i64 1825, .int .i64 10, .slice (some ⟨w.heap.size + 1, 0, none⟩) 3 3], .agg #[.int .i64 20, .int .i64 30], .agg #[.int .i64 100, .int .i64 100], .agg #[.int .i64 200, .int .i64 20, .int .i64 30, .int .i64 100, .int .i64 100], .agg #[.int .i64 40, .int .i64 60], .agg #[.int .i64 40, .int .i64 50], .agg #[.int .i64 300, .int .i64 40, .int .i64 60, .int .i64 40, .int .i64 50], .slice (some ⟨b4, 0, none⟩) 2 2, .agg #[.int .i64 0, .int .i64 100, .int .i64 50, .slice (some ⟨b4, 0, none⟩) 2 2], .agg #[.int .i64 4, .int .i64 500, .int .i64 6], .agg #[.int .i64 3, .int .i64 399, .int .i64 9], .agg #[.int .i64 3, .int .i64 400, .int .i64 4], .slice (some ⟨g, 0, none⟩) 3 3, undef, .agg #[.int .i64 3650, .int .i64 1825, .int .i64 10, .slice (some ⟨w.heap.size + 1, 0, none⟩) 3 3], .agg #[.int .i64 0, .int .i64 100, .int .i64 50, .slice (some ⟨b4, 0, none⟩) 2 2], .agg #[.int .i64 300, .int .i64 (-1), .int .i64 20, .slice none 0 0], .slice (some ⟨r, 0, none⟩) 2 2, undef, .agg #[.int .i64 0, .int .i64 2], .agg #[.int .i64 0, .int .i64 0, .int .i64 2], .agg #[.int .i64 1, .int .i64 3], .agg #[.int .i64 4000, .int .i64 1, .int .i64 3], .agg #[.int .i64 5, .int .i64 9], .agg #[.int .i64 6000, .int .i64 5, .int .i64 9], undef], defers := [] } X from by
    rintro g r X _ _ rfl rfl hF
    have HF := hid hF
    have hHeld := hF.s
    clear hF
    refine (hWP.out _ _ _ _).2 ?_
    refine wpAnyH_ready (rs := [4, 16]) (by kernel_rfl) (by simp) ?_
    refine AllReadyH.cons (o := _) rfl (fun K hK => ?_) (AllReadyH.cons (o := _) rfl (fun K hK => ?_) AllReadyH.nil)
    · go_simp
      have HN := hid HF.out.q
      clear hHeld
      refine hK.out _ _ HN.out.s (fun hHeld => ?_)
      clear hK K
      try simp only [Act.put, sq1, sq2, sq3, sq4, sq5, sq6]
      refine tk1 (i := 9) (v := ?v9k5) rfl ?y9k5 ?r9k5
      case y9k5 => (intro w' hSw; (try dsimp only at hSw); go_simp; (try with_reducible rfl))
      try simp only [Act.put, sq1, sq2, sq3, sq4, sq5, sq6]
      exact (hWP.out _ _ _ _).1 (ST_348_300.out g X.heap.size r _ _ _ rfl (by kernel_rfl) HN.out)
    · go_simp
      have HN := hid HF.out.z
      clear hHeld
      refine hK.out _ _ HN.out.s (fun hHeld => ?_)
      clear hK K
      try simp only [Act.put, sq1, sq2, sq3, sq4, sq5, sq6]
      exact (hWP.out _ _ _ _).1 (ST_38_310.out g r X.heap.size _ _ _ rfl (by kernel_rfl) HN.out))
  have ST_48_300 := hid (show ∀ (q r : Nat) (X : World) (f : Nat) (l : Array Bool), f = 5 → l = #[true, true, true, false, true, true, true, true, true, false, true, true, true, true, true, true, false, false, false] → ExF w b4 false true true false false 0 q r 0 X → WP f l { tmps := #[.pointer (some ⟨w.heap.size, 0, none⟩), .slice none 0 0, .pointer (some ⟨w.heap.size + 1 + 1, 0, none⟩), .pointer (some ⟨b4 + 1, 0, none⟩), .agg #[.int .i64 30, .int .i64 1], .agg #[.int .i64 100, .int .i64 4], .agg #[.int .i64 170, .int .i64 10], .slice (some ⟨w.heap.size + 1, 0, none⟩) 3 3, .agg #[.int .i64 3650, .int .i64 1825, .int .i64 10, .slice (some ⟨w.heap.size + 1, 0, none⟩) 3 3], .agg #[.int .i64 20, .int .i64 30], .agg #[.int .i64 100, .int .i64 100], .agg #[.int .i64 200, .int .i64 20, .int .i64 30, .int .i64 100, .int .i64 100], .agg #[.int .i64 40, .int .i64 60], .agg #[.int .i64 40, .int .i64 50], .agg #[.int .i64 300, .int .i64 40, .int .i64 60, .int .i64 40, .int .i64 50], .slice (some ⟨b4, 0, none⟩) 2 2, .agg #[.int .i64 0, .int .i64 100, .int .i64 50, .slice (some ⟨b4, 0, none⟩) 2 2], .agg #[.int .i64 4, .int .i64 500, .int .i64 6], .agg #[.int .i64 3, .int .i64 399, .int .i64 9], .agg #[.int .i64 3, .int .i64 400, .int .i64 4], undef, .slice (some ⟨q, 0, none⟩) 3 3, .agg #[.int .i64 3650, .int .i64 1825, .int .i64 10, .slice (some ⟨w.heap.size + 1, 0, none⟩) 3 3], .agg #[.int .i64 0, .int .i64 100, .int .i64 50, .slice (some ⟨b4, 0, none⟩) 2 2], .agg #[.int .i64 300, .int .i64 (-1), .int .i64 20, .slice none 0 0], .slice (some ⟨r, 0, none⟩) 2 2, undef, .agg #[.int .i64 0, .int .i64 2], .agg #[.int .i64 0, .int .i64 0, .int .i64 2], .agg #[.int .i64 1, .int .i64 3], .agg #[.int .i64 4000, .int .i64 1, .int .i64 3], .agg #[.int .i64 5, .int .i64 9], .agg #[.int .i64 6000, .int .i64 5, .int .i64 9], undef], defers := [] } X from by
    rintro q r X _ _ rfl rfl hF
    have HF := hid hF
    have hHeld := hF.s
    clear hF
    refine (hWP.out _ _ _ _).2 ?_
    refine wpAnyH_ready (rs := [3, 16]) (by kernel_rfl) (by simp) ?_
    refine AllReadyH.cons (o := _) rfl (fun K hK => ?_) (AllReadyH.cons (o := _) rfl (fun K hK => ?_) AllReadyH.nil)
    · go_simp
      have HN := hid HF.out.g
      clear hHeld
      refine hK.out _ _ HN.out.s (fun hHeld => ?_)
      clear hK K
      try simp only [Act.put, sq1, sq2, sq3, sq4, sq5, sq6]
      refine tk1 (i := 9) (v := ?v9k6) rfl ?y9k6 ?r9k6
      case y9k6 => (intro w' hSw; (try dsimp only at hSw); go_simp; (try with_reducible rfl))
      try simp only [Act.put, sq1, sq2, sq3, sq4, sq5, sq6]
      exact (hWP.out _ _ _ _).1 (ST_348_300.out X.heap.size q r _ _ _ rfl (by kernel_rfl) HN.out)
    · go_simp
      have HN := hid HF.out.z
      clear hHeld
      refine hK.out _ _ HN.out.s (fun hHeld => ?_)
      clear hK K
      try simp only [Act.put, sq1, sq2, sq3, sq4, sq5, sq6]
      exact (hWP.out _ _ _ _).1 (ST_48_310.out q r X.heap.size _ _ _ rfl (by kernel_rfl) HN.out))
  have ST_348_200 := hid (show ∀ (g q r : Nat) (X : World) (f : Nat) (l : Array Bool), f = 5 → l = #[true, true, true, true, true, true, true, true, true, true, true, true, true, true, false, false, false, false, false] → ExF w b4 true true true false false g q r 0 X → WP f l { tmps := #[.pointer (some ⟨w.heap.size, 0, none⟩), .slice none 0 0, .pointer (some ⟨w.heap.size + 1 + 1, 0, none⟩), .pointer (some ⟨b4 + 1, 0, none⟩), .agg #[.int .i64 30, .int .i64 1], .agg #[.int .i64 100, .int .i64 4], .agg #[.int .i64 170, .int .i64 10], .slice (some ⟨w.heap.size + 1, 0, none⟩) 3 3, .agg #[.int .i64 3650, .int .i64 1825, .int .i64 10, .slice (some ⟨w.heap.size + 1, 0, none⟩) 3 3], .agg #[.int .i64 20, .int .i64 30], .agg #[.int .i64 100, .int .i64 100], .agg #[.int .i64 200, .int .i64 20, .int .i64 30, .int .i64 100, .int .i64 100], .agg #[.int .i64 40, .int .i64 60], .agg #[.int .i64 40, .int .i64 50], .agg #[.int .i64 300, .int .i64 40, .int .i64 60, .int .i64 40, .int .i64 50], .slice (some ⟨b4, 0, none⟩) 2 2, .agg #[.int .i64 0, .int .i64 100, .int .i64 50, .slice (some ⟨b4, 0, none⟩) 2 2], .agg #[.int .i64 4, .int .i64 500, .int .i64 6], .agg #[.int .i64 3, .int .i64 399, .int .i64 9], .agg #[.int .i64 3, .int .i64 400, .int .i64 4], .slice (some ⟨g, 0, none⟩) 3 3, .slice (some ⟨q, 0, none⟩) 3 3, .agg #[.int .i64 3650, .int .i64 1825, .int .i64 10, .slice (some ⟨w.heap.size + 1, 0, none⟩) 3 3], .agg #[.int .i64 0, .int .i64 100, .int .i64 50, .slice (some ⟨b4, 0, none⟩) 2 2], .agg #[.int .i64 300, .int .i64 (-1), .int .i64 20, .slice none 0 0], .slice (some ⟨r, 0, none⟩) 2 2, .agg #[.int .i64 400, .int .i64 3, .int .i64 10, .slice (some ⟨g, 0, none⟩) 3 3, .slice (some ⟨q, 0, none⟩) 3 3, .int .i64 3650, .int .i64 1825, .int .i64 10, .slice (some ⟨w.heap.size + 1, 0, none⟩) 3 3, .slice (some ⟨r, 0, none⟩) 2 2], .agg #[.int .i64 0, .int .i64 2], .agg #[.int .i64 0, .int .i64 0, .int .i64 2], .agg #[.int .i64 1, .int .i64 3], .agg #[.int .i64 4000, .int .i64 1, .int .i64 3], undef, undef, undef], defers := [] } X from by
    rintro g q r X _ _ rfl rfl hF
    have HF := hid hF
    have hHeld := hF.s
    clear hF
    refine (hWP.out _ _ _ _).2 ?_
    refine wpAnyH_ready (rs := [14]) (by kernel_rfl) (by simp) ?_
    refine AllReadyH.cons (o := _) rfl (fun K hK => ?_) AllReadyH.nil
    · go_simp
      refine Calls.mono (HSP.out _ _ _) ?_
      rintro e Y ⟨rfl, hE⟩
      dsimp only
      have HN := hid (HF.out.ext hE)
      clear hHeld hE
      refine hK.out _ _ HN.out.s (fun hHeld => ?_)
      clear hK K
      try simp only [Act.put, sq1, sq2, sq3, sq4, sq5, sq6]
      refine tk1 (i := 15) (v := ?v15k7) rfl ?y15k7 ?r15k7
      case y15k7 => (intro w' hSw; (try dsimp only at hSw); go_simp; (try with_reducible rfl))
      try simp only [Act.put, sq1, sq2, sq3, sq4, sq5, sq6]
      exact (hWP.out _ _ _ _).1 (ST_348_300.out g q r _ _ _ rfl (by kernel_rfl) HN.out))
  have ST_0_310 := hid (show ∀ (z : Nat) (X : World) (f : Nat) (l : Array Bool), f = 6 → l = #[true, true, true, false, false, true, true, true, false, false, true, true, true, true, true, true, true, false, false] → ExF w b4 false false false true false 0 0 0 z X → WP f l { tmps := #[.pointer (some ⟨w.heap.size, 0, none⟩), .slice none 0 0, .pointer (some ⟨w.heap.size + 1 + 1, 0, none⟩), .pointer (some ⟨b4 + 1, 0, none⟩), .agg #[.int .i64 30, .int .i64 1], .agg #[.int .i64 100, .int .i64 4], .agg #[.int .i64 170, .int .i64 10], .slice (some ⟨w.heap.size + 1, 0, none⟩) 3 3, .agg #[.int .i64 3650, .int .i64 1825, .int .i64 10, .slice (some ⟨w.heap.size + 1, 0, none⟩) 3 3], .agg #[.int .i64 20, .int .i64 30], .agg #[.int .i64 100, .int .i64 100], .agg #[.int .i64 200, .int .i64 20, .int .i64 30, .int .i64 100, .int .i64 100], .agg #[.int .i64 40, .int .i64 60], .agg #[.int .i64 40, .int .i64 50], .agg #[.int .i64 300, .int .i64 40, .int .i64 60, .int .i64 40, .int .i64 50], .slice (some ⟨b4, 0, none⟩) 2 2, .agg #[.int .i64 0, .int .i64 100, .int .i64 50, .slice (some ⟨b4, 0, none⟩) 2 2], .agg #[.int .i64 4, .int .i64 500, .int .i64 6], .agg #[.int .i64 3, .int .i64 399, .int .i64 9], .agg #[.int .i64 3, .int .i64 400, .int .i64 4], undef, undef, .agg #[.int .i64 3650, .int .i64 1825, .int .i64 10, .slice (some ⟨w.heap.size + 1, 0, none⟩) 3 3], .agg #[.int .i64 0, .int .i64 100, .int .i64 50, .slice (some ⟨b4, 0, none⟩) 2 2], .agg #[.int .i64 300, .int .i64 (-1), .int .i64 20, .slice none 0 0], undef, undef, .agg #[.int .i64 0, .int .i64 2], .agg #[.int .i64 0, .int .i64 0, .int .i64 2], .agg #[.int .i64 1, .int .i64 3], .agg #[.int .i64 4000, .int .i64 1, .int .i64 3], .agg #[.int .i64 5, .int .i64 9], .agg #[.int .i64 6000, .int .i64 5, .int .i64 9], .slice (some ⟨z, 0, none⟩) 3 3], defers := [] } X from by
    rintro z X _ _ rfl rfl hF
    have HF := hid hF
    have hHeld := hF.s
    clear hF
    refine (hWP.out _ _ _ _).2 ?_
    refine wpAnyH_ready (rs := [3, 4, 8]) (by kernel_rfl) (by simp) ?_
    refine AllReadyH.cons (o := _) rfl (fun K hK => ?_) (AllReadyH.cons (o := _) rfl (fun K hK => ?_) (AllReadyH.cons (o := _) rfl (fun K hK => ?_) AllReadyH.nil))
    · go_simp
      have HN := hid HF.out.g
      clear hHeld
      refine hK.out _ _ HN.out.s (fun hHeld => ?_)
      clear hK K
      try simp only [Act.put, sq1, sq2, sq3, sq4, sq5, sq6]
      exact (hWP.out _ _ _ _).1 (ST_3_310.out X.heap.size z _ _ _ rfl (by kernel_rfl) HN.out)
    · go_simp
      have HN := hid HF.out.q
      clear hHeld
      refine hK.out _ _ HN.out.s (fun hHeld => ?_)
      clear hK K
      try simp only [Act.put, sq1, sq2, sq3, sq4, sq5, sq6]
      exact (hWP.out _ _ _ _).1 (ST_4_310.out X.heap.size z _ _ _ rfl (by kernel_rfl) HN.out)
    · go_simp
      have HN := hid HF.out.r
      clear hHeld
      refine hK.out _ _ HN.out.s (fun hHeld => ?_)
      clear hK K
      try simp only [Act.put, sq1, sq2, sq3, sq4, sq5, sq6]
      exact (hWP.out _ _ _ _).1 (ST_8_310.out X.heap.size z _ _ _ rfl (by kernel_rfl) HN.out))
  have ST_3_300 := hid (show ∀ (g : Nat) (X : World) (f : Nat) (l : Array Bool), f = 6 → l = #[true, true, true, true, false, true, true, true, false, false, true, true, true, true, true, true, false, false, false] → ExF w b4 true false false false false g 0 0 0 X → WP f l { tmps := #[.pointer (some ⟨w.heap.size, 0, none⟩), .slice none 0 0, .pointer (some ⟨w.heap.size + 1 + 1, 0, none⟩), .pointer (some ⟨b4 + 1, 0, none⟩), .agg #[.int .i64 30, .int .i64 1], .agg #[.int .i64 100, .int .i64 4], .agg #[.int .i64 170, .int .i64 10], .slice (some ⟨w.heap.size + 1, 0, none⟩) 3 3, .agg #[.int .i64 3650, .int .i64 1825, .int .i64 10, .slice (some ⟨w.heap.size + 1, 0, none⟩) 3 3], .agg #[.int .i64 20, .int .i64 30], .agg #[.int .i64 100, .int .i64 100], .agg #[.int .i64 200, .int .i64 20, .int .i64 30, .int .i64 100, .int .i64 100], .agg #[.int .i64 40, .int .i64 60], .agg #[.int .i64 40, .int .i64 50], .agg #[.int .i64 300, .int .i64 40, .int .i64 60, .int .i64 40, .int .i64 50], .slice (some ⟨b4, 0, none⟩) 2 2, .agg #[.int .i64 0, .int .i64 100, .int .i64 50, .slice (some ⟨b4, 0, none⟩) 2 2], .agg #[.int .i64 4, .int .i64 500, .int .i64 6], .agg #[.int .i64 3, .int .i64 399, .int .i64 9], .agg #[.int .i64 3, .int .i64 400, .int .i64 4], .slice (some ⟨g, 0, none⟩) 3 3, undef, .agg #[.int .i64 3650, .int .i64 1825, .int .i64 10, .slice (some ⟨w.heap.size + 1, 0, none⟩) 3 3], .agg #[.int .i64 0, .int .i64 100, .int .i64 50, .slice (some ⟨b4, 0, none⟩) 2 2], .agg #[.int .i64 300, .int .i64 (-1), .int .i64 20, .slice none 0 0], undef, undef, .agg #[.int .i64 0, .int .i64 2], .agg #[.int .i64 0, .int .i64 0, .int .i64 2], .agg #[.int .i64 1, .int .i64 3], .agg #[.int .i64 4000, .int .i64 1, .int .i64 3], .agg #[.int .i64 5, .int .i64 9], .agg #[.int .i64 6000, .int .i64 5, .int .i64 9], undef], defers := [] } X from by
    rintro g X _ _ rfl rfl hF
    have HF := hid hF
    have hHeld := hF.s
    clear hF
    refine (hWP.out _ _ _ _).2 ?_
    refine wpAnyH_ready (rs := [4, 8, 16]) (by kernel_rfl) (by simp) ?_
    refine AllReadyH.cons (o := _) rfl (fun K hK => ?_) (AllReadyH.cons (o := _) rfl (fun K hK => ?_) (AllReadyH.cons (o := _) rfl (fun K hK => ?_) AllReadyH.nil))
    · go_simp
      have HN := hid HF.out.q
      clear hHeld
      refine hK.out _ _ HN.out.s (fun hHeld => ?_)
      clear hK K
      try simp only [Act.put, sq1, sq2, sq3, sq4, sq5, sq6]
      exact (hWP.out _ _ _ _).1 (ST_34_300.out g X.heap.size _ _ _ rfl (by kernel_rfl) HN.out)
    · go_simp
      have HN := hid HF.out.r
      clear hHeld
      refine hK.out _ _ HN.out.s (fun hHeld => ?_)
      clear hK K
      try simp only [Act.put, sq1, sq2, sq3, sq4, sq5, sq6]
      exact (hWP.out _ _ _ _).1 (ST_38_300.out g X.heap.size _ _ _ rfl (by kernel_rfl) HN.out)
    · go_simp
      have HN := hid HF.out.z
      clear hHeld
      refine hK.out _ _ HN.out.s (fun hHeld => ?_)
      clear hK K
      try simp only [Act.put, sq1, sq2, sq3, sq4, sq5, sq6]
      exact (hWP.out _ _ _ _).1 (ST_3_310.out g X.heap.size _ _ _ rfl (by kernel_rfl) HN.out))
  have ST_4_300 := hid (show ∀ (q : Nat) (X : World) (f : Nat) (l : Array Bool), f = 6 → l = #[true, true, true, false, true, true, true, true, false, false, true, true, true, true, true, true, false, false, false] → ExF w b4 false true false false false 0 q 0 0 X → WP f l { tmps := #[.pointer (some ⟨w.heap.size, 0, none⟩), .slice none 0 0, .pointer (some ⟨w.heap.size + 1 + 1, 0, none⟩), .pointer (some ⟨b4 + 1, 0, none⟩), .agg #[.int .i64 30, .int .i64 1], .agg #[.int .i64 100, .int .i64 4], .agg #[.int .i64 170, .int .i64 10], .slice (some ⟨w.heap.size + 1, 0, none⟩) 3 3, .agg #[.int .i64 3650, .int .i64 1825, .int .i64 10, .slice (some ⟨w.heap.size + 1, 0, none⟩) 3 3], .agg #[.int .i64 20, .int .i64 30], .agg #[.int .i64 100, .int .i64 100], .agg #[.int .i64 200, .int .i64 20, .int .i64 30, .int .i64 100, .int .i64 100], .agg #[.int .i64 40, .int .i64 60], .agg #[.int .i64 40, .int .i64 50], .agg #[.int .i64 300, .int .i64 40, .int .i64 60, .int .i64 40, .int .i64 50], .slice (some ⟨b4, 0, none⟩) 2 2, .agg #[.int .i64 0, .int .i64 100, .int .i64 50, .slice (some ⟨b4, 0, none⟩) 2 2], .agg #[.int .i64 4, .int .i64 500, .int .i64 6], .agg #[.int .i64 3, .int .i64 399, .int .i64 9], .agg #[.int .i64 3, .int .i64 400, .int .i64 4], undef, .slice (some ⟨q, 0, none⟩) 3 3, .agg #[.int .i64 3650, .int .i64 1825, .int .i64 10, .slice (some ⟨w.heap.size + 1, 0, none⟩) 3 3], .agg #[.int .i64 0, .int .i64 100, .int .i64 50, .slice (some ⟨b4, 0, none⟩) 2 2], .agg #[.int .i64 300, .int .i64 (-1), .int .i64 20, .slice none 0 0], undef, undef, .agg #[.int .i64 0, .int .i64 2], .agg #[.int .i64 0, .int .i64 0, .int .i64 2], .agg #[.int .i64 1, .int .i64 3], .agg #[.int .i64 4000, .int .i64 1, .int .i64 3], .agg #[.int .i64 5, .int .i64 9], .agg #[.int .i64 6000, .int .i64 5, .int .i64 9], undef], defers := [] } X from by
    rintro q X _ _ rfl rfl hF
    have HF := hid hF
    have hHeld := hF.s
    clear hF
    refine (hWP.out _ _ _ _).2 ?_
    refine wpAnyH_ready (rs := [3, 8, 16]) (by kernel_rfl) (by simp) ?_
    refine AllReadyH.cons (o := _) rfl (fun K hK => ?_) (AllReadyH.cons (o := _) rfl (fun K hK => ?_) (AllReadyH.cons (o := _) rfl (fun K hK => ?_) AllReadyH.nil))
    · go_simp
      have HN := hid HF.out.g
      clear hHeld
      refine hK.out _ _ HN.out.s (fun hHeld => ?_)
      clear hK K
      try simp only [Act.put, sq1, sq2, sq3, sq4, sq5, sq6]
      exact (hWP.out _ _ _ _).1 (ST_34_300.out X.heap.size q _ _ _ rfl (by kernel_rfl) HN.out)
    · go_simp
      have HN := hid HF.out.r
      clear hHeld
      refine hK.out _ _ HN.out.s (fun hHeld => ?_)
      clear hK K
      try simp only [Act.put, sq1, sq2, sq3, sq4, sq5, sq6]
      exact (hWP.out _ _ _ _).1 (ST_48_300.out q X.heap.size _ _ _ rfl (by kernel_rfl) HN.out)
    · go_simp
      have HN := hid HF.out.z
      clear hHeld
      refine hK.out _ _ HN.out.s (fun hHeld => ?_)
      clear hK K
      try simp only [Act.put, sq1, sq2, sq3, sq4, sq5, sq6]
      exact (hWP.out _ _ _ _).1 (ST_4_310.out q X.heap.size _ _ _ rfl (by kernel_rfl) HN.out))
  have ST_8_300 := hid (show ∀ (r : Nat) (X : World) (f : Nat) (l : Array Bool), f = 6 → l = #[true, true, true, false, false, true, true, true, true, false, true, true, true, true, true, true, false, false, false] → ExF w b4 false false true false false 0 0 r 0 X → WP f l { tmps := #[.pointer (some ⟨w.heap.size, 0, none⟩), .slice none 0 0, .pointer (some ⟨w.heap.size + 1 + 1, 0, none⟩), .pointer (some ⟨b4 + 1, 0, none⟩), .agg #[.int .i64 30, .int .i64 1], .agg #[.int .i64 100, .int .i64 4], .agg #[.int .i64 170, .int .i64 10], .slice (some ⟨w.heap.size + 1, 0, none⟩) 3 3, .agg #[.int .i64 3650, .int .i64 1825, .int .i64 10, .slice (some ⟨w.heap.size + 1, 0, none⟩) 3 3], .agg #[.int .i64 20, .int .i64 30], .agg #[.int .i64 100, .int .i64 100], .agg #[.int .i64 200, .int .i64 20, .int .i64 30, .int .i64 100, .int .i64 100], .agg #[.int .i64 40, .int .i64 60], .agg #[.int .i64 40, .int .i64 50], .agg #[.int .i64 300, .int .i64 40, .int .i64 60, .int .i64 40, .int .i64 50], .slice (some ⟨b4, 0, none⟩) 2 2, .agg #[.int .i64 0, .int .i64 100, .int .i64 50, .slice (some ⟨b4, 0, none⟩) 2 2], .agg #[.int .i64 4, .int .i64 500, .int .i64 6], .agg #[.int .i64 3, .int .i64 399, .int .i64 9], .agg #[.int .i64 3, .int .i64 400, .int .i64 4], undef, undef, .agg #[.int .i64 3650, .int .i64 1825, .int .i64 10, .slice (some ⟨w.heap.size + 1, 0, none⟩) 3 3], .agg #[.int .i64 0, .int .i64 100, .int .i64 50, .slice (some ⟨b4, 0, none⟩) 2 2], .agg #[.int .i64 300, .int .i64 (-1), .int .i64 20, .slice none 0 0], .slice (some ⟨r, 0, none⟩) 2 2, undef, .agg #[.int .i64 0, .int .i64 2], .agg #[.int .i64 0, .int .i64 0, .int .i64 2], .agg #[.int .i64 1, .int .i64 3], .agg #[.int .i64 4000, .int .i64 1, .int .i64 3], .agg #[.int .i64 5, .int .i64 9], .agg #[.int .i64 6000, .int .i64 5, .int .i64 9], undef], defers := [] } X from by
    rintro r X _ _ rfl rfl hF
    have HF := hid hF
    have hHeld := hF.s
    clear hF
    refine (hWP.out _ _ _ _).2 ?_
    refine wpAnyH_ready (rs := [3, 4, 16]) (by kernel_rfl) (by simp) ?_
    refine AllReadyH.cons (o := _) rfl (fun K hK => ?_) (AllReadyH.cons (o := _) rfl (fun K hK => ?_) (AllReadyH.cons (o := _) rfl (fun K hK => ?_) AllReadyH.nil))
    · go_simp
      have HN := hid HF.out.g
      clear hHeld
      refine hK.out _ _ HN.out.s (fun hHeld => ?_)
      clear hK K
      try simp only [Act.put, sq1, sq2, sq3, sq4, sq5, sq6]
      exact (hWP.out _ _ _ _).1 (ST_38_300.out X.heap.size r _ _ _ rfl (by kernel_rfl) HN.out)
    · go_simp
      have HN := hid HF.out.q
      clear hHeld
      refine hK.out _ _ HN.out.s (fun hHeld => ?_)
      clear hK K
      try simp only [Act.put, sq1, sq2, sq3, sq4, sq5, sq6]
      exact (hWP.out _ _ _ _).1 (ST_48_300.out X.heap.size r _ _ _ rfl (by kernel_rfl) HN.out)
    · go_simp
      have HN := hid HF.out.z
      clear hHeld
      refine hK.out _ _ HN.out.s (fun hHeld => ?_)
      clear hK K
      try simp only [Act.put, sq1, sq2, sq3, sq4, sq5, sq6]
      exact (hWP.out _ _ _ _).1 (ST_8_310.out r X.heap.size _ _ _ rfl (by kernel_rfl) HN.out))
  have ST_0_300 := hid (show ∀ (X : World) (f : Nat) (l : Array Bool), f = 7 → l = #[true, true, true, false, false, true, true, true, false, false, true, true, true, true, true, true, false, false, false] → ExF w b4 false false false false false 0 0 0 0 X → WP f l { tmps := #[.pointer (some ⟨w.heap.size, 0, none⟩), .slice none 0 0, .pointer (some ⟨w.heap.size + 1 + 1, 0, none⟩), .pointer (some ⟨b4 + 1, 0, none⟩), .agg #[.int .i64 30, .int .i64 1], .agg #[.int .i64 100, .int .i64 4], .agg #[.int .i64 170, .int .i64 10], .slice (some ⟨w.heap.size + 1, 0, none⟩) 3 3, .agg #[.int .i64 3650, .int .i64 1825, .int .i64 10, .slice (some ⟨w.heap.size + 1, 0, none⟩) 3 3], .agg #[.int .i64 20, .int .i64 30], .agg #[.int .i64 100, .int .i64 100], .agg #[.int .i64 200, .int .i64 20, .int .i64 30, .int .i64 100, .int .i64 100], .agg #[.int .i64 40, .int .i64 60], .agg #[.int .i64 40, .int .i64 50], .agg #[.int .i64 300, .int .i64 40, .int .i64 60, .int .i64 40, .int .i64 50], .slice (some ⟨b4, 0, none⟩) 2 2, .agg #[.int .i64 0, .int .i64 100, .int .i64 50, .slice (some ⟨b4, 0, none⟩) 2 2], .agg #[.int .i64 4, .int .i64 500, .int .i64 6], .agg #[.int .i64 3, .int .i64 399, .int .i64 9], .agg #[.int .i64 3, .int .i64 400, .int .i64 4], undef, undef, .agg #[.int .i64 3650, .int .i64 1825, .int .i64 10, .slice (some ⟨w.heap.size + 1, 0, none⟩) 3 3], .agg #[.int .i64 0, .int .i64 100, .int .i64 50, .slice (some ⟨b4, 0, none⟩) 2 2], .agg #[.int .i64 300, .int .i64 (-1), .int .i64 20, .slice none 0 0], undef, undef, .agg #[.int .i64 0, .int .i64 2], .agg #[.int .i64 0, .int .i64 0, .int .i64 2], .agg #[.int .i64 1, .int .i64 3], .agg #[.int .i64 4000, .int .i64 1, .int .i64 3], .agg #[.int .i64 5, .int .i64 9], .agg #[.int .i64 6000, .int .i64 5, .int .i64 9], undef], defers := [] } X from by
    rintro  X _ _ rfl rfl hF
    have HF := hid hF
    have hHeld := hF.s
    clear hF
    refine (hWP.out _ _ _ _).2 ?_
    refine wpAnyH_ready (rs := [3, 4, 8, 16]) (by kernel_rfl) (by simp) ?_
    refine AllReadyH.cons (o := _) rfl (fun K hK => ?_) (AllReadyH.cons (o := _) rfl (fun K hK => ?_) (AllReadyH.cons (o := _) rfl (fun K hK => ?_) (AllReadyH.cons (o := _) rfl (fun K hK => ?_) AllReadyH.nil)))
    · go_simp
      have HN := hid HF.out.g
      clear hHeld
      refine hK.out _ _ HN.out.s (fun hHeld => ?_)
      clear hK K
      try simp only [Act.put, sq1, sq2, sq3, sq4, sq5, sq6]
      exact (hWP.out _ _ _ _).1 (ST_3_300.out X.heap.size _ _ _ rfl (by kernel_rfl) HN.out)
    · go_simp
      have HN := hid HF.out.q
      clear hHeld
      refine hK.out _ _ HN.out.s (fun hHeld => ?_)
      clear hK K
      try simp only [Act.put, sq1, sq2, sq3, sq4, sq5, sq6]
      exact (hWP.out _ _ _ _).1 (ST_4_300.out X.heap.size _ _ _ rfl (by kernel_rfl) HN.out)
    · go_simp
      have HN := hid HF.out.r
      clear hHeld
      refine hK.out _ _ HN.out.s (fun hHeld => ?_)
      clear hK K
      try simp only [Act.put, sq1, sq2, sq3, sq4, sq5, sq6]
      exact (hWP.out _ _ _ _).1 (ST_8_300.out X.heap.size _ _ _ rfl (by kernel_rfl) HN.out)
    · go_simp
      have HN := hid HF.out.z
      clear hHeld
      refine hK.out _ _ HN.out.s (fun hHeld => ?_)
      clear hK K
      try simp only [Act.put, sq1, sq2, sq3, sq4, sq5, sq6]
      exact (hWP.out _ _ _ _).1 (ST_0_310.out X.heap.size _ _ _ rfl (by kernel_rfl) HN.out))
  have ST_34_200 := hid (show ∀ (g q : Nat) (X : World) (f : Nat) (l : Array Bool), f = 7 → l = #[true, true, true, true, true, true, true, true, false, false, true, true, true, true, false, false, false, false, false] → ExF w b4 true true false false false g q 0 0 X → WP f l { tmps := #[.pointer (some ⟨w.heap.size, 0, none⟩), .slice none 0 0, .pointer (some ⟨w.heap.size + 1 + 1, 0, none⟩), .pointer (some ⟨b4 + 1, 0, none⟩), .agg #[.int .i64 30, .int .i64 1], .agg #[.int .i64 100, .int .i64 4], .agg #[.int .i64 170, .int .i64 10], .slice (some ⟨w.heap.size + 1, 0, none⟩) 3 3, .agg #[.int .i64 3650, .int .i64 1825, .int .i64 10, .slice (some ⟨w.heap.size + 1, 0, none⟩) 3 3], .agg #[.int .i64 20, .int .i64 30], .agg #[.int .i64 100, .int .i64 100], .agg #[.int .i64 200, .int .i64 20, .int .i64 30, .int .i64 100, .int .i64 100], .agg #[.int .i64 40, .int .i64 60], .agg #[.int .i64 40, .int .i64 50], .agg #[.int .i64 300, .int .i64 40, .int .i64 60, .int .i64 40, .int .i64 50], .slice (some ⟨b4, 0, none⟩) 2 2, .agg #[.int .i64 0, .int .i64 100, .int .i64 50, .slice (some ⟨b4, 0, none⟩) 2 2], .agg #[.int .i64 4, .int .i64 500, .int .i64 6], .agg #[.int .i64 3, .int .i64 399, .int .i64 9], .agg #[.int .i64 3, .int .i64 400, .int .i64 4], .slice (some ⟨g, 0, none⟩) 3 3, .slice (some ⟨q, 0, none⟩) 3 3, .agg #[.int .i64 3650, .int .i64 1825, .int .i64 10, .slice (some ⟨w.heap.size + 1, 0, none⟩) 3 3], .agg #[.int .i64 0, .int .i64 100, .int .i64 50, .slice (some ⟨b4, 0, none⟩) 2 2], .agg #[.int .i64 300, .int .i64 (-1), .int .i64 20, .slice none 0 0], undef, undef, .agg #[.int .i64 0, .int .i64 2], .agg #[.int .i64 0, .int .i64 0, .int .i64 2], .agg #[.int .i64 1, .int .i64 3], .agg #[.int .i64 4000, .int .i64 1, .int .i64 3], undef, undef, undef], defers := [] } X from by
    rintro g q X _ _ rfl rfl hF
    have HF := hid hF
    have hHeld := hF.s
    clear hF
    refine (hWP.out _ _ _ _).2 ?_
    refine wpAnyH_ready (rs := [8, 14]) (by kernel_rfl) (by simp) ?_
    refine AllReadyH.cons (o := _) rfl (fun K hK => ?_) (AllReadyH.cons (o := _) rfl (fun K hK => ?_) AllReadyH.nil)
    · go_simp
      have HN := hid HF.out.r
      clear hHeld
      refine hK.out _ _ HN.out.s (fun hHeld => ?_)
      clear hK K
      try simp only [Act.put, sq1, sq2, sq3, sq4, sq5, sq6]
      refine tk1 (i := 9) (v := ?v9k8) rfl ?y9k8 ?r9k8
      case y9k8 => (intro w' hSw; (try dsimp only at hSw); go_simp; (try with_reducible rfl))
      try simp only [Act.put, sq1, sq2, sq3, sq4, sq5, sq6]
      exact (hWP.out _ _ _ _).1 (ST_348_200.out g q X.heap.size _ _ _ rfl (by kernel_rfl) HN.out)
    · go_simp
      refine Calls.mono (HSP.out _ _ _) ?_
      rintro e Y ⟨rfl, hE⟩
      dsimp only
      have HN := hid (HF.out.ext hE)
      clear hHeld hE
      refine hK.out _ _ HN.out.s (fun hHeld => ?_)
      clear hK K
      try simp only [Act.put, sq1, sq2, sq3, sq4, sq5, sq6]
      refine tk1 (i := 15) (v := ?v15k9) rfl ?y15k9 ?r15k9
      case y15k9 => (intro w' hSw; (try dsimp only at hSw); go_simp; (try with_reducible rfl))
      try simp only [Act.put, sq1, sq2, sq3, sq4, sq5, sq6]
      exact (hWP.out _ _ _ _).1 (ST_34_300.out g q _ _ _ rfl (by kernel_rfl) HN.out))
  have ST_38_200 := hid (show ∀ (g r : Nat) (X : World) (f : Nat) (l : Array Bool), f = 7 → l = #[true, true, true, true, false, true, true, true, true, false, true, true, true, true, false, false, false, false, false] → ExF w b4 true false true false false g 0 r 0 X → WP f l { tmps := #[.pointer (some ⟨w.heap.size, 0, none⟩), .slice none 0 0, .pointer (some ⟨w.heap.size + 1 + 1, 0, none⟩), .pointer (some ⟨b4 + 1, 0, none⟩), .agg #[.int .i64 30, .int .i64 1], .agg #[.int .i64 100, .int .i64 4], .agg #[.int .i64 170, .int .i64 10], .slice (some ⟨w.heap.size + 1, 0, none⟩) 3 3, .agg #[.int .i64 3650, .int .i64 1825, .int .i64 10, .slice (some ⟨w.heap.size + 1, 0, none⟩) 3 3], .agg #[.int .i64 20, .int .i64 30], .agg #[.int .i64 100, .int .i64 100], .agg #[.int .i64 200, .int .i64 20, .int .i64 30, .int .i64 100, .int .i64 100], .agg #[.int .i64 40, .int .i64 60], .agg #[.int .i64 40, .int .i64 50], .agg #[.int .i64 300, .int .i64 40, .int .i64 60, .int .i64 40, .int .i64 50], .slice (some ⟨b4, 0, none⟩) 2 2, .agg #[.int .i64 0, .int .i64 100, .int .i64 50, .slice (some ⟨b4, 0, none⟩) 2 2], .agg #[.int .i64 4, .int .i64 500, .int .i64 6], .agg #[.int .i64 3, .int .i64 399, .int .i64 9], .agg #[.int .i64 3, .int .i64 400, .int .i64 4], .slice (some ⟨g, 0, none⟩) 3 3, undef, .agg #[.int .i64 3650, .int .i64 1825, .int .i64 10, .slice (some ⟨w.heap.size + 1, 0, none⟩) 3 3], .agg #[.int .i64 0, .int .i64 100, .int .i64 50, .slice (some ⟨b4, 0, none⟩) 2 2], .agg #[.int .i64 300, .int .i64 (-1), .int .i64 20, .slice none 0 0], .slice (some ⟨r, 0, none⟩) 2 2, undef, .agg #[.int .i64 0, .int .i64 2], .agg #[.int .i64 0, .int .i64 0, .int .i64 2], .agg #[.int .i64 1, .int .i64 3], .agg #[.int .i64 4000, .int .i64 1, .int .i64 3], undef, undef, undef], defers := [] } X from by
    rintro g r X _ _ rfl rfl hF
    have HF := hid hF
    have hHeld := hF.s
    clear hF
    refine (hWP.out _ _ _ _).2 ?_
    refine wpAnyH_ready (rs := [4, 14]) (by kernel_rfl) (by simp) ?_
    refine AllReadyH.cons (o := _) rfl (fun K hK => ?_) (AllReadyH.cons (o := _) rfl (fun K hK => ?_) AllReadyH.nil)
    · go_simp
      have HN := hid HF.out.q
      clear hHeld
      refine hK.out _ _ HN.out.s (fun hHeld => ?_)
      clear hK K
      try simp only [Act.put, sq1, sq2, sq3, sq4, sq5, sq6]
      refine tk1 (i := 9) (v := ?v9k10) rfl ?y9k10 ?r9k10
      case y9k10 => (intro w' hSw; (try dsimp only at hSw); go_simp; (try with_reducible rfl))
      try simp only [Act.put, sq1, sq2, sq3, sq4, sq5, sq6]
      exact (hWP.out _ _ _ _).1 (ST_348_200.out g X.heap.size r _ _ _ rfl (by kernel_rfl) HN.out)
    · go_simp
      refine Calls.mono (HSP.out _ _ _) ?_
      rintro e Y ⟨rfl, hE⟩
      dsimp only
      have HN := hid (HF.out.ext hE)
      clear hHeld hE
      refine hK.out _ _ HN.out.s (fun hHeld => ?_)
      clear hK K
      try simp only [Act.put, sq1, sq2, sq3, sq4, sq5, sq6]
      refine tk1 (i := 15) (v := ?v15k11) rfl ?y15k11 ?r15k11
      case y15k11 => (intro w' hSw; (try dsimp only at hSw); go_simp; (try with_reducible rfl))
      try simp only [Act.put, sq1, sq2, sq3, sq4, sq5, sq6]
      exact (hWP.out _ _ _ _).1 (ST_38_300.out g r _ _ _ rfl (by kernel_rfl) HN.out))
  have ST_48_200 := hid (show ∀ (q r : Nat) (X : World) (f : Nat) (l : Array Bool), f = 7 → l = #[true, true, true, false, true, true, true, true, true, false, true, true, true, true, false, false, false, false, false] → ExF w b4 false true true false false 0 q r 0 X → WP f l { tmps := #[.pointer (some ⟨w.heap.size, 0, none⟩), .slice none 0 0, .pointer (some ⟨w.heap.size + 1 + 1, 0, none⟩), .pointer (some ⟨b4 + 1, 0, none⟩), .agg #[.int .i64 30, .int .i64 1], .agg #[.int .i64 100, .int .i64 4], .agg #[.int .i64 170, .int .i64 10], .slice (some ⟨w.heap.size + 1, 0, none⟩) 3 3, .agg #[.int .i64 3650, .int .i64 1825, .int .i64 10, .slice (some ⟨w.heap.size + 1, 0, none⟩) 3 3], .agg #[.int .i64 20, .int .i64 30], .agg #[.int .i64 100, .int .i64 100], .agg #[.int .i64 200, .int .i64 20, .int .i64 30, .int .i64 100, .int .i64 100], .agg #[.int .i64 40, .int .i64 60], .agg #[.int .i64 40, .int .i64 50], .agg #[.int .i64 300, .int .i64 40, .int .i64 60, .int .i64 40, .int .i64 50], .slice (some ⟨b4, 0, none⟩) 2 2, .agg #[.int .i64 0, .int .i64 100, .int .i64 50, .slice (some ⟨b4, 0, none⟩) 2 2], .agg #[.int .i64 4, .int .i64 500, .int .i64 6], .agg #[.int .i64 3, .int .i64 399, .int .i64 9], .agg #[.int .i64 3, .int .i64 400, .int .i64 4], undef, .slice (some ⟨q, 0, none⟩) 3 3, .agg #[.int .i64 3650, .int .i64 1825, .int .i64 10, .slice (some ⟨w.heap.size + 1, 0, none⟩) 3 3], .agg #[.int .i64 0, .int .i64 100, .int .i64 50, .slice (some ⟨b4, 0, none⟩) 2 2], .agg #[.int .i64 300, .int .i64 (-1), .int .i64 20, .slice none 0 0], .slice (some ⟨r, 0, none⟩) 2 2, undef, .agg #[.int .i64 0, .int .i64 2], .agg #[.int .i64 0, .int .i64 0, .int .i64 2], .agg #[.int .i64 1, .int .i64 3], .agg #[.int .i64 4000, .int .i64 1, .int .i64 3], undef, undef, undef], defers := [] } X from by
    rintro q r X _ _ rfl rfl hF
    have HF := hid hF
    have hHeld := hF.s
    clear hF
    refine (hWP.out _ _ _ _).2 ?_
    refine wpAnyH_ready (rs := [3, 14]) (by kernel_rfl) (by simp) ?_
    refine AllReadyH.cons (o := _) rfl (fun K hK => ?_) (AllReadyH.cons (o := _) rfl (fun K hK => ?_) AllReadyH.nil)
    · go_simp
      have HN := hid HF.out.g
      clear hHeld
      refine hK.out _ _ HN.out.s (fun hHeld => ?_)
      clear hK K
      try simp only [Act.put, sq1, sq2, sq3, sq4, sq5, sq6]
      refine tk1 (i := 9) (v := ?v9k12) rfl ?y9k12 ?r9k12
      case y9k12 => (intro w' hSw; (try dsimp only at hSw); go_simp; (try with_reducible rfl))
      try simp only [Act.put, sq1, sq2, sq3, sq4, sq5, sq6]
      exact (hWP.out _ _ _ _).1 (ST_348_200.out X.heap.size q r _ _ _ rfl (by kernel_rfl) HN.out)
    · go_simp
      refine Calls.mono (HSP.out _ _ _) ?_
      rintro e Y ⟨rfl, hE⟩
      dsimp only
      have HN := hid (HF.out.ext hE)
      clear hHeld hE
      refine hK.out _ _ HN.out.s (fun hHeld => ?_)
      clear hK K
      try simp only [Act.put, sq1, sq2, sq3, sq4, sq5, sq6]
      refine tk1 (i := 15) (v := ?v15k13) rfl ?y15k13 ?r15k13
      case y15k13 => (intro w' hSw; (try dsimp only at hSw); go_simp; (try with_reducible rfl))
      try simp only [Act.put, sq1, sq2, sq3, sq4, sq5, sq6]
      exact (hWP.out _ _ _ _).1 (ST_48_300.out q r _ _ _ rfl (by kernel_rfl) HN.out))
  have ST_348_100 := hid (show ∀ (g q r : Nat) (X : World) (f : Nat) (l : Array Bool), f = 7 → l = #[true, true, true, true, true, true, true, true, true, true, true, true, false, false, false, false, false, false, false] → ExF w b4 true true true false false g q r 0 X → WP f l { tmps := #[.pointer (some ⟨w.heap.size, 0, none⟩), .slice none 0 0, .pointer (some ⟨w.heap.size + 1 + 1, 0, none⟩), .pointer (some ⟨b4 + 1, 0, none⟩), .agg #[.int .i64 30, .int .i64 1], .agg #[.int .i64 100, .int .i64 4], .agg #[.int .i64 170, .int .i64 10], .slice (some ⟨w.heap.size + 1, 0, none⟩) 3 3, .agg #[.int .i64 3650, .int .i64 1825, .int .i64 10, .slice (some ⟨w.heap.size + 1, 0, none⟩) 3 3], .agg #[.int .i64 20, .int .i64 30], .agg #[.int .i64 100, .int .i64 100], .agg #[.int .i64 200, .int .i64 20, .int .i64 30, .int .i64 100, .int .i64 100], .agg #[.int .i64 40, .int .i64 60], .agg #[.int .i64 40, .int .i64 50], .agg #[.int .i64 300, .int .i64 40, .int .i64 60, .int .i64 40, .int .i64 50], .slice (some ⟨b4, 0, none⟩) 2 2, .agg #[.int .i64 0, .int .i64 100, .int .i64 50, .slice (some ⟨b4, 0, none⟩) 2 2], .agg #[.int .i64 4, .int .i64 500, .int .i64 6], .agg #[.int .i64 3, .int .i64 399, .int .i64 9], .agg #[.int .i64 3, .int .i64 400, .int .i64 4], .slice (some ⟨g, 0, none⟩) 3 3, .slice (some ⟨q, 0, none⟩) 3 3, .agg #[.int .i64 3650, .int .i64 1825, .int .i64 10, .slice (some ⟨w.heap.size + 1, 0, none⟩) 3 3], .agg #[.int .i64 0, .int .i64 100, .int .i64 50, .slice (some ⟨b4, 0, none⟩) 2 2], .agg #[.int .i64 300, .int .i64 (-1), .int .i64 20, .slice none 0 0], .slice (some ⟨r, 0, none⟩) 2 2, .agg #[.int .i64 400, .int .i64 3, .int .i64 10, .slice (some ⟨g, 0, none⟩) 3 3, .slice (some ⟨q, 0, none⟩) 3 3, .int .i64 3650, .int .i64 1825, .int .i64 10, .slice (some ⟨w.heap.size + 1, 0, none⟩) 3 3, .slice (some ⟨r, 0, none⟩) 2 2], .agg #[.int .i64 0, .int .i64 2], .agg #[.int .i64 0, .int .i64 0, .int .i64 2], undef, undef, undef, undef, undef], defers := [] } X from by
    rintro g q r X _ _ rfl rfl hF
    have HF := hid hF
    have hHeld := hF.s
    clear hF
    refine (hWP.out _ _ _ _).2 ?_
    refine wpAnyH_ready (rs := [12]) (by kernel_rfl) (by simp) ?_
    refine AllReadyH.cons (o := _) rfl (fun K hK => ?_) AllReadyH.nil
    · go_simp
      refine Calls.mono (HSP.out _ _ _) ?_
      rintro e Y ⟨rfl, hE⟩
      dsimp only
      have HN := hid (HF.out.ext hE)
      clear hHeld hE
      refine hK.out _ _ HN.out.s (fun hHeld => ?_)
      clear hK K
      try simp only [Act.put, sq1, sq2, sq3, sq4, sq5, sq6]
      refine tk1 (i := 13) (v := ?v13k14) rfl ?y13k14 ?r13k14
      case y13k14 => (intro w' hSw; (try dsimp only at hSw); go_simp; (try with_reducible rfl))
      try simp only [Act.put, sq1, sq2, sq3, sq4, sq5, sq6]
      exact (hWP.out _ _ _ _).1 (ST_348_200.out g q r _ _ _ rfl (by kernel_rfl) HN.out))
  have ST_3_200 := hid (show ∀ (g : Nat) (X : World) (f : Nat) (l : Array Bool), f = 8 → l = #[true, true, true, true, false, true, true, true, false, false, true, true, true, true, false, false, false, false, false] → ExF w b4 true false false false false g 0 0 0 X → WP f l { tmps := #[.pointer (some ⟨w.heap.size, 0, none⟩), .slice none 0 0, .pointer (some ⟨w.heap.size + 1 + 1, 0, none⟩), .pointer (some ⟨b4 + 1, 0, none⟩), .agg #[.int .i64 30, .int .i64 1], .agg #[.int .i64 100, .int .i64 4], .agg #[.int .i64 170, .int .i64 10], .slice (some ⟨w.heap.size + 1, 0, none⟩) 3 3, .agg #[.int .i64 3650, .int .i64 1825, .int .i64 10, .slice (some ⟨w.heap.size + 1, 0, none⟩) 3 3], .agg #[.int .i64 20, .int .i64 30], .agg #[.int .i64 100, .int .i64 100], .agg #[.int .i64 200, .int .i64 20, .int .i64 30, .int .i64 100, .int .i64 100], .agg #[.int .i64 40, .int .i64 60], .agg #[.int .i64 40, .int .i64 50], .agg #[.int .i64 300, .int .i64 40, .int .i64 60, .int .i64 40, .int .i64 50], .slice (some ⟨b4, 0, none⟩) 2 2, .agg #[.int .i64 0, .int .i64 100, .int .i64 50, .slice (some ⟨b4, 0, none⟩) 2 2], .agg #[.int .i64 4, .int .i64 500, .int .i64 6], .agg #[.int .i64 3, .int .i64 399, .int .i64 9], .agg #[.int .i64 3, .int .i64 400, .int .i64 4], .slice (some ⟨g, 0, none⟩) 3 3, undef, .agg #[.int .i64 3650, .int .i64 1825, .int .i64 10, .slice (some ⟨w.heap.size + 1, 0, none⟩) 3 3], .agg #[.int .i64 0, .int .i64 100, .int .i64 50, .slice (some ⟨b4, 0, none⟩) 2 2], .agg #[.int .i64 300, .int .i64 (-1), .int .i64 20, .slice none 0 0], undef, undef, .agg #[.int .i64 0, .int .i64 2], .agg #[.int .i64 0, .int .i64 0, .int .i64 2], .agg #[.int .i64 1, .int .i64 3], .agg #[.int .i64 4000, .int .i64 1, .int .i64 3], undef, undef, undef], defers := [] } X from by
    rintro g X _ _ rfl rfl hF
    have HF := hid hF
    have hHeld := hF.s
    clear hF
    refine (hWP.out _ _ _ _).2 ?_
    refine wpAnyH_ready (rs := [4, 8, 14]) (by kernel_rfl) (by simp) ?_
    refine AllReadyH.cons (o := _) rfl (fun K hK => ?_) (AllReadyH.cons (o := _) rfl (fun K hK => ?_) (AllReadyH.cons (o := _) rfl (fun K hK => ?_) AllReadyH.nil))
    · go_simp
      have HN := hid HF.out.q
      clear hHeld
      refine hK.out _ _ HN.out.s (fun hHeld => ?_)
      clear hK K
      try simp only [Act.put, sq1, sq2, sq3, sq4, sq5, sq6]
      exact (hWP.out _ _ _ _).1 (ST_34_200.out g X.heap.size _ _ _ rfl (by kernel_rfl) HN.out)
    · go_simp
      have HN := hid HF.out.r
      clear hHeld
      refine hK.out _ _ HN.out.s (fun hHeld => ?_)
      clear hK K
      try simp only [Act.put, sq1, sq2, sq3, sq4, sq5, sq6]
      exact (hWP.out _ _ _ _).1 (ST_38_200.out g X.heap.size _ _ _ rfl (by kernel_rfl) HN.out)
    · go_simp
      refine Calls.mono (HSP.out _ _ _) ?_
      rintro e Y ⟨rfl, hE⟩
      dsimp only
      have HN := hid (HF.out.ext hE)
      clear hHeld hE
      refine hK.out _ _ HN.out.s (fun hHeld => ?_)
      clear hK K
      try simp only [Act.put, sq1, sq2, sq3, sq4, sq5, sq6]
      refine tk1 (i := 15) (v := ?v15k15) rfl ?y15k15 ?r15k15
      case y15k15 => (intro w' hSw; (try dsimp only at hSw); go_simp; (try with_reducible rfl))
      try simp only [Act.put, sq1, sq2, sq3, sq4, sq5, sq6]
      exact (hWP.out _ _ _ _).1 (ST_3_300.out g _ _ _ rfl (by kernel_rfl) HN.out))
  have ST_4_200 := hid (show ∀ (q : Nat) (X : World) (f : Nat) (l : Array Bool), f = 8 → l = #[true, true, true, false, true, true, true, true, false, false, true, true, true, true, false, false, false, false, false] → ExF w b4 false true false false false 0 q 0 0 X → WP f l { tmps := #[.pointer (some ⟨w.heap.size, 0, none⟩), .slice none 0 0, .pointer (some ⟨w.heap.size + 1 + 1, 0, none⟩), .pointer (some ⟨b4 + 1, 0, none⟩), .agg #[.int .i64 30, .int .i64 1], .agg #[.int .i64 100, .int .i64 4], .agg #[.int .i64 170, .int .i64 10], .slice (some ⟨w.heap.size + 1, 0, none⟩) 3 3, .agg #[.int .i64 3650, .int .i64 1825, .int .i64 10, .slice (some ⟨w.heap.size + 1, 0, none⟩) 3 3], .agg #[.int .i64 20, .int .i64 30], .agg #[.int .i64 100, .int .i64 100], .agg #[.int .i64 200, .int .i64 20, .int .i64 30, .int .i64 100, .int .i64 100], .agg #[.int .i64 40, .int .i64 60], .agg #[.int .i64 40, .int .i64 50], .agg #[.int .i64 300, .int .i64 40, .int .i64 60, .int .i64 40, .int .i64 50], .slice (some ⟨b4, 0, none⟩) 2 2, .agg #[.int .i64 0, .int .i64 100, .int .i64 50, .slice (some ⟨b4, 0, none⟩) 2 2], .agg #[.int .i64 4, .int .i64 500, .int .i64 6], .agg #[.int .i64 3, .int .i64 399, .int .i64 9], .agg #[.int .i64 3, .int .i64 400, .int .i64 4], undef, .slice (some ⟨q, 0, none⟩) 3 3, .agg #[.int .i64 3650, .int .i64 1825, .int .i64 10, .slice (some ⟨w.heap.size + 1, 0, none⟩) 3 3], .agg #[.int .i64 0, .int .i64 100, .int .i64 50, .slice (some ⟨b4, 0, none⟩) 2 2], .agg #[.int .i64 300, .int .i64 (-1), .int .i64 20, .slice none 0 0], undef, undef, .agg #[.int .i64 0, .int .i64 2], .agg #[.int .i64 0, .int .i64 0, .int .i64 2], .agg #[.int .i64 1, .int .i64 3], .agg #[.int .i64 4000, .int .i64 1, .int .i64 3], undef, undef, undef], defers := [] } X from by
    rintro q X _ _ rfl rfl hF
    have HF := hid hF
    have hHeld := hF.s
    clear hF
    refine (hWP.out _ _ _ _).2 ?_
    refine wpAnyH_ready (rs := [3, 8, 14]) (by kernel_rfl) (by simp) ?_
    refine AllReadyH.cons (o := _) rfl (fun K hK => ?_) (AllReadyH.cons (o := _) rfl (fun K hK => ?_) (AllReadyH.cons (o := _) rfl (fun K hK => ?_) AllReadyH.nil))
    · go_simp
      have HN := hid HF.out.g
      clear hHeld
      refine hK.out _ _ HN.out.s (fun hHeld => ?_)
      clear hK K
      try simp only [Act.put, sq1, sq2, sq3, sq4, sq5, sq6]
      exact (hWP.out _ _ _ _).1 (ST_34_200.out X.heap.size q _ _ _ rfl (by kernel_rfl) HN.out)
    · go_simp
      have HN := hid HF.out.r
      clear hHeld
      refine hK.out _ _ HN.out.s (fun hHeld => ?_)
      clear hK K
      try simp only [Act.put, sq1, sq2, sq3, sq4, sq5, sq6]
      exact (hWP.out _ _ _ _).1 (ST_48_200.out q X.heap.size _ _ _ rfl (by kernel_rfl) HN.out)
    · go_simp
      refine Calls.mono (HSP.out _ _ _) ?_
      rintro e Y ⟨rfl, hE⟩
      dsimp only
      have HN := hid (HF.out.ext hE)
      clear hHeld hE
      refine hK.out _ _ HN.out.s (fun hHeld => ?_)
      clear hK K
      try simp only [Act.put, sq1, sq2, sq3, sq4, sq5, sq6]
      refine tk1 (i := 15) (v := ?v15k16) rfl ?y15k16 ?r15k16
      case y15k16 => (intro w' hSw; (try dsimp only at hSw); go_simp; (try with_reducible rfl))
      try simp only [Act.put, sq1, sq2, sq3, sq4, sq5, sq6]
      exact (hWP.out _ _ _ _).1 (ST_4_300.out q _ _ _ rfl (by kernel_rfl) HN.out))
  have ST_8_200 := hid (show ∀ (r : Nat) (X : World) (f : Nat) (l : Array Bool), f = 8 → l = #[true, true, true, false, false, true, true, true, true, false, true, true, true, true, false, false, false, false, false] → ExF w b4 false false true false false 0 0 r 0 X → WP f l { tmps := #[.pointer (some ⟨w.heap.size, 0, none⟩), .slice none 0 0, .pointer (some ⟨w.heap.size + 1 + 1, 0, none⟩), .pointer (some ⟨b4 + 1, 0, none⟩), .agg #[.int .i64 30, .int .i64 1], .agg #[.int .i64 100, .int .i64 4], .agg #[.int .i64 170, .int .i64 10], .slice (some ⟨w.heap.size + 1, 0, none⟩) 3 3, .agg #[.int .i64 3650, .int .i64 1825, .int .i64 10, .slice (some ⟨w.heap.size + 1, 0, none⟩) 3 3], .agg #[.int .i64 20, .int .i64 30], .agg #[.int .i64 100, .int .i64 100], .agg #[.int .i64 200, .int .i64 20, .int .i64 30, .int .i64 100, .int .i64 100], .agg #[.int .i64 40, .int .i64 60], .agg #[.int .i64 40, .int .i64 50], .agg #[.int .i64 300, .int .i64 40, .int .i64 60, .int .i64 40, .int .i64 50], .slice (some ⟨b4, 0, none⟩) 2 2, .agg #[.int .i64 0, .int .i64 100, .int .i64 50, .slice (some ⟨b4, 0, none⟩) 2 2], .agg #[.int .i64 4, .int .i64 500, .int .i64 6], .agg #[.int .i64 3, .int .i64 399, .int .i64 9], .agg #[.int .i64 3, .int .i64 400, .int .i64 4], undef, undef, .agg #[.int .i64 3650, .int .i64 1825, .int .i64 10, .slice (some ⟨w.heap.size + 1, 0, none⟩) 3 3], .agg #[.int .i64 0, .int .i64 100, .int .i64 50, .slice (some ⟨b4, 0, none⟩) 2 2], .agg #[.int .i64 300, .int .i64 (-1), .int .i64 20, .slice none 0 0], .slice (some ⟨r, 0, none⟩) 2 2, undef, .agg #[.int .i64 0, .int .i64 2], .agg #[.int .i64 0, .int .i64 0, .int .i64 2], .agg #[.int .i64 1, .int .i64 3], .agg #[.int .i64 4000, .int .i64 1, .int .i64 3], undef, undef, undef], defers := [] } X from by
    rintro r X _ _ rfl rfl hF
    have HF := hid hF
    have hHeld := hF.s
    clear hF
    refine (hWP.out _ _ _ _).2 ?_
    refine wpAnyH_ready (rs := [3, 4, 14]) (by kernel_rfl) (by simp) ?_
    refine AllReadyH.cons (o := _) rfl (fun K hK => ?_) (AllReadyH.cons (o := _) rfl (fun K hK => ?_) (AllReadyH.cons (o := _) rfl (fun K hK => ?_) AllReadyH.nil))
    · go_simp
      have HN := hid HF.out.g
      clear hHeld
      refine hK.out _ _ HN.out.s (fun hHeld => ?_)
      clear hK K
      try simp only [Act.put, sq1, sq2, sq3, sq4, sq5, sq6]
      exact (hWP.out _ _ _ _).1 (ST_38_200.out X.heap.size r _ _ _ rfl (by kernel_rfl) HN.out)
    · go_simp
      have HN := hid HF.out.q
      clear hHeld
      refine hK.out _ _ HN.out.s (fun hHeld => ?_)
      clear hK K
      try simp only [Act.put, sq1, sq2, sq3, sq4, sq5, sq6]
      exact (hWP.out _ _ _ _).1 (ST_48_200.out X.heap.size r _ _ _ rfl (by kernel_rfl) HN.out)
    · go_simp
      refine Calls.mono (HSP.out _ _ _) ?_
      rintro e Y ⟨rfl, hE⟩
      dsimp only
      have HN := hid (HF.out.ext hE)
      clear hHeld hE
      refine hK.out _ _ HN.out.s (fun hHeld => ?_)
      clear hK K
      try simp only [Act.put, sq1, sq2, sq3, sq4, sq5, sq6]
      refine tk1 (i := 15) (v := ?v15k17) rfl ?y15k17 ?r15k17
      case y15k17 => (intro w' hSw; (try dsimp only at hSw); go_simp; (try with_reducible rfl))
      try simp only [Act.put, sq1, sq2, sq3, sq4, sq5, sq6]
      exact (hWP.out _ _ _ _).1 (ST_8_300.out r _ _ _ rfl (by kernel_rfl) HN.out))
  have ST_0_200 := hid (show ∀ (X : World) (f : Nat) (l : Array Bool), f = 9 → l = #[true, true, true, false, false, true, true, true, false, false, true, true, true, true, false, false, false, false, false] → ExF w b4 false false false false false 0 0 0 0 X → WP f l { tmps := #[.pointer (some ⟨w.heap.size, 0, none⟩), .slice none 0 0, .pointer (some ⟨w.heap.size + 1 + 1, 0, none⟩), .pointer (some ⟨b4 + 1, 0, none⟩), .agg #[.int .i64 30, .int .i64 1], .agg #[.int .i64 100, .int .i64 4], .agg #[.int .i64 170, .int .i64 10], .slice (some ⟨w.heap.size + 1, 0, none⟩) 3 3, .agg #[.int .i64 3650, .int .i64 1825, .int .i64 10, .slice (some ⟨w.heap.size + 1, 0, none⟩) 3 3], .agg #[.int .i64 20, .int .i64 30], .agg #[.int .i64 100, .int .i64 100], .agg #[.int .i64 200, .int .i64 20, .int .i64 30, .int .i64 100, .int .i64 100], .agg #[.int .i64 40, .int .i64 60], .agg #[.int .i64 40, .int .i64 50], .agg #[.int .i64 300, .int .i64 40, .int .i64 60, .int .i64 40, .int .i64 50], .slice (some ⟨b4, 0, none⟩) 2 2, .agg #[.int .i64 0, .int .i64 100, .int .i64 50, .slice (some ⟨b4, 0, none⟩) 2 2], .agg #[.int .i64 4, .int .i64 500, .int .i64 6], .agg #[.int .i64 3, .int .i64 399, .int .i64 9], .agg #[.int .i64 3, .int .i64 400, .int .i64 4], undef, undef, .agg #[.int .i64 3650, .int .i64 1825, .int .i64 10, .slice (some ⟨w.heap.size + 1, 0, none⟩) 3 3], .agg #[.int .i64 0, .int .i64 100, .int .i64 50, .slice (some ⟨b4, 0, none⟩) 2 2], .agg #[.int .i64 300, .int .i64 (-1), .int .i64 20, .slice none 0 0], undef, undef, .agg #[.int .i64 0, .int .i64 2], .agg #[.int .i64 0, .int .i64 0, .int .i64 2], .agg #[.int .i64 1, .int .i64 3], .agg #[.int .i64 4000, .int .i64 1, .int .i64 3], undef, undef, undef], defers := [] } X from by
    rintro  X _ _ rfl rfl hF
    have HF := hid hF
    have hHeld := hF.s
    clear hF
    refine (hWP.out _ _ _ _).2 ?_
    refine wpAnyH_ready (rs := [3, 4, 8, 14]) (by kernel_rfl) (by simp) ?_
    refine AllReadyH.cons (o := _) rfl (fun K hK => ?_) (AllReadyH.cons (o := _) rfl (fun K hK => ?_) (AllReadyH.cons (o := _) rfl (fun K hK => ?_) (AllReadyH.cons (o := _) rfl (fun K hK => ?_) AllReadyH.nil)))
    · go_simp
      have HN := hid HF.out.g
      clear hHeld
      refine hK.out _ _ HN.out.s (fun hHeld => ?_)
      clear hK K
      try simp only [Act.put, sq1, sq2, sq3, sq4, sq5, sq6]
      exact (hWP.out _ _ _ _).1 (ST_3_200.out X.heap.size _ _ _ rfl (by kernel_rfl) HN.out)
    · go_simp
      have HN := hid HF.out.q
      clear hHeld
      refine hK.out _ _ HN.out.s (fun hHeld => ?_)
      clear hK K
      try simp only [Act.put, sq1, sq2, sq3, sq4, sq5, sq6]
      exact (hWP.out _ _ _ _).1 (ST_4_200.out X.heap.size _ _ _ rfl (by kernel_rfl) HN.out)
    · go_simp
      have HN := hid HF.out.r
      clear hHeld
      refine hK.out _ _ HN.out.s (fun hHeld => ?_)
      clear hK K
      try simp only [Act.put, sq1, sq2, sq3, sq4, sq5, sq6]
      exact (hWP.out _ _ _ _).1 (ST_8_200.out X.heap.size _ _ _ rfl (by kernel_rfl) HN.out)
    · go_simp
      refine Calls.mono (HSP.out _ _ _) ?_
      rintro e Y ⟨rfl, hE⟩
      dsimp only
      have HN := hid (HF.out.ext hE)
      clear hHeld hE
      refine hK.out _ _ HN.out.s (fun hHeld => ?_)
      clear hK K
      try simp only [Act.put, sq1, sq2, sq3, sq4, sq5, sq6]
      refine tk1 (i := 15) (v := ?v15k18) rfl ?y15k18 ?r15k18
      case y15k18 => (intro w' hSw; (try dsimp only at hSw); go_simp; (try with_reducible rfl))
      try simp only [Act.put, sq1, sq2, sq3, sq4, sq5, sq6]
      exact (hWP.out _ _ _ _).1 (ST_0_300.out  _ _ _ rfl (by kernel_rfl) HN.out))
  have ST_34_100 := hid (show ∀ (g q : Nat) (X : World) (f : Nat) (l : Array Bool), f = 9 → l = #[true, true, true, true, true, true, true, true, false, false, true, true, false, false, false, false, false, false, false] → ExF w b4 true true false false false g q 0 0 X → WP f l { tmps := #[.pointer (some ⟨w.heap.size, 0, none⟩), .slice none 0 0, .pointer (some ⟨w.heap.size + 1 + 1, 0, none⟩), .pointer (some ⟨b4 + 1, 0, none⟩), .agg #[.int .i64 30, .int .i64 1], .agg #[.int .i64 100, .int .i64 4], .agg #[.int .i64 170, .int .i64 10], .slice (some ⟨w.heap.size + 1, 0, none⟩) 3 3, .agg #[.int .i64 3650, .int .i64 1825, .int .i64 10, .slice (some ⟨w.heap.size + 1, 0, none⟩) 3 3], .agg #[.int .i64 20, .int .i64 30], .agg #[.int .i64 100, .int .i64 100], .agg #[.int .i64 200, .int .i64 20, .int .i64 30, .int .i64 100, .int .i64 100], .agg #[.int .i64 40, .int .i64 60], .agg #[.int .i64 40, .int .i64 50], .agg #[.int .i64 300, .int .i64 40, .int .i64 60, .int .i64 40, .int .i64 50], .slice (some ⟨b4, 0, none⟩) 2 2, .agg #[.int .i64 0, .int .i64 100, .int .i64 50, .slice (some ⟨b4, 0, none⟩) 2 2], .agg #[.int .i64 4, .int .i64 500, .int .i64 6], .agg #[.int .i64 3, .int .i64 399, .int .i64 9], .agg #[.int .i64 3, .int .i64 400, .int .i64 4], .slice (some ⟨g, 0, none⟩) 3 3, .slice (some ⟨q, 0, none⟩) 3 3, .agg #[.int .i64 3650, .int .i64 1825, .int .i64 10, .slice (some ⟨w.heap.size + 1, 0, none⟩) 3 3], .agg #[.int .i64 0, .int .i64 100, .int .i64 50, .slice (some ⟨b4, 0, none⟩) 2 2], .agg #[.int .i64 300, .int .i64 (-1), .int .i64 20, .slice none 0 0], undef, undef, .agg #[.int .i64 0, .int .i64 2], .agg #[.int .i64 0, .int .i64 0, .int .i64 2], undef, undef, undef, undef, undef], defers := [] } X from by
    rintro g q X _ _ rfl rfl hF
    have HF := hid hF
    have hHeld := hF.s
    clear hF
    refine (hWP.out _ _ _ _).2 ?_
    refine wpAnyH_ready (rs := [8, 12]) (by kernel_rfl) (by simp) ?_
    refine AllReadyH.cons (o := _) rfl (fun K hK => ?_) (AllReadyH.cons (o := _) rfl (fun K hK => ?_) AllReadyH.nil)
    · go_simp
      have HN := hid HF.out.r
      clear hHeld
      refine hK.out _ _ HN.out.s (fun hHeld => ?_)
      clear hK K
      try simp only [Act.put, sq1, sq2, sq3, sq4, sq5, sq6]
      refine tk1 (i := 9) (v := ?v9k19) rfl ?y9k19 ?r9k19
      case y9k19 => (intro w' hSw; (try dsimp only at hSw); go_simp; (try with_reducible rfl))
      try simp only [Act.put, sq1, sq2, sq3, sq4, sq5, sq6]
      exact (hWP.out _ _ _ _).1 (ST_348_100.out g q X.heap.size _ _ _ rfl (by kernel_rfl) HN.out)
    · go_simp
      refine Calls.mono (HSP.out _ _ _) ?_
      rintro e Y ⟨rfl, hE⟩
      dsimp only
      have HN := hid (HF.out.ext hE)
      clear hHeld hE
      refine hK.out _ _ HN.out.s (fun hHeld => ?_)
      clear hK K
      try simp only [Act.put, sq1, sq2, sq3, sq4, sq5, sq6]
      refine tk1 (i := 13) (v := ?v13k20) rfl ?y13k20 ?r13k20
      case y13k20 => (intro w' hSw; (try dsimp only at hSw); go_simp; (try with_reducible rfl))
      try simp only [Act.put, sq1, sq2, sq3, sq4, sq5, sq6]
      exact (hWP.out _ _ _ _).1 (ST_34_200.out g q _ _ _ rfl (by kernel_rfl) HN.out))
  have ST_38_100 := hid (show ∀ (g r : Nat) (X : World) (f : Nat) (l : Array Bool), f = 9 → l = #[true, true, true, true, false, true, true, true, true, false, true, true, false, false, false, false, false, false, false] → ExF w b4 true false true false false g 0 r 0 X → WP f l { tmps := #[.pointer (some ⟨w.heap.size, 0, none⟩), .slice none 0 0, .pointer (some ⟨w.heap.size + 1 + 1, 0, none⟩), .pointer (some ⟨b4 + 1, 0, none⟩), .agg #[.int .i64 30, .int .i64 1], .agg #[.int .i64 100, .int .i64 4], .agg #[.int .i64 170, .int .i64 10], .slice (some ⟨w.heap.size + 1, 0, none⟩) 3 3, .agg #[.int .i64 3650, .int .i64 1825, .int .i64 10, .slice (some ⟨w.heap.size + 1, 0, none⟩) 3 3], .agg #[.int .i64 20, .int .i64 30], .agg #[.int .i64 100, .int .i64 100], .agg #[.int .i64 200, .int .i64 20, .int .i64 30, .int .i64 100, .int .i64 100], .agg #[.int .i64 40, .int .i64 60], .agg #[.int .i64 40, .int .i64 50], .agg #[.int .i64 300, .int .i64 40, .int .i64 60, .int .i64 40, .int .i64 50], .slice (some ⟨b4, 0, none⟩) 2 2, .agg #[.int .i64 0, .int .i64 100, .int .i64 50, .slice (some ⟨b4, 0, none⟩) 2 2], .agg #[.int .i64 4, .int .i64 500, .int .i64 6], .agg #[.int .i64 3, .int .i64 399, .int .i64 9], .agg #[.int .i64 3, .int .i64 400, .int .i64 4], .slice (some ⟨g, 0, none⟩) 3 3, undef, .agg #[.int .i64 3650, .int .i64 1825, .int .i64 10, .slice (some ⟨w.heap.size + 1, 0, none⟩) 3 3], .agg #[.int .i64 0, .int .i64 100, .int .i64 50, .slice (some ⟨b4, 0, none⟩) 2 2], .agg #[.int .i64 300, .int .i64 (-1), .int .i64 20, .slice none 0 0], .slice (some ⟨r, 0, none⟩) 2 2, undef, .agg #[.int .i64 0, .int .i64 2], .agg #[.int .i64 0, .int .i64 0, .int .i64 2], undef, undef, undef, undef, undef], defers := [] } X from by
    rintro g r X _ _ rfl rfl hF
    have HF := hid hF
    have hHeld := hF.s
    clear hF
    refine (hWP.out _ _ _ _).2 ?_
    refine wpAnyH_ready (rs := [4, 12]) (by kernel_rfl) (by simp) ?_
    refine AllReadyH.cons (o := _) rfl (fun K hK => ?_) (AllReadyH.cons (o := _) rfl (fun K hK => ?_) AllReadyH.nil)
    · go_simp
      have HN := hid HF.out.q
      clear hHeld
      refine hK.out _ _ HN.out.s (fun hHeld => ?_)
      clear hK K
      try simp only [Act.put, sq1, sq2, sq3, sq4, sq5, sq6]
      refine tk1 (i := 9) (v := ?v9k21) rfl ?y9k21 ?r9k21
      case y9k21 => (intro w' hSw; (try dsimp only at hSw); go_simp; (try with_reducible rfl))
      try simp only [Act.put, sq1, sq2, sq3, sq4, sq5, sq6]
      exact (hWP.out _ _ _ _).1 (ST_348_100.out g X.heap.size r _ _ _ rfl (by kernel_rfl) HN.out)
    · go_simp
      refine Calls.mono (HSP.out _ _ _) ?_
      rintro e Y ⟨rfl, hE⟩
      dsimp only
      have HN := hid (HF.out.ext hE)
      clear hHeld hE
      refine hK.out _ _ HN.out.s (fun hHeld => ?_)
      clear hK K
      try simp only [Act.put, sq1, sq2, sq3, sq4, sq5, sq6]
      refine tk1 (i := 13) (v := ?v13k22) rfl ?y13k22 ?r13k22
      case y13k22 => (intro w' hSw; (try dsimp only at hSw); go_simp; (try with_reducible rfl))
      try simp only [Act.put, sq1, sq2, sq3, sq4, sq5, sq6]
      exact (hWP.out _ _ _ _).1 (ST_38_200.out g r _ _ _ rfl (by kernel_rfl) HN.out))
  have ST_48_100 := hid (show ∀ (q r : Nat) (X : World) (f : Nat) (l : Array Bool), f = 9 → l = #[true, true, true, false, true, true, true, true, true, false, true, true, false, false, false, false, false, false, false] → ExF w b4 false true true false false 0 q r 0 X → WP f l { tmps := #[.pointer (some ⟨w.heap.size, 0, none⟩), .slice none 0 0, .pointer (some ⟨w.heap.size + 1 + 1, 0, none⟩), .pointer (some ⟨b4 + 1, 0, none⟩), .agg #[.int .i64 30, .int .i64 1], .agg #[.int .i64 100, .int .i64 4], .agg #[.int .i64 170, .int .i64 10], .slice (some ⟨w.heap.size + 1, 0, none⟩) 3 3, .agg #[.int .i64 3650, .int .i64 1825, .int .i64 10, .slice (some ⟨w.heap.size + 1, 0, none⟩) 3 3], .agg #[.int .i64 20, .int .i64 30], .agg #[.int .i64 100, .int .i64 100], .agg #[.int .i64 200, .int .i64 20, .int .i64 30, .int .i64 100, .int .i64 100], .agg #[.int .i64 40, .int .i64 60], .agg #[.int .i64 40, .int .i64 50], .agg #[.int .i64 300, .int .i64 40, .int .i64 60, .int .i64 40, .int .i64 50], .slice (some ⟨b4, 0, none⟩) 2 2, .agg #[.int .i64 0, .int .i64 100, .int .i64 50, .slice (some ⟨b4, 0, none⟩) 2 2], .agg #[.int .i64 4, .int .i64 500, .int .i64 6], .agg #[.int .i64 3, .int .i64 399, .int .i64 9], .agg #[.int .i64 3, .int .i64 400, .int .i64 4], undef, .slice (some ⟨q, 0, none⟩) 3 3, .agg #[.int .i64 3650, .int .i64 1825, .int .i64 10, .slice (some ⟨w.heap.size + 1, 0, none⟩) 3 3], .agg #[.int .i64 0, .int .i64 100, .int .i64 50, .slice (some ⟨b4, 0, none⟩) 2 2], .agg #[.int .i64 300, .int .i64 (-1), .int .i64 20, .slice none 0 0], .slice (some ⟨r, 0, none⟩) 2 2, undef, .agg #[.int .i64 0, .int .i64 2], .agg #[.int .i64 0, .int .i64 0, .int .i64 2], undef, undef, undef, undef, undef], defers := [] } X from by
    rintro q r X _ _ rfl rfl hF
    have HF := hid hF
    have hHeld := hF.s
    clear hF
    refine (hWP.out _ _ _ _).2 ?_
    refine wpAnyH_ready (rs := [3, 12]) (by kernel_rfl) (by simp) ?_
    refine AllReadyH.cons (o := _) rfl (fun K hK => ?_) (AllReadyH.cons (o := _) rfl (fun K hK => ?_) AllReadyH.nil)
    · go_simp
      have HN := hid HF.out.g
      clear hHeld
      refine hK.out _ _ HN.out.s (fun hHeld => ?_)
      clear hK K
      try simp only [Act.put, sq1, sq2, sq3, sq4, sq5, sq6]
      refine tk1 (i := 9) (v := ?v9k23) rfl ?y9k23 ?r9k23
      case y9k23 => (intro w' hSw; (try dsimp only at hSw); go_simp; (try with_reducible rfl))
      try simp only [Act.put, sq1, sq2, sq3, sq4, sq5, sq6]
      exact (hWP.out _ _ _ _).1 (ST_348_100.out X.heap.size q r _ _ _ rfl (by kernel_rfl) HN.out)
    · go_simp
      refine Calls.mono (HSP.out _ _ _) ?_
      rintro e Y ⟨rfl, hE⟩
      dsimp only
      have HN := hid (HF.out.ext hE)
      clear hHeld hE
      refine hK.out _ _ HN.out.s (fun hHeld => ?_)
      clear hK K
      try simp only [Act.put, sq1, sq2, sq3, sq4, sq5, sq6]
      refine tk1 (i := 13) (v := ?v13k24) rfl ?y13k24 ?r13k24
      case y13k24 => (intro w' hSw; (try dsimp only at hSw); go_simp; (try with_reducible rfl))
      try simp only [Act.put, sq1, sq2, sq3, sq4, sq5, sq6]
      exact (hWP.out _ _ _ _).1 (ST_48_200.out q r _ _ _ rfl (by kernel_rfl) HN.out))
  have ST_348_000 := hid (show ∀ (g q r : Nat) (X : World) (f : Nat) (l : Array Bool), f = 9 → l = #[true, true, true, true, true, true, true, true, true, true, false, false, false, false, false, false, false, false, false] → ExF w b4 true true true false false g q r 0 X → WP f l { tmps := #[.pointer (some ⟨w.heap.size, 0, none⟩), .slice none 0 0, .pointer (some ⟨w.heap.size + 1 + 1, 0, none⟩), .pointer (some ⟨b4 + 1, 0, none⟩), .agg #[.int .i64 30, .int .i64 1], .agg #[.int .i64 100, .int .i64 4], .agg #[.int .i64 170, .int .i64 10], .slice (some ⟨w.heap.size + 1, 0, none⟩) 3 3, .agg #[.int .i64 3650, .int .i64 1825, .int .i64 10, .slice (some ⟨w.heap.size + 1, 0, none⟩) 3 3], .agg #[.int .i64 20, .int .i64 30], .agg #[.int .i64 100, .int .i64 100], .agg #[.int .i64 200, .int .i64 20, .int .i64 30, .int .i64 100, .int .i64 100], .agg #[.int .i64 40, .int .i64 60], .agg #[.int .i64 40, .int .i64 50], .agg #[.int .i64 300, .int .i64 40, .int .i64 60, .int .i64 40, .int .i64 50], .slice (some ⟨b4, 0, none⟩) 2 2, .agg #[.int .i64 0, .int .i64 100, .int .i64 50, .slice (some ⟨b4, 0, none⟩) 2 2], .agg #[.int .i64 4, .int .i64 500, .int .i64 6], .agg #[.int .i64 3, .int .i64 399, .int .i64 9], .agg #[.int .i64 3, .int .i64 400, .int .i64 4], .slice (some ⟨g, 0, none⟩) 3 3, .slice (some ⟨q, 0, none⟩) 3 3, .agg #[.int .i64 3650, .int .i64 1825, .int .i64 10, .slice (some ⟨w.heap.size + 1, 0, none⟩) 3 3], .agg #[.int .i64 0, .int .i64 100, .int .i64 50, .slice (some ⟨b4, 0, none⟩) 2 2], .agg #[.int .i64 300, .int .i64 (-1), .int .i64 20, .slice none 0 0], .slice (some ⟨r, 0, none⟩) 2 2, .agg #[.int .i64 400, .int .i64 3, .int .i64 10, .slice (some ⟨g, 0, none⟩) 3 3, .slice (some ⟨q, 0, none⟩) 3 3, .int .i64 3650, .int .i64 1825, .int .i64 10, .slice (some ⟨w.heap.size + 1, 0, none⟩) 3 3, .slice (some ⟨r, 0, none⟩) 2 2], undef, undef, undef, undef, undef, undef, undef], defers := [] } X from by
    rintro g q r X _ _ rfl rfl hF
    have HF := hid hF
    have hHeld := hF.s
    clear hF
    refine (hWP.out _ _ _ _).2 ?_
    refine wpAnyH_ready (rs := [10]) (by kernel_rfl) (by simp) ?_
    refine AllReadyH.cons (o := _) rfl (fun K hK => ?_) AllReadyH.nil
    · go_simp
      refine Calls.mono (HSP.out _ _ _) ?_
      rintro e Y ⟨rfl, hE⟩
      dsimp only
      have HN := hid (HF.out.ext hE)
      clear hHeld hE
      refine hK.out _ _ HN.out.s (fun hHeld => ?_)
      clear hK K
      try simp only [Act.put, sq1, sq2, sq3, sq4, sq5, sq6]
      refine tk1 (i := 11) (v := ?v11k25) rfl ?y11k25 ?r11k25
      case y11k25 => (intro w' hSw; (try dsimp only at hSw); go_simp; (try with_reducible rfl))
      try simp only [Act.put, sq1, sq2, sq3, sq4, sq5, sq6]
      exact (hWP.out _ _ _ _).1 (ST_348_100.out g q r _ _ _ rfl (by kernel_rfl) HN.out))
  have ST_3_100 := hid (show ∀ (g : Nat) (X : World) (f : Nat) (l : Array Bool), f = 10 → l = #[true, true, true, true, false, true, true, true, false, false, true, true, false, false, false, false, false, false, false] → ExF w b4 true false false false false g 0 0 0 X → WP f l { tmps := #[.pointer (some ⟨w.heap.size, 0, none⟩), .slice none 0 0, .pointer (some ⟨w.heap.size + 1 + 1, 0, none⟩), .pointer (some ⟨b4 + 1, 0, none⟩), .agg #[.int .i64 30, .int .i64 1], .agg #[.int .i64 100, .int .i64 4], .agg #[.int .i64 170, .int .i64 10], .slice (some ⟨w.heap.size + 1, 0, none⟩) 3 3, .agg #[.int .i64 3650, .int .i64 1825, .int .i64 10, .slice (some ⟨w.heap.size + 1, 0, none⟩) 3 3], .agg #[.int .i64 20, .int .i64 30], .agg #[.int .i64 100, .int .i64 100], .agg #[.int .i64 200, .int .i64 20, .int .i64 30, .int .i64 100, .int .i64 100], .agg #[.int .i64 40, .int .i64 60], .agg #[.int .i64 40, .int .i64 50], .agg #[.int .i64 300, .int .i64 40, .int .i64 60, .int .i64 40, .int .i64 50], .slice (some ⟨b4, 0, none⟩) 2 2, .agg #[.int .i64 0, .int .i64 100, .int .i64 50, .slice (some ⟨b4, 0, none⟩) 2 2], .agg #[.int .i64 4, .int .i64 500, .int .i64 6], .agg #[.int .i64 3, .int .i64 399, .int .i64 9], .agg #[.int .i64 3, .int .i64 400, .int .i64 4], .slice (some ⟨g, 0, none⟩) 3 3, undef, .agg #[.int .i64 3650, .int .i64 1825, .int .i64 10, .slice (some ⟨w.heap.size + 1, 0, none⟩) 3 3], .agg #[.int .i64 0, .int .i64 100, .int .i64 50, .slice (some ⟨b4, 0, none⟩) 2 2], .agg #[.int .i64 300, .int .i64 (-1), .int .i64 20, .slice none 0 0], undef, undef, .agg #[.int .i64 0, .int .i64 2], .agg #[.int .i64 0, .int .i64 0, .int .i64 2], undef, undef, undef, undef, undef], defers := [] } X from by
    rintro g X _ _ rfl rfl hF
    have HF := hid hF
    have hHeld := hF.s
    clear hF
    refine (hWP.out _ _ _ _).2 ?_
    refine wpAnyH_ready (rs := [4, 8, 12]) (by kernel_rfl) (by simp) ?_
    refine AllReadyH.cons (o := _) rfl (fun K hK => ?_) (AllReadyH.cons (o := _) rfl (fun K hK => ?_) (AllReadyH.cons (o := _) rfl (fun K hK => ?_) AllReadyH.nil))
    · go_simp
      have HN := hid HF.out.q
      clear hHeld
      refine hK.out _ _ HN.out.s (fun hHeld => ?_)
      clear hK K
      try simp only [Act.put, sq1, sq2, sq3, sq4, sq5, sq6]
      exact (hWP.out _ _ _ _).1 (ST_34_100.out g X.heap.size _ _ _ rfl (by kernel_rfl) HN.out)
    · go_simp
      have HN := hid HF.out.r
      clear hHeld
      refine hK.out _ _ HN.out.s (fun hHeld => ?_)
      clear hK K
      try simp only [Act.put, sq1, sq2, sq3, sq4, sq5, sq6]
      exact (hWP.out _ _ _ _).1 (ST_38_100.out g X.heap.size _ _ _ rfl (by kernel_rfl) HN.out)
    · go_simp
      refine Calls.mono (HSP.out _ _ _) ?_
      rintro e Y ⟨rfl, hE⟩
      dsimp only
      have HN := hid (HF.out.ext hE)
      clear hHeld hE
      refine hK.out _ _ HN.out.s (fun hHeld => ?_)
      clear hK K
      try simp only [Act.put, sq1, sq2, sq3, sq4, sq5, sq6]
      refine tk1 (i := 13) (v := ?v13k26) rfl ?y13k26 ?r13k26
      case y13k26 => (intro w' hSw; (try dsimp only at hSw); go_simp; (try with_reducible rfl))
      try simp only [Act.put, sq1, sq2, sq3, sq4, sq5, sq6]
      exact (hWP.out _ _ _ _).1 (ST_3_200.out g _ _ _ rfl (by kernel_rfl) HN.out))
  have ST_4_100 := hid (show ∀ (q : Nat) (X : World) (f : Nat) (l : Array Bool), f = 10 → l = #[true, true, true, false, true, true, true, true, false, false, true, true, false, false, false, false, false, false, false] → ExF w b4 false true false false false 0 q 0 0 X → WP f l { tmps := #[.pointer (some ⟨w.heap.size, 0, none⟩), .slice none 0 0, .pointer (some ⟨w.heap.size + 1 + 1, 0, none⟩), .pointer (some ⟨b4 + 1, 0, none⟩), .agg #[.int .i64 30, .int .i64 1], .agg #[.int .i64 100, .int .i64 4], .agg #[.int .i64 170, .int .i64 10], .slice (some ⟨w.heap.size + 1, 0, none⟩) 3 3, .agg #[.int .i64 3650, .int .i64 1825, .int .i64 10, .slice (some ⟨w.heap.size + 1, 0, none⟩) 3 3], .agg #[.int .i64 20, .int .i64 30], .agg #[.int .i64 100, .int .i64 100], .agg #[.int .i64 200, .int .i64 20, .int .i64 30, .int .i64 100, .int .i64 100], .agg #[.int .i64 40, .int .i64 60], .agg #[.int .i64 40, .int .i64 50], .agg #[.int .i64 300, .int .i64 40, .int .i64 60, .int .i64 40, .int .i64 50], .slice (some ⟨b4, 0, none⟩) 2 2, .agg #[.int .i64 0, .int .i64 100, .int .i64 50, .slice (some ⟨b4, 0, none⟩) 2 2], .agg #[.int .i64 4, .int .i64 500, .int .i64 6], .agg #[.int .i64 3, .int .i64 399, .int .i64 9], .agg #[.int .i64 3, .int .i64 400, .int .i64 4], undef, .slice (some ⟨q, 0, none⟩) 3 3, .agg #[.int .i64 3650, .int .i64 1825, .int .i64 10, .slice (some ⟨w.heap.size + 1, 0, none⟩) 3 3], .agg #[.int .i64 0, .int .i64 100, .int .i64 50, .slice (some ⟨b4, 0, none⟩) 2 2], .agg #[.int .i64 300, .int .i64 (-1), .int .i64 20, .slice none 0 0], undef, undef, .agg #[.int .i64 0, .int .i64 2], .agg #[.int .i64 0, .int .i64 0, .int .i64 2], undef, undef, undef, undef, undef], defers := [] } X from by
    rintro q X _ _ rfl rfl hF
    have HF := hid hF
    have hHeld := hF.s
    clear hF
    refine (hWP.out _ _ _ _).2 ?_
    refine wpAnyH_ready (rs := [3, 8, 12]) (by kernel_rfl) (by simp) ?_
    refine AllReadyH.cons (o := _) rfl (fun K hK => ?_) (AllReadyH.cons (o := _) rfl (fun K hK => ?_) (AllReadyH.cons (o := _) rfl (fun K hK => ?_) AllReadyH.nil))
    · go_simp
      have HN := hid HF.out.g
      clear hHeld
      refine hK.out _ _ HN.out.s (fun hHeld => ?_)
      clear hK K
      try simp only [Act.put, sq1, sq2, sq3, sq4, sq5, sq6]
      exact (hWP.out _ _ _ _).1 (ST_34_100.out X.heap.size q _ _ _ rfl (by kernel_rfl) HN.out)
    · go_simp
      have HN := hid HF.out.r
      clear hHeld
      refine hK.out _ _ HN.out.s (fun hHeld => ?_)
      clear hK K
      try simp only [Act.put, sq1, sq2, sq3, sq4, sq5, sq6]
      exact (hWP.out _ _ _ _).1 (ST_48_100.out q X.heap.size _ _ _ rfl (by kernel_rfl) HN.out)
    · go_simp
      refine Calls.mono (HSP.out _ _ _) ?_
      rintro e Y ⟨rfl, hE⟩
      dsimp only
      have HN := hid (HF.out.ext hE)
      clear hHeld hE
      refine hK.out _ _ HN.out.s (fun hHeld => ?_)
      clear hK K
      try simp only [Act.put, sq1, sq2, sq3, sq4, sq5, sq6]
      refine tk1 (i := 13) (v := ?v13k27) rfl ?y13k27 ?r13k27
      case y13k27 => (intro w' hSw; (try dsimp only at hSw); go_simp; (try with_reducible rfl))
      try simp only [Act.put, sq1, sq2, sq3, sq4, sq5, sq6]
      exact (hWP.out _ _ _ _).1 (ST_4_200.out q _ _ _ rfl (by kernel_rfl) HN.out))
  have ST_8_100 := hid (show ∀ (r : Nat) (X : World) (f : Nat) (l : Array Bool), f = 10 → l = #[true, true, true, false, false, true, true, true, true, false, true, true, false, false, false, false, false, false, false] → ExF w b4 false false true false false 0 0 r 0 X → WP f l { tmps := #[.pointer (some ⟨w.heap.size, 0, none⟩), .slice none 0 0, .pointer (some ⟨w.heap.size + 1 + 1, 0, none⟩), .pointer (some ⟨b4 + 1, 0, none⟩), .agg #[.int .i64 30, .int .i64 1], .agg #[.int .i64 100, .int .i64 4], .agg #[.int .i64 170, .int .i64 10], .slice (some ⟨w.heap.size + 1, 0, none⟩) 3 3, .agg #[.int .i64 3650, .int .i64 1825, .int .i64 10, .slice (some ⟨w.heap.size + 1, 0, none⟩) 3 3], .agg #[.int .i64 20, .int .i64 30], .agg #[.int .i64 100, .int .i64 100], .agg #[.int .i64 200, .int .i64 20, .int .i64 30, .int .i64 100, .int .i64 100], .agg #[.int .i64 40, .int .i64 60], .agg #[.int .i64 40, .int .i64 50], .agg #[.int .i64 300, .int .i64 40, .int .i64 60, .int .i64 40, .int .i64 50], .slice (some ⟨b4, 0, none⟩) 2 2, .agg #[.int .i64 0, .int .i64 100, .int .i64 50, .slice (some ⟨b4, 0, none⟩) 2 2], .agg #[.int .i64 4, .int .i64 500, .int .i64 6], .agg #[.int .i64 3, .int .i64 399, .int .i64 9], .agg #[.int .i64 3, .int .i64 400, .int .i64 4], undef, undef, .agg #[.int .i64 3650, .int .i64 1825, .int .i64 10, .slice (some ⟨w.heap.size + 1, 0, none⟩) 3 3], .agg #[.int .i64 0, .int .i64 100, .int .i64 50, .slice (some ⟨b4, 0, none⟩) 2 2], .agg #[.int .i64 300, .int .i64 (-1), .int .i64 20, .slice none 0 0], .slice (some ⟨r, 0, none⟩) 2 2, undef, .agg #[.int .i64 0, .int .i64 2], .agg #[.int .i64 0, .int .i64 0, .int .i64 2], undef, undef, undef, undef, undef], defers := [] } X from by
    rintro r X _ _ rfl rfl hF
    have HF := hid hF
    have hHeld := hF.s
    clear hF
    refine (hWP.out _ _ _ _).2 ?_
    refine wpAnyH_ready (rs := [3, 4, 12]) (by kernel_rfl) (by simp) ?_
    refine AllReadyH.cons (o := _) rfl (fun K hK => ?_) (AllReadyH.cons (o := _) rfl (fun K hK => ?_) (AllReadyH.cons (o := _) rfl (fun K hK => ?_) AllReadyH.nil))
    · go_simp
      have HN := hid HF.out.g
      clear hHeld
      refine hK.out _ _ HN.out.s (fun hHeld => ?_)
      clear hK K
      try simp only [Act.put, sq1, sq2, sq3, sq4, sq5, sq6]
      exact (hWP.out _ _ _ _).1 (ST_38_100.out X.heap.size r _ _ _ rfl (by kernel_rfl) HN.out)
    · go_simp
      have HN := hid HF.out.q
      clear hHeld
      refine hK.out _ _ HN.out.s (fun hHeld => ?_)
      clear hK K
      try simp only [Act.put, sq1, sq2, sq3, sq4, sq5, sq6]
      exact (hWP.out _ _ _ _).1 (ST_48_100.out X.heap.size r _ _ _ rfl (by kernel_rfl) HN.out)
    · go_simp
      refine Calls.mono (HSP.out _ _ _) ?_
      rintro e Y ⟨rfl, hE⟩
      dsimp only
      have HN := hid (HF.out.ext hE)
      clear hHeld hE
      refine hK.out _ _ HN.out.s (fun hHeld => ?_)
      clear hK K
      try simp only [Act.put, sq1, sq2, sq3, sq4, sq5, sq6]
      refine tk1 (i := 13) (v := ?v13k28) rfl ?y13k28 ?r13k28
      case y13k28 => (intro w' hSw; (try dsimp only at hSw); go_simp; (try with_reducible rfl))
      try simp only [Act.put, sq1, sq2, sq3, sq4, sq5, sq6]
      exact (hWP.out _ _ _ _).1 (ST_8_200.out r _ _ _ rfl (by kernel_rfl) HN.out))
  have ST_0_100 := hid (show ∀ (X : World) (f : Nat) (l : Array Bool), f = 11 → l = #[true, true, true, false, false, true, true, true, false, false, true, true, false, false, false, false, false, false, false] → ExF w b4 false false false false false 0 0 0 0 X → WP f l { tmps := #[.pointer (some ⟨w.heap.size, 0, none⟩), .slice none 0 0, .pointer (some ⟨w.heap.size + 1 + 1, 0, none⟩), .pointer (some ⟨b4 + 1, 0, none⟩), .agg #[.int .i64 30, .int .i64 1], .agg #[.int .i64 100, .int .i64 4], .agg #[.int .i64 170, .int .i64 10], .slice (some ⟨w.heap.size + 1, 0, none⟩) 3 3, .agg #[.int .i64 3650, .int .i64 1825, .int .i64 10, .slice (some ⟨w.heap.size + 1, 0, none⟩) 3 3], .agg #[.int .i64 20, .int .i64 30], .agg #[.int .i64 100, .int .i64 100], .agg #[.int .i64 200, .int .i64 20, .int .i64 30, .int .i64 100, .int .i64 100], .agg #[.int .i64 40, .int .i64 60], .agg #[.int .i64 40, .int .i64 50], .agg #[.int .i64 300, .int .i64 40, .int .i64 60, .int .i64 40, .int .i64 50], .slice (some ⟨b4, 0, none⟩) 2 2, .agg #[.int .i64 0, .int .i64 100, .int .i64 50, .slice (some ⟨b4, 0, none⟩) 2 2], .agg #[.int .i64 4, .int .i64 500, .int .i64 6], .agg #[.int .i64 3, .int .i64 399, .int .i64 9], .agg #[.int .i64 3, .int .i64 400, .int .i64 4], undef, undef, .agg #[.int .i64 3650, .int .i64 1825, .int .i64 10, .slice (some ⟨w.heap.size + 1, 0, none⟩) 3 3], .agg #[.int .i64 0, .int .i64 100, .int .i64 50, .slice (some ⟨b4, 0, none⟩) 2 2], .agg #[.int .i64 300, .int .i64 (-1), .int .i64 20, .slice none 0 0], undef, undef, .agg #[.int .i64 0, .int .i64 2], .agg #[.int .i64 0, .int .i64 0, .int .i64 2], undef, undef, undef, undef, undef], defers := [] } X from by
    rintro  X _ _ rfl rfl hF
    have HF := hid hF
    have hHeld := hF.s
    clear hF
    refine (hWP.out _ _ _ _).2 ?_
    refine wpAnyH_ready (rs := [3, 4, 8, 12]) (by kernel_rfl) (by simp) ?_
    refine AllReadyH.cons (o := _) rfl (fun K hK => ?_) (AllReadyH.cons (o := _) rfl (fun K hK => ?_) (AllReadyH.cons (o := _) rfl (fun K hK => ?_) (AllReadyH.cons (o := _) rfl (fun K hK => ?_) AllReadyH.nil)))
    · go_simp
      have HN := hid HF.out.g
      clear hHeld
      refine hK.out _ _ HN.out.s (fun hHeld => ?_)
      clear hK K
      try simp only [Act.put, sq1, sq2, sq3, sq4, sq5, sq6]
      exact (hWP.out _ _ _ _).1 (ST_3_100.out X.heap.size _ _ _ rfl (by kernel_rfl) HN.out)
    · go_simp
      have HN := hid HF.out.q
      clear hHeld
      refine hK.out _ _ HN.out.s (fun hHeld => ?_)
      clear hK K
      try simp only [Act.put, sq1, sq2, sq3, sq4, sq5, sq6]
      exact (hWP.out _ _ _ _).1 (ST_4_100.out X.heap.size _ _ _ rfl (by kernel_rfl) HN.out)
    · go_simp
      have HN := hid HF.out.r
      clear hHeld
      refine hK.out _ _ HN.out.s (fun hHeld => ?_)
      clear hK K
      try simp only [Act.put, sq1, sq2, sq3, sq4, sq5, sq6]
      exact (hWP.out _ _ _ _).1 (ST_8_100.out X.heap.size _ _ _ rfl (by kernel_rfl) HN.out)
    · go_simp
      refine Calls.mono (HSP.out _ _ _) ?_
      rintro e Y ⟨rfl, hE⟩
      dsimp only
      have HN := hid (HF.out.ext hE)
      clear hHeld hE
      refine hK.out _ _ HN.out.s (fun hHeld => ?_)
      clear hK K
      try simp only [Act.put, sq1, sq2, sq3, sq4, sq5, sq6]
      refine tk1 (i := 13) (v := ?v13k29) rfl ?y13k29 ?r13k29
      case y13k29 => (intro w' hSw; (try dsimp only at hSw); go_simp; (try with_reducible rfl))
      try simp only [Act.put, sq1, sq2, sq3, sq4, sq5, sq6]
      exact (hWP.out _ _ _ _).1 (ST_0_200.out  _ _ _ rfl (by kernel_rfl) HN.out))
  have ST_34_000 := hid (show ∀ (g q : Nat) (X : World) (f : Nat) (l : Array Bool), f = 11 → l = #[true, true, true, true, true, true, true, true, false, false, false, false, false, false, false, false, false, false, false] → ExF w b4 true true false false false g q 0 0 X → WP f l { tmps := #[.pointer (some ⟨w.heap.size, 0, none⟩), .slice none 0 0, .pointer (some ⟨w.heap.size + 1 + 1, 0, none⟩), .pointer (some ⟨b4 + 1, 0, none⟩), .agg #[.int .i64 30, .int .i64 1], .agg #[.int .i64 100, .int .i64 4], .agg #[.int .i64 170, .int .i64 10], .slice (some ⟨w.heap.size + 1, 0, none⟩) 3 3, .agg #[.int .i64 3650, .int .i64 1825, .int .i64 10, .slice (some ⟨w.heap.size + 1, 0, none⟩) 3 3], .agg #[.int .i64 20, .int .i64 30], .agg #[.int .i64 100, .int .i64 100], .agg #[.int .i64 200, .int .i64 20, .int .i64 30, .int .i64 100, .int .i64 100], .agg #[.int .i64 40, .int .i64 60], .agg #[.int .i64 40, .int .i64 50], .agg #[.int .i64 300, .int .i64 40, .int .i64 60, .int .i64 40, .int .i64 50], .slice (some ⟨b4, 0, none⟩) 2 2, .agg #[.int .i64 0, .int .i64 100, .int .i64 50, .slice (some ⟨b4, 0, none⟩) 2 2], .agg #[.int .i64 4, .int .i64 500, .int .i64 6], .agg #[.int .i64 3, .int .i64 399, .int .i64 9], .agg #[.int .i64 3, .int .i64 400, .int .i64 4], .slice (some ⟨g, 0, none⟩) 3 3, .slice (some ⟨q, 0, none⟩) 3 3, .agg #[.int .i64 3650, .int .i64 1825, .int .i64 10, .slice (some ⟨w.heap.size + 1, 0, none⟩) 3 3], .agg #[.int .i64 0, .int .i64 100, .int .i64 50, .slice (some ⟨b4, 0, none⟩) 2 2], .agg #[.int .i64 300, .int .i64 (-1), .int .i64 20, .slice none 0 0], undef, undef, undef, undef, undef, undef, undef, undef, undef], defers := [] } X from by
    rintro g q X _ _ rfl rfl hF
    have HF := hid hF
    have hHeld := hF.s
    clear hF
    refine (hWP.out _ _ _ _).2 ?_
    refine wpAnyH_ready (rs := [8, 10]) (by kernel_rfl) (by simp) ?_
    refine AllReadyH.cons (o := _) rfl (fun K hK => ?_) (AllReadyH.cons (o := _) rfl (fun K hK => ?_) AllReadyH.nil)
    · go_simp
      have HN := hid HF.out.r
      clear hHeld
      refine hK.out _ _ HN.out.s (fun hHeld => ?_)
      clear hK K
      try simp only [Act.put, sq1, sq2, sq3, sq4, sq5, sq6]
      refine tk1 (i := 9) (v := ?v9k30) rfl ?y9k30 ?r9k30
      case y9k30 => (intro w' hSw; (try dsimp only at hSw); go_simp; (try with_reducible rfl))
      try simp only [Act.put, sq1, sq2, sq3, sq4, sq5, sq6]
      exact (hWP.out _ _ _ _).1 (ST_348_000.out g q X.heap.size _ _ _ rfl (by kernel_rfl) HN.out)
    · go_simp
      refine Calls.mono (HSP.out _ _ _) ?_
      rintro e Y ⟨rfl, hE⟩
      dsimp only
      have HN := hid (HF.out.ext hE)
      clear hHeld hE
      refine hK.out _ _ HN.out.s (fun hHeld => ?_)
      clear hK K
      try simp only [Act.put, sq1, sq2, sq3, sq4, sq5, sq6]
      refine tk1 (i := 11) (v := ?v11k31) rfl ?y11k31 ?r11k31
      case y11k31 => (intro w' hSw; (try dsimp only at hSw); go_simp; (try with_reducible rfl))
      try simp only [Act.put, sq1, sq2, sq3, sq4, sq5, sq6]
      exact (hWP.out _ _ _ _).1 (ST_34_100.out g q _ _ _ rfl (by kernel_rfl) HN.out))
  have ST_38_000 := hid (show ∀ (g r : Nat) (X : World) (f : Nat) (l : Array Bool), f = 11 → l = #[true, true, true, true, false, true, true, true, true, false, false, false, false, false, false, false, false, false, false] → ExF w b4 true false true false false g 0 r 0 X → WP f l { tmps := #[.pointer (some ⟨w.heap.size, 0, none⟩), .slice none 0 0, .pointer (some ⟨w.heap.size + 1 + 1, 0, none⟩), .pointer (some ⟨b4 + 1, 0, none⟩), .agg #[.int .i64 30, .int .i64 1], .agg #[.int .i64 100, .int .i64 4], .agg #[.int .i64 170, .int .i64 10], .slice (some ⟨w.heap.size + 1, 0, none⟩) 3 3, .agg #[.int .i64 3650, .int .i64 1825, .int .i64 10, .slice (some ⟨w.heap.size + 1, 0, none⟩) 3 3], .agg #[.int .i64 20, .int .i64 30], .agg #[.int .i64 100, .int .i64 100], .agg #[.int .i64 200, .int .i64 20, .int .i64 30, .int .i64 100, .int .i64 100], .agg #[.int .i64 40, .int .i64 60], .agg #[.int .i64 40, .int .i64 50], .agg #[.int .i64 300, .int .i64 40, .int .i64 60, .int .i64 40, .int .i64 50], .slice (some ⟨b4, 0, none⟩) 2 2, .agg #[.int .i64 0, .int .i64 100, .int .i64 50, .slice (some ⟨b4, 0, none⟩) 2 2], .agg #[.int .i64 4, .int .i64 500, .int .i64 6], .agg #[.int .i64 3, .int .i64 399, .int .i64 9], .agg #[.int .i64 3, .int .i64 400, .int .i64 4], .slice (some ⟨g, 0, none⟩) 3 3, undef, .agg #[.int .i64 3650, .int .i64 1825, .int .i64 10, .slice (some ⟨w.heap.size + 1, 0, none⟩) 3 3], .agg #[.int .i64 0, .int .i64 100, .int .i64 50, .slice (some ⟨b4, 0, none⟩) 2 2], .agg #[.int .i64 300, .int .i64 (-1), .int .i64 20, .slice none 0 0], .slice (some ⟨r, 0, none⟩) 2 2, undef, undef, undef, undef, undef, undef, undef, undef], defers := [] } X from by
    rintro g r X _ _ rfl rfl hF
    have HF := hid hF
    have hHeld := hF.s
    clear hF
    refine (hWP.out _ _ _ _).2 ?_
    refine wpAnyH_ready (rs := [4, 10]) (by kernel_rfl) (by simp) ?_
    refine AllReadyH.cons (o := _) rfl (fun K hK => ?_) (AllReadyH.cons (o := _) rfl (fun K hK => ?_) AllReadyH.nil)
    · go_simp
      have HN := hid HF.out.q
      clear hHeld
      refine hK.out _ _ HN.out.s (fun hHeld => ?_)
      clear hK K
      try simp only [Act.put, sq1, sq2, sq3, sq4, sq5, sq6]
      refine tk1 (i := 9) (v := ?v9k32) rfl ?y9k32 ?r9k32
      case y9k32 => (intro w' hSw; (try dsimp only at hSw); go_simp; (try with_reducible rfl))
      try simp only [Act.put, sq1, sq2, sq3, sq4, sq5, sq6]
      exact (hWP.out _ _ _ _).1 (ST_348_000.out g X.heap.size r _ _ _ rfl (by kernel_rfl) HN.out)
    · go_simp
      refine Calls.mono (HSP.out _ _ _) ?_
      rintro e Y ⟨rfl, hE⟩
      dsimp only
      have HN := hid (HF.out.ext hE)
      clear hHeld hE
      refine hK.out _ _ HN.out.s (fun hHeld => ?_)
      clear hK K
      try simp only [Act.put, sq1, sq2, sq3, sq4, sq5, sq6]
      refine tk1 (i := 11) (v := ?v11k33) rfl ?y11k33 ?r11k33
      case y11k33 => (intro w' hSw; (try dsimp only at hSw); go_simp; (try with_reducible rfl))
      try simp only [Act.put, sq1, sq2, sq3, sq4, sq5, sq6]
      exact (hWP.out _ _ _ _).1 (ST_38_100.out g r _ _ _ rfl (by kernel_rfl) HN.out))
  have ST_48_000 := hid (show ∀ (q r : Nat) (X : World) (f : Nat) (l : Array Bool), f = 11 → l = #[true, true, true, false, true, true, true, true, true, false, false, false, false, false, false, false, false, false, false] → ExF w b4 false true true false false 0 q r 0 X → WP f l { tmps := #[.pointer (some ⟨w.heap.size, 0, none⟩), .slice none 0 0, .pointer (some ⟨w.heap.size + 1 + 1, 0, none⟩), .pointer (some ⟨b4 + 1, 0, none⟩), .agg #[.int .i64 30, .int .i64 1], .agg #[.int .i64 100, .int .i64 4], .agg #[.int .i64 170, .int .i64 10], .slice (some ⟨w.heap.size + 1, 0, none⟩) 3 3, .agg #[.int .i64 3650, .int .i64 1825, .int .i64 10, .slice (some ⟨w.heap.size + 1, 0, none⟩) 3 3], .agg #[.int .i64 20, .int .i64 30], .agg #[.int .i64 100, .int .i64 100], .agg #[.int .i64 200, .int .i64 20, .int .i64 30, .int .i64 100, .int .i64 100], .agg #[.int .i64 40, .int .i64 60], .agg #[.int .i64 40, .int .i64 50], .agg #[.int .i64 300, .int .i64 40, .int .i64 60, .int .i64 40, .int .i64 50], .slice (some ⟨b4, 0, none⟩) 2 2, .agg #[.int .i64 0, .int .i64 100, .int .i64 50, .slice (some ⟨b4, 0, none⟩) 2 2], .agg #[.int .i64 4, .int .i64 500, .int .i64 6], .agg #[.int .i64 3, .int .i64 399, .int .i64 9], .agg #[.int .i64 3, .int .i64 400, .int .i64 4], undef, .slice (some ⟨q, 0, none⟩) 3 3, .agg #[.int .i64 3650, .int .i64 1825, .int .i64 10, .slice (some ⟨w.heap.size + 1, 0, none⟩) 3 3], .agg #[.int .i64 0, .int .i64 100, .int .i64 50, .slice (some ⟨b4, 0, none⟩) 2 2], .agg #[.int .i64 300, .int .i64 (-1), .int .i64 20, .slice none 0 0], .slice (some ⟨r, 0, none⟩) 2 2, undef, undef, undef, undef, undef, undef, undef, undef], defers := [] } X from by
    rintro q r X _ _ rfl rfl hF
    have HF := hid hF
    have hHeld := hF.s
    clear hF
    refine (hWP.out _ _ _ _).2 ?_
    refine wpAnyH_ready (rs := [3, 10]) (by kernel_rfl) (by simp) ?_
    refine AllReadyH.cons (o := _) rfl (fun K hK => ?_) (AllReadyH.cons (o := _) rfl (fun K hK => ?_) AllReadyH.nil)
    · go_simp
      have HN := hid HF.out.g
      clear hHeld
      refine hK.out _ _ HN.out.s (fun hHeld => ?_)
      clear hK K
      try simp only [Act.put, sq1, sq2, sq3, sq4, sq5, sq6]
      refine tk1 (i := 9) (v := ?v9k34) rfl ?y9k34 ?r9k34
      case y9k34 => (intro w' hSw; (try dsimp only at hSw); go_simp; (try with_reducible rfl))
      try simp only [Act.put, sq1, sq2, sq3, sq4, sq5, sq6]
      exact (hWP.out _ _ _ _).1 (ST_348_000.out X.heap.size q r _ _ _ rfl (by kernel_rfl) HN.out)
    · go_simp
      refine Calls.mono (HSP.out _ _ _) ?_
      rintro e Y ⟨rfl, hE⟩
      dsimp only
      have HN := hid (HF.out.ext hE)
      clear hHeld hE
      refine hK.out _ _ HN.out.s (fun hHeld => ?_)
      clear hK K
      try simp only [Act.put, sq1, sq2, sq3, sq4, sq5, sq6]
      refine tk1 (i := 11) (v := ?v11k35) rfl ?y11k35 ?r11k35
      case y11k35 => (intro w' hSw; (try dsimp only at hSw); go_simp; (try with_reducible rfl))
      try simp only [Act.put, sq1, sq2, sq3, sq4, sq5, sq6]
      exact (hWP.out _ _ _ _).1 (ST_48_100.out q r _ _ _ rfl (by kernel_rfl) HN.out))
  have ST_3_000 := hid (show ∀ (g : Nat) (X : World) (f : Nat) (l : Array Bool), f = 12 → l = #[true, true, true, true, false, true, true, true, false, false, false, false, false, false, false, false, false, false, false] → ExF w b4 true false false false false g 0 0 0 X → WP f l { tmps := #[.pointer (some ⟨w.heap.size, 0, none⟩), .slice none 0 0, .pointer (some ⟨w.heap.size + 1 + 1, 0, none⟩), .pointer (some ⟨b4 + 1, 0, none⟩), .agg #[.int .i64 30, .int .i64 1], .agg #[.int .i64 100, .int .i64 4], .agg #[.int .i64 170, .int .i64 10], .slice (some ⟨w.heap.size + 1, 0, none⟩) 3 3, .agg #[.int .i64 3650, .int .i64 1825, .int .i64 10, .slice (some ⟨w.heap.size + 1, 0, none⟩) 3 3], .agg #[.int .i64 20, .int .i64 30], .agg #[.int .i64 100, .int .i64 100], .agg #[.int .i64 200, .int .i64 20, .int .i64 30, .int .i64 100, .int .i64 100], .agg #[.int .i64 40, .int .i64 60], .agg #[.int .i64 40, .int .i64 50], .agg #[.int .i64 300, .int .i64 40, .int .i64 60, .int .i64 40, .int .i64 50], .slice (some ⟨b4, 0, none⟩) 2 2, .agg #[.int .i64 0, .int .i64 100, .int .i64 50, .slice (some ⟨b4, 0, none⟩) 2 2], .agg #[.int .i64 4, .int .i64 500, .int .i64 6], .agg #[.int .i64 3, .int .i64 399, .int .i64 9], .agg #[.int .i64 3, .int .i64 400, .int .i64 4], .slice (some ⟨g, 0, none⟩) 3 3, undef, .agg #[.int .i64 3650, .int .i64 1825, .int .i64 10, .slice (some ⟨w.heap.size + 1, 0, none⟩) 3 3], .agg #[.int .i64 0, .int .i64 100, .int .i64 50, .slice (some ⟨b4, 0, none⟩) 2 2], .agg #[.int .i64 300, .int .i64 (-1), .int .i64 20, .slice none 0 0], undef, undef, undef, undef, undef, undef, undef, undef, undef], defers := [] } X from by
    rintro g X _ _ rfl rfl hF
    have HF := hid hF
    have hHeld := hF.s
    clear hF
    refine (hWP.out _ _ _ _).2 ?_
    refine wpAnyH_ready (rs := [4, 8, 10]) (by kernel_rfl) (by simp) ?_
    refine AllReadyH.cons (o := _) rfl (fun K hK => ?_) (AllReadyH.cons (o := _) rfl (fun K hK => ?_) (AllReadyH.cons (o := _) rfl (fun K hK => ?_) AllReadyH.nil))
    · go_simp
      have HN := hid HF.out.q
      clear hHeld
      refine hK.out _ _ HN.out.s (fun hHeld => ?_)
      clear hK K
      try simp only [Act.put, sq1, sq2, sq3, sq4, sq5, sq6]
      exact (hWP.out _ _ _ _).1 (ST_34_000.out g X.heap.size _ _ _ rfl (by kernel_rfl) HN.out)
    · go_simp
      have HN := hid HF.out.r
      clear hHeld
      refine hK.out _ _ HN.out.s (fun hHeld => ?_)
      clear hK K
      try simp only [Act.put, sq1, sq2, sq3, sq4, sq5, sq6]
      exact (hWP.out _ _ _ _).1 (ST_38_000.out g X.heap.size _ _ _ rfl (by kernel_rfl) HN.out)
    · go_simp
      refine Calls.mono (HSP.out _ _ _) ?_
      rintro e Y ⟨rfl, hE⟩
      dsimp only
      have HN := hid (HF.out.ext hE)
      clear hHeld hE
      refine hK.out _ _ HN.out.s (fun hHeld => ?_)
      clear hK K
      try simp only [Act.put, sq1, sq2, sq3, sq4, sq5, sq6]
      refine tk1 (i := 11) (v := ?v11k36) rfl ?y11k36 ?r11k36
      case y11k36 => (intro w' hSw; (try dsimp only at hSw); go_simp; (try with_reducible rfl))
      try simp only [Act.put, sq1, sq2, sq3, sq4, sq5, sq6]
      exact (hWP.out _ _ _ _).1 (ST_3_100.out g _ _ _ rfl (by kernel_rfl) HN.out))
  have ST_4_000 := hid (show ∀ (q : Nat) (X : World) (f : Nat) (l : Array Bool), f = 12 → l = #[true, true, true, false, true, true, true, true, false, false, false, false, false, false, false, false, false, false, false] → ExF w b4 false true false false false 0 q 0 0 X → WP f l { tmps := #[.pointer (some ⟨w.heap.size, 0, none⟩), .slice none 0 0, .pointer (some ⟨w.heap.size + 1 + 1, 0, none⟩), .pointer (some ⟨b4 + 1, 0, none⟩), .agg #[.int .i64 30, .int .i64 1], .agg #[.int .i64 100, .int .i64 4], .agg #[.int .i64 170, .int .i64 10], .slice (some ⟨w.heap.size + 1, 0, none⟩) 3 3, .agg #[.int .i64 3650, .int .i64 1825, .int .i64 10, .slice (some ⟨w.heap.size + 1, 0, none⟩) 3 3], .agg #[.int .i64 20, .int .i64 30], .agg #[.int .i64 100, .int .i64 100], .agg #[.int .i64 200, .int .i64 20, .int .i64 30, .int .i64 100, .int .i64 100], .agg #[.int .i64 40, .int .i64 60], .agg #[.int .i64 40, .int .i64 50], .agg #[.int .i64 300, .int .i64 40, .int .i64 60, .int .i64 40, .int .i64 50], .slice (some ⟨b4, 0, none⟩) 2 2, .agg #[.int .i64 0, .int .i64 100, .int .i64 50, .slice (some ⟨b4, 0, none⟩) 2 2], .agg #[.int .i64 4, .int .i64 500, .int .i64 6], .agg #[.int .i64 3, .int .i64 399, .int .i64 9], .agg #[.int .i64 3, .int .i64 400, .int .i64 4], undef, .slice (some ⟨q, 0, none⟩) 3 3, .agg #[.int .i64 3650, .int .i64 1825, .int .i64 10, .slice (some ⟨w.heap.size + 1, 0, none⟩) 3 3], .agg #[.int .i64 0, .int .i64 100, .int .i64 50, .slice (some ⟨b4, 0, none⟩) 2 2], .agg #[.int .i64 300, .int .i64 (-1), .int .i64 20, .slice none 0 0], undef, undef, undef, undef, undef, undef, undef, undef, undef], defers := [] } X from by
    rintro q X _ _ rfl rfl hF
    have HF := hid hF
    have hHeld := hF.s
    clear hF
    refine (hWP.out _ _ _ _).2 ?_
    refine wpAnyH_ready (rs := [3, 8, 10]) (by kernel_rfl) (by simp) ?_
    refine AllReadyH.cons (o := _) rfl (fun K hK => ?_) (AllReadyH.cons (o := _) rfl (fun K hK => ?_) (AllReadyH.cons (o := _) rfl (fun K hK => ?_) AllReadyH.nil))
    · go_simp
      have HN := hid HF.out.g
      clear hHeld
      refine hK.out _ _ HN.out.s (fun hHeld => ?_)
      clear hK K
      try simp only [Act.put, sq1, sq2, sq3, sq4, sq5, sq6]
      exact (hWP.out _ _ _ _).1 (ST_34_000.out X.heap.size q _ _ _ rfl (by kernel_rfl) HN.out)
    · go_simp
      have HN := hid HF.out.r
      clear hHeld
      refine hK.out _ _ HN.out.s (fun hHeld => ?_)
      clear hK K
      try simp only [Act.put, sq1, sq2, sq3, sq4, sq5, sq6]
      exact (hWP.out _ _ _ _).1 (ST_48_000.out q X.heap.size _ _ _ rfl (by kernel_rfl) HN.out)
    · go_simp
      refine Calls.mono (HSP.out _ _ _) ?_
      rintro e Y ⟨rfl, hE⟩
      dsimp only
      have HN := hid (HF.out.ext hE)
      clear hHeld hE
      refine hK.out _ _ HN.out.s (fun hHeld => ?_)
      clear hK K
      try simp only [Act.put, sq1, sq2, sq3, sq4, sq5, sq6]
      refine tk1 (i := 11) (v := ?v11k37) rfl ?y11k37 ?r11k37
      case y11k37 => (intro w' hSw; (try dsimp only at hSw); go_simp; (try with_reducible rfl))
      try simp only [Act.put, sq1, sq2, sq3, sq4, sq5, sq6]
      exact (hWP.out _ _ _ _).1 (ST_4_100.out q _ _ _ rfl (by kernel_rfl) HN.out))
  have ST_8_000 := hid (show ∀ (r : Nat) (X : World) (f : Nat) (l : Array Bool), f = 12 → l = #[true, true, true, false, false, true, true, true, true, false, false, false, false, false, false, false, false, false, false] → ExF w b4 false false true false false 0 0 r 0 X → WP f l { tmps := #[.pointer (some ⟨w.heap.size, 0, none⟩), .slice none 0 0, .pointer (some ⟨w.heap.size + 1 + 1, 0, none⟩), .pointer (some ⟨b4 + 1, 0, none⟩), .agg #[.int .i64 30, .int .i64 1], .agg #[.int .i64 100, .int .i64 4], .agg #[.int .i64 170, .int .i64 10], .slice (some ⟨w.heap.size + 1, 0, none⟩) 3 3, .agg #[.int .i64 3650, .int .i64 1825, .int .i64 10, .slice (some ⟨w.heap.size + 1, 0, none⟩) 3 3], .agg #[.int .i64 20, .int .i64 30], .agg #[.int .i64 100, .int .i64 100], .agg #[.int .i64 200, .int .i64 20, .int .i64 30, .int .i64 100, .int .i64 100], .agg #[.int .i64 40, .int .i64 60], .agg #[.int .i64 40, .int .i64 50], .agg #[.int .i64 300, .int .i64 40, .int .i64 60, .int .i64 40, .int .i64 50], .slice (some ⟨b4, 0, none⟩) 2 2, .agg #[.int .i64 0, .int .i64 100, .int .i64 50, .slice (some ⟨b4, 0, none⟩) 2 2], .agg #[.int .i64 4, .int .i64 500, .int .i64 6], .agg #[.int .i64 3, .int .i64 399, .int .i64 9], .agg #[.int .i64 3, .int .i64 400, .int .i64 4], undef, undef, .agg #[.int .i64 3650, .int .i64 1825, .int .i64 10, .slice (some ⟨w.heap.size + 1, 0, none⟩) 3 3], .agg #[.int .i64 0, .int .i64 100, .int .i64 50, .slice (some ⟨b4, 0, none⟩) 2 2], .agg #[.int .i64 300, .int .i64 (-1), .int .i64 20, .slice none 0 0], .slice (some ⟨r, 0, none⟩) 2 2, undef, undef, undef, undef, undef, undef, undef, undef], defers := [] } X from by
    rintro r X _ _ rfl rfl hF
    have HF := hid hF
    have hHeld := hF.s
    clear hF
    refine (hWP.out _ _ _ _).2 ?_
    refine wpAnyH_ready (rs := [3, 4, 10]) (by kernel_rfl) (by simp) ?_
    refine AllReadyH.cons (o := _) rfl (fun K hK => ?_) (AllReadyH.cons (o := _) rfl (fun K hK => ?_) (AllReadyH.cons (o := _) rfl (fun K hK => ?_) AllReadyH.nil))
    · go_simp
      have HN := hid HF.out.g
      clear hHeld
      refine hK.out _ _ HN.out.s (fun hHeld => ?_)
      clear hK K
      try simp only [Act.put, sq1, sq2, sq3, sq4, sq5, sq6]
      exact (hWP.out _ _ _ _).1 (ST_38_000.out X.heap.size r _ _ _ rfl (by kernel_rfl) HN.out)
    · go_simp
      have HN := hid HF.out.q
      clear hHeld
      refine hK.out _ _ HN.out.s (fun hHeld => ?_)
      clear hK K
      try simp only [Act.put, sq1, sq2, sq3, sq4, sq5, sq6]
      exact (hWP.out _ _ _ _).1 (ST_48_000.out X.heap.size r _ _ _ rfl (by kernel_rfl) HN.out)
    · go_simp
      refine Calls.mono (HSP.out _ _ _) ?_
      rintro e Y ⟨rfl, hE⟩
      dsimp only
      have HN := hid (HF.out.ext hE)
      clear hHeld hE
      refine hK.out _ _ HN.out.s (fun hHeld => ?_)
      clear hK K
      try simp only [Act.put, sq1, sq2, sq3, sq4, sq5, sq6]
      refine tk1 (i := 11) (v := ?v11k38) rfl ?y11k38 ?r11k38
      case y11k38 => (intro w' hSw; (try dsimp only at hSw); go_simp; (try with_reducible rfl))
      try simp only [Act.put, sq1, sq2, sq3, sq4, sq5, sq6]
      exact (hWP.out _ _ _ _).1 (ST_8_100.out r _ _ _ rfl (by kernel_rfl) HN.out))
  have ST_0_000 := hid (show ∀ (X : World) (f : Nat) (l : Array Bool), f = 13 → l = #[true, true, true, false, false, true, true, true, false, false, false, false, false, false, false, false, false, false, false] → ExF w b4 false false false false false 0 0 0 0 X → WP f l { tmps := #[.pointer (some ⟨w.heap.size, 0, none⟩), .slice none 0 0, .pointer (some ⟨w.heap.size + 1 + 1, 0, none⟩), .pointer (some ⟨b4 + 1, 0, none⟩), .agg #[.int .i64 30, .int .i64 1], .agg #[.int .i64 100, .int .i64 4], .agg #[.int .i64 170, .int .i64 10], .slice (some ⟨w.heap.size + 1, 0, none⟩) 3 3, .agg #[.int .i64 3650, .int .i64 1825, .int .i64 10, .slice (some ⟨w.heap.size + 1, 0, none⟩) 3 3], .agg #[.int .i64 20, .int .i64 30], .agg #[.int .i64 100, .int .i64 100], .agg #[.int .i64 200, .int .i64 20, .int .i64 30, .int .i64 100, .int .i64 100], .agg #[.int .i64 40, .int .i64 60], .agg #[.int .i64 40, .int .i64 50], .agg #[.int .i64 300, .int .i64 40, .int .i64 60, .int .i64 40, .int .i64 50], .slice (some ⟨b4, 0, none⟩) 2 2, .agg #[.int .i64 0, .int .i64 100, .int .i64 50, .slice (some ⟨b4, 0, none⟩) 2 2], .agg #[.int .i64 4, .int .i64 500, .int .i64 6], .agg #[.int .i64 3, .int .i64 399, .int .i64 9], .agg #[.int .i64 3, .int .i64 400, .int .i64 4], undef, undef, .agg #[.int .i64 3650, .int .i64 1825, .int .i64 10, .slice (some ⟨w.heap.size + 1, 0, none⟩) 3 3], .agg #[.int .i64 0, .int .i64 100, .int .i64 50, .slice (some ⟨b4, 0, none⟩) 2 2], .agg #[.int .i64 300, .int .i64 (-1), .int .i64 20, .slice none 0 0], undef, undef, undef, undef, undef, undef, undef, undef, undef], defers := [] } X from by
    rintro  X _ _ rfl rfl hF
    have HF := hid hF
    have hHeld := hF.s
    clear hF
    refine (hWP.out _ _ _ _).2 ?_
    refine wpAnyH_ready (rs := [3, 4, 8, 10]) (by kernel_rfl) (by simp) ?_
    refine AllReadyH.cons (o := _) rfl (fun K hK => ?_) (AllReadyH.cons (o := _) rfl (fun K hK => ?_) (AllReadyH.cons (o := _) rfl (fun K hK => ?_) (AllReadyH.cons (o := _) rfl (fun K hK => ?_) AllReadyH.nil)))
    · go_simp
      have HN := hid HF.out.g
      clear hHeld
      refine hK.out _ _ HN.out.s (fun hHeld => ?_)
      clear hK K
      try simp only [Act.put, sq1, sq2, sq3, sq4, sq5, sq6]
      exact (hWP.out _ _ _ _).1 (ST_3_000.out X.heap.size _ _ _ rfl (by kernel_rfl) HN.out)
    · go_simp
      have HN := hid HF.out.q
      clear hHeld
      refine hK.out _ _ HN.out.s (fun hHeld => ?_)
      clear hK K
      try simp only [Act.put, sq1, sq2, sq3, sq4, sq5, sq6]
      exact (hWP.out _ _ _ _).1 (ST_4_000.out X.heap.size _ _ _ rfl (by kernel_rfl) HN.out)
    · go_simp
      have HN := hid HF.out.r
      clear hHeld
      refine hK.out _ _ HN.out.s (fun hHeld => ?_)
      clear hK K
      try simp only [Act.put, sq1, sq2, sq3, sq4, sq5, sq6]
      exact (hWP.out _ _ _ _).1 (ST_8_000.out X.heap.size _ _ _ rfl (by kernel_rfl) HN.out)
    · go_simp
      refine Calls.mono (HSP.out _ _ _) ?_
      rintro e Y ⟨rfl, hE⟩
      dsimp only
      have HN := hid (HF.out.ext hE)
      clear hHeld hE
      refine hK.out _ _ HN.out.s (fun hHeld => ?_)
      clear hK K
      try simp only [Act.put, sq1, sq2, sq3, sq4, sq5, sq6]
      refine tk1 (i := 11) (v := ?v11k39) rfl ?y11k39 ?r11k39
      case y11k39 => (intro w' hSw; (try dsimp only at hSw); go_simp; (try with_reducible rfl))
      try simp only [Act.put, sq1, sq2, sq3, sq4, sq5, sq6]
      exact (hWP.out _ _ _ _).1 (ST_0_100.out  _ _ _ rfl (by kernel_rfl) HN.out))
  exact ST_0_000.out X0.drew _ _ (by kernel_rfl) (by kernel_rfl) HF.out
end Go.Proofs.YtggggnjibedgaaaGreat
