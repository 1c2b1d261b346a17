/- Check, Walk and Arrive. -/
import Derived.Test.YtbfmcclbbeobkaaFar2
import Derived.Test.YtbfmcclbbeobkaaCopy
import Derived.Test.YtbfmcclbbeobkaaPWalk2
import Derived.Test.YtbfmcclbbeobkaaRArrive
import Derived.Test.YtbfmcclbbeobkaaWorks2
import Derived.Deep.RegionHeld3
set_option linter.unusedSimpArgs false
set_option linter.unusedVariables false
namespace Go.Proofs.Ytbfmcclbbeobkaa
open Go.RowKit
set_option maxRecDepth 100000 in
set_option maxHeartbeats 4000000 in
theorem pathsArrive_any (m g l pl ph from_ to_ start D x : Int) (RA : Option Addr) (rn rc : Nat) (A : Option Addr) (n c : Nat) (ps : List Pt) (hn : ps.length = n) (w : World) (hp : PathsAt w A ps) :
    Calls Try.prog 3 #[.agg #[.int .i64 m, .slice A n c], .agg #[.int .i64 g, .int .i64 l, .int .i64 pl, .int .i64 ph], .agg #[.int .i64 from_, .int .i64 to_, .int .i64 start, .int .i64 D, .slice RA rn rc, .int .i64 x]] w fun e w' => e = .returned (.bool true) ∧ Ext w w' := by
  have HF := hid (fun (W : World) (hE : Ext w W) => far2_any m A n c ps hn W (hp.ext hE))
  have HCP := hid (fun (h : NearOk m ps) (W : World) (hE : Ext w W) => copy_any m A n c ps hn (by have := h.1; omega) (fun k hk => by have := h.2 k (by omega); omega) W (hp.ext hE))
  have HP := hid hp
  have HN := hid hn
  have t0 := three_blocks w (.cells #[.int .i64 m, .slice A n c] 24) (.cells #[.int .i64 g, .int .i64 l, .int .i64 pl, .int .i64 ph] 28) (.cells #[.int .i64 from_, .int .i64 to_, .int .i64 start, .int .i64 D, .slice RA rn rc, .int .i64 x] 31)
  have B0 := hid t0.1
  have B1 := hid t0.2.1
  have B2 := hid t0.2.2
  clear hp hn t0
  go_enter Try.func3, Try.ntmps3
  go_wp2_with fail
  refine (HF.out _ (by (repeat' (first | with_reducible assumption | with_reducible exact Ext.refl _ | with_reducible refine Ext.alloc ?_ _ | with_reducible refine Ext.set ?_ ?_ _ | with_reducible refine Ext.drew ?_ | with_reducible refine Ext.drewN ?_ _ | with_reducible refine Ext.trans ?_ (by assumption) | (dsimp only; omega))))).mono ?_
  rintro e w1 ⟨⟨B, rfl, hB⟩, hE⟩
  (first | (have hK := KC.step (n := w.heap.size + 3) (by with_reducible assumption) hE) | (have hK := KC.step (KC.step (n := w.heap.size + 3) (by with_reducible assumption) (ext_alloc1 _ _)) hE) | (have hK := KC.step (KC.refl (n := w.heap.size + 3) (by simp)) hE)); have hC := hK.cell; have hF := hK.fro; have hX := hK.ext
  have E7 : Ext w w1 := by (repeat' (first | with_reducible assumption | with_reducible exact Ext.refl _ | with_reducible refine Ext.alloc ?_ _ | with_reducible refine Ext.set ?_ ?_ _ | with_reducible refine Ext.drew ?_ | with_reducible refine Ext.drewN ?_ _ | with_reducible refine Ext.trans ?_ (by assumption) | (dsimp only; omega)))
  have HB := hid hB
  have C0 := hid (blk_ext B0.out hE)
  have C1 := hid (blk_ext B1.out hE)
  have C2 := hid (blk_ext B2.out hE)
  clear hB hE HF B0 B1 B2
  cases B
  case true => go_wp2_with fail
               refine (works_any _).mono ?_
               rintro e w9 ⟨rfl, hE9⟩
               have EZ : Ext w w9 := by (repeat' (first | with_reducible assumption | with_reducible exact Ext.refl _ | with_reducible refine Ext.alloc ?_ _ | with_reducible refine Ext.set ?_ ?_ _ | with_reducible refine Ext.drew ?_ | with_reducible refine Ext.drewN ?_ _ | with_reducible refine Ext.trans ?_ (by assumption) | (dsimp only; omega)))
               go_wp2
               go_ret
               exact ⟨rfl, EZ⟩
  have HCP2 := hid (HCP.out (HB.out rfl))
  clear HCP HB
  go_wp2_with fail
  refine (HCP2.out _ E7).mono ?_
  rintro e w2 ⟨v, rfl, hcr, hE⟩
  have E2 := E7.trans hE
  obtain ⟨A2, c2, rfl, hp2⟩ := hcr.paths HN.out
  have D0 := hid (blk_ext C0.out (hE.trans (ext_alloc1 w2 (.cells #[.int .i64 m, .slice A2 n c2] 24))))
  have D1 := hid (blk_ext C1.out (hE.trans (ext_alloc1 w2 (.cells #[.int .i64 m, .slice A2 n c2] 24))))
  have D2 := hid (blk_ext C2.out (hE.trans (ext_alloc1 w2 (.cells #[.int .i64 m, .slice A2 n c2] 24))))
  have D3 := hid (heap_alloc_new w2 (.cells #[.int .i64 m, .slice A2 n c2] 24))
  have HP2 := hid (hp2.ext (ext_alloc1 w2 (.cells #[.int .i64 m, .slice A2 n c2] 24)))
  have E3 := E2.alloc (.cells #[.int .i64 m, .slice A2 n c2] 24)
  clear hE hcr hp2 C0 C1 C2 HCP2 E7 hK hC hF hX
  go_wp2_with fail
  obtain ⟨w3, hw3⟩ : ∃ w3, w2.alloc (.cells #[.int .i64 m, .slice A2 n c2] 24) = w3 := ⟨_, rfl⟩
  rw [hw3] at D0 D1 D2 D3 HP2 E3 ⊢
  obtain ⟨z, hz⟩ : ∃ z, w2.heap.size = z := ⟨_, rfl⟩
  rw [hz] at D3 ⊢
  clear hw3 hz E2
  have HPC := hid (fun (W : World) (hE : Ext w3 W) => pcheck_any m A2 n c2 ps HN.out W (HP2.out.ext hE))
  have HRC := hid (fun (W : World) (hE : Ext w3 W) => rCheck_any m A n c ps HN.out W (HP.out.ext (E3.trans hE)))
  have HPW := hid (fun (W : World) (hE : Ext w3 W) => pwalk_any m g l pl ph x A2 n c2 ps HN.out W (HP2.out.ext hE))
  have HRW := hid (fun (W : World) (hE : Ext w3 W) => rwalk_any m g l pl ph x A n c ps HN.out W (HP.out.ext (E3.trans hE)))
  have HPA0 := hid (fun (hb : beginE m g l pl ph ps [from_] [start] = 0) (W : World) (hE : Ext w3 W) => arrive_ok m g l pl ph from_ start A2 n c2 ps HN.out W (HP2.out.ext hE) hb)
  have HRA0 := hid (fun (hb : beginE m g l pl ph ps [from_] [start] = 0) (W : World) (hE : Ext w3 W) => rarrive_ok m g l pl ph from_ start A n c ps HN.out W (HP.out.ext (E3.trans hE)) hb)
  have HPA1 := hid (fun (E : Int) (hb : beginE m g l pl ph ps [from_] [start] = E) (hne : E ≠ 0) (W : World) (hE : Ext w3 W) => arrive_bad m g l pl ph from_ start A2 n c2 ps HN.out W (HP2.out.ext hE) E hb hne)
  have HRA1 := hid (fun (E : Int) (hb : beginE m g l pl ph ps [from_] [start] = E) (hne : E ≠ 0) (W : World) (hE : Ext w3 W) => rarrive_bad m g l pl ph from_ start A n c ps HN.out W (HP.out.ext (E3.trans hE)) E hb hne)
  obtain ⟨ce, hce⟩ : ∃ ce, checkE m ps = ce := ⟨_, rfl⟩
  rw [hce] at HPC HRC
  obtain ⟨R, hR⟩ : ∃ R, walkE m g l pl ph ps x = R := ⟨_, rfl⟩
  rw [hR] at HPW HRW
  clear hce hR
  obtain ⟨R1, R2, R3⟩ := R
  simp only [walkV] at HPW HRW
  have a0 := blk_cell D0.out 0
  have a1 := blk_cell D0.out 1
  have b0 := blk_cell D1.out 0
  have b1 := blk_cell D1.out 1
  have b2 := blk_cell D1.out 2
  have b3 := blk_cell D1.out 3
  have x0 := blk_cell D2.out 0
  have x1 := blk_cell D2.out 1
  have x2 := blk_cell D2.out 2
  have x3 := blk_cell D2.out 3
  have x4 := blk_cell D2.out 4
  simp only [List.getElem?_toArray, List.getElem?_cons_zero, List.getElem?_cons_succ] at a0 a1 b0 b1 b2 b3 x0 x1 x2 x3 x4
  have z0 := (Array.getElem?_eq_some_iff.1 D0.out).1
  have z1 := (Array.getElem?_eq_some_iff.1 D1.out).1
  have z2 := (Array.getElem?_eq_some_iff.1 D2.out).1
  have x5 := blk_cell D2.out 5
  simp only [List.getElem?_toArray, List.getElem?_cons_zero, List.getElem?_cons_succ] at x5
  have y0 := blk_cell D3.out 0
  have y1 := blk_cell D3.out 1
  simp only [List.getElem?_toArray, List.getElem?_cons_zero, List.getElem?_cons_succ] at y0 y1
  have zy := (Array.getElem?_eq_some_iff.1 D3.out).1
  have hxx := Ext.refl w3
  have hzz := Nat.le_refl w3.heap.size
  go_region_held3 (fun w' => (∀ b o, b < w3.heap.size → w'.cell? ⟨b, o, none⟩ = w3.cell? ⟨b, o, none⟩) ∧ w3.heap.size ≤ w'.heap.size ∧ Ext w3 w')
    (((try dsimp only); go_split_ands; (repeat' apply And.intro) <;> first | assumption | exact kcell (by assumption) (by omega) (by assumption) | exact kcell_refl _ _ | exact kcell_set (kcell_set (by assumption) (by dsimp only; omega) _) (by dsimp only; omega) _ | exact kcell_set (by assumption) (by dsimp only; omega) _ | exact held_ext (by assumption) (by dsimp only; omega) (by assumption) | exact hfrozen_ext (by assumption) (by dsimp only; omega) (by assumption) | exact Ext.sizeLe (by assumption) (by assumption) | exact Ext.trans (by assumption) (by assumption) | exact Ext.drew (by assumption) | exact held_set _ _ _ _ (held_set _ _ _ _ (by assumption)) | exact held_set _ _ _ _ (by assumption) | exact hfrozen_set _ _ (hfrozen_set _ _ (by assumption)) | exact hfrozen_set _ _ (by assumption) | exact hsize_set _ _ (hsize_set _ _ (by assumption)) | exact hsize_set _ _ (by assumption) | exact Ext.set (Ext.set (by assumption) (by dsimp only; omega) _) (by dsimp only; omega) _ | exact Ext.set (by assumption) (by dsimp only; omega) _))
    (first
      | (go_at_call 15; refine (HPC.out _ ‹_ ∧ _ ∧ Ext _ _›.2.2).mono ?_; rintro e w4 ⟨rfl, hE2⟩)
      | (go_at_call 16; refine (HRC.out _ ‹_ ∧ _ ∧ Ext _ _›.2.2).mono ?_; rintro e w4 ⟨rfl, hE2⟩))
  rename_i hH
  try dsimp only at hH
  obtain ⟨hC, hz3, hx3⟩ := hH
  go_wp2_with fail
  refine (HPW.out _ hx3).mono ?_
  rintro e w5 ⟨rfl, hE⟩
  have F3 := hx3.trans hE
  have hC5 := kcell (w1 := w3) (W := w3) (n := w3.heap.size) (fun _ _ _ => rfl) (Nat.le_refl _) F3
  have hz5 := F3.size
  clear hE hC hz3 hx3
  have p0 : w.heap.size < w5.heap.size := by omega
  have p1 : w.heap.size + 1 < w5.heap.size := by omega
  have p2 : w.heap.size + 1 + 1 < w5.heap.size := by omega
  have p3 : z < w5.heap.size := by omega
  go_wp2_with fail
  refine (HRW.out _ (F3.alloc _)).mono ?_
  rintro e w6 ⟨rfl, hE⟩
  have hx6 := (ext_alloc1 w5 (.cells #[.int .i64 R1, .int .i64 R2] 26)).trans hE
  have F6 := F3.trans hx6
  have hC6 := kcell (w1 := w3) (W := w3) (n := w3.heap.size) (fun _ _ _ => rfl) (Nat.le_refl _) F6
  have hz6 := F6.size
  have KA := hid (blk_ext (heap_alloc_new w5 (.cells #[.int .i64 R1, .int .i64 R2] 26)) hE)
  have k0 := blk_cell KA.out 0
  have k1 := blk_cell KA.out 1
  simp only [List.getElem?_toArray, List.getElem?_cons_zero, List.getElem?_cons_succ] at k0 k1
  have zk := (Array.getElem?_eq_some_iff.1 KA.out).1
  have q0 : w.heap.size < w6.heap.size := by omega
  have q1 : w.heap.size + 1 < w6.heap.size := by omega
  have q2 : w.heap.size + 1 + 1 < w6.heap.size := by omega
  have q3 : z < w6.heap.size := by omega
  clear hE hC5 hx6 KA HPC HRC HPW HRW
  by_cases hb : beginE m g l pl ph ps [from_] [start] = 0
  · have HP0 := hid (HPA0.out hb)
    have HR0 := hid (HRA0.out hb)
    clear HPA0 HRA0 HPA1 HRA1
    obtain ⟨xs, hxs⟩ : ∃ xs, arrList selHi g l pl ph ps m from_ start = xs := ⟨_, rfl⟩
    obtain ⟨ys, hys⟩ : ∃ ys, arrList selLo g l pl ph ps m from_ start = ys := ⟨_, rfl⟩
    have hm12 := (vNet_ok (begin_zero hb).1).2.1
    have hxl : xs.length ≤ 12 := by rw [← hxs]; unfold arrList; rw [List.length_map, rows_len]; omega
    have hyl : ys.length ≤ 12 := by rw [← hys]; unfold arrList; rw [List.length_map, rows_len]; omega
    rw [hxs, hys] at HP0 HR0
    clear hxs hys hm12
    go_wp2_with fail
    refine (HP0.out _ (F6.alloc _)).mono ?_
    rintro e w7 ⟨g1, cc1, g2, cc2, rfl, row1, row2, hg1, hg2, hE⟩
    have F7 := (F6.alloc _).trans hE
    have hC7 := kcell (w1 := w3) (W := w3) (n := w3.heap.size) (fun _ _ _ => rfl) (Nat.le_refl _) F7
    have hz7 := F7.size
    have r0 : w.heap.size < w7.heap.size := by omega
    have r1 : w.heap.size + 1 < w7.heap.size := by omega
    have r2 : w.heap.size + 1 + 1 < w7.heap.size := by omega
    clear hE hC6 hg1 hg2 k0 k1
    go_wp2_with fail
    refine (HR0.out _ F7).mono ?_
    rintro e w8 ⟨g3, cc3, g4, cc4, rfl, row3, row4, hg3, hg4, hE⟩
    have F8 := F7.trans hE
    have HI1 := hid (row1.ext hE).ints
    have HI2 := hid (row2.ext hE).ints
    have HI3 := hid row3.ints
    have HI4 := hid row4.ints
    clear hE hC7 row1 row2 row3 row4 hg3 hg4
    go_wp2_with fail
    refine (sameInts_any (some ⟨g1, 0, none⟩) (some ⟨g3, 0, none⟩) xs.length xs.length cc1 cc3 xs xs rfl rfl (by omega) (by omega) _ HI1.out HI3.out).mono ?_
    rintro e w9 ⟨rfl, hE⟩
    rw [decide_eq_true rfl]
    have F9 := F8.trans hE
    have HJ2 := hid (HI2.out.ext hE)
    have HJ4 := hid (HI4.out.ext hE)
    clear hE
    go_wp2_with fail
    refine (sameInts_any (some ⟨g2, 0, none⟩) (some ⟨g4, 0, none⟩) ys.length ys.length cc2 cc4 ys ys rfl rfl (by omega) (by omega) _ HJ2.out HJ4.out).mono ?_
    rintro e w10 ⟨rfl, hE⟩
    rw [decide_eq_true rfl]
    have E7 := E3.trans (F9.trans hE)
    clear hE
    go_wp2_with fail
    refine (works_any _).mono ?_
    rintro e w11 ⟨rfl, hE9⟩
    have EZ : Ext w w11 := E7.trans hE9
    go_wp2
    go_ret
    exact ⟨rfl, EZ⟩
  · have HP0 := hid (HPA1.out _ rfl hb)
    have HR0 := hid (HRA1.out _ rfl hb)
    clear HPA0 HRA0 HPA1 HRA1
    obtain ⟨EE, hEE⟩ : ∃ EE, beginE m g l pl ph ps [from_] [start] = EE := ⟨_, rfl⟩
    rw [hEE] at HP0 HR0
    clear hEE hb
    go_wp2_with fail
    refine (HP0.out _ (F6.alloc _)).mono ?_
    rintro e w7 ⟨rfl, hE⟩
    have F7 := (F6.alloc _).trans hE
    have hC7 := kcell (w1 := w3) (W := w3) (n := w3.heap.size) (fun _ _ _ => rfl) (Nat.le_refl _) F7
    have hz7 := F7.size
    have r0 : w.heap.size < w7.heap.size := by omega
    have r1 : w.heap.size + 1 < w7.heap.size := by omega
    have r2 : w.heap.size + 1 + 1 < w7.heap.size := by omega
    clear hE hC6 k0 k1
    go_wp2_with fail
    refine (HR0.out _ F7).mono ?_
    rintro e w8 ⟨rfl, hE⟩
    have F8 := F7.trans hE
    clear hE hC7
    go_wp2_with fail
    refine (sameInts_any none none 0 0 0 0 [] [] rfl rfl (by omega) (by omega) _ (fun h => absurd rfl h) (fun h => absurd rfl h)).mono ?_
    rintro e w9 ⟨rfl, hE⟩
    rw [decide_eq_true rfl]
    have F9 := F8.trans hE
    clear hE
    go_wp2_with fail
    refine (sameInts_any none none 0 0 0 0 [] [] rfl rfl (by omega) (by omega) _ (fun h => absurd rfl h) (fun h => absurd rfl h)).mono ?_
    rintro e w10 ⟨rfl, hE⟩
    rw [decide_eq_true rfl]
    have E7 := E3.trans (F9.trans hE)
    clear hE
    go_wp2_with fail
    refine (works_any _).mono ?_
    rintro e w11 ⟨rfl, hE9⟩
    have EZ : Ext w w11 := E7.trans hE9
    go_wp2
    go_ret
    exact ⟨rfl, EZ⟩
end Go.Proofs.Ytbfmcclbbeobkaa
