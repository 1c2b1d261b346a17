/- The example, and works. -/
import Derived.Test.YtcfijidlbimckaaDoorTruths
import Derived.Test.YtcfijidlbimckaaDoorPServe
import Derived.Test.YtcfijidlbimckaaDoorSame
set_option linter.unusedSimpArgs false
set_option linter.unusedVariables false
namespace Go.Proofs.YtcfijidlbimckaaDoor
open Go.RowKit
def exD : Wat := ⟨[⟨10, 20, 4⟩, ⟨30, 30, 9⟩, ⟨5, 50, 2⟩], 1, 1, 0, [⟨3, false⟩, ⟨3, false⟩, ⟨4, false⟩]⟩
theorem ex_E : watE exD = 0 := by kernel_rfl
theorem ex_T : tlI exD = [0, 4] := by kernel_rfl
theorem ex_SE : servE exD 41 = 0 := by kernel_rfl
theorem ex_SP : servP exD 41 = 3 := by kernel_rfl
theorem ex_SQ : servQ exD 41 = 4 := by kernel_rfl
theorem ex_SF : servF exD 41 = 2 := by kernel_rfl
set_option maxHeartbeats 1000000 in
theorem example_any (w : World) : Calls Tryd.prog 42 #[] w fun e w' => ∃ A, e = .returned (wval exD A) ∧ WIn w' exD A ∧ Ext w w' := by
  go_enter Tryd.func42, Tryd.ntmps42
  go_wp2
  have x := blks3 w (.cells #[.slice (some ⟨w.heap.size + 1, 0, none⟩) 3 3, .int .i64 1, .int .i64 1, .int .i64 0, .slice (some ⟨w.heap.size + 1 + 1, 0, none⟩) 3 3] 25) (.cells #[.int .i64 10, .int .i64 20, .int .i64 4, .int .i64 30, .int .i64 30, .int .i64 9, .int .i64 5, .int .i64 50, .int .i64 2] 57) (.cells #[.int .i64 3, .bool false, .int .i64 3, .bool false, .int .i64 4, .bool false] 43)
  have E : Ext w (((w.alloc (.cells #[.slice (some ⟨w.heap.size + 1, 0, none⟩) 3 3, .int .i64 1, .int .i64 1, .int .i64 0, .slice (some ⟨w.heap.size + 1 + 1, 0, none⟩) 3 3] 25)).alloc (.cells #[.int .i64 10, .int .i64 20, .int .i64 4, .int .i64 30, .int .i64 30, .int .i64 9, .int .i64 5, .int .i64 50, .int .i64 2] 57)).alloc (.cells #[.int .i64 3, .bool false, .int .i64 3, .bool false, .int .i64 4, .bool false] 43)) := by (repeat' (first | with_reducible assumption | with_reducible exact Ext.refl _ | with_reducible refine Ext.alloc ?_ _ | with_reducible refine Ext.set ?_ ?_ _ | with_reducible refine Ext.drew ?_ | with_reducible refine Ext.drewN ?_ _ | with_reducible refine Ext.trans ?_ (by assumption) | (dsimp only; omega)))
  obtain ⟨W, hW⟩ : ∃ W, (((w.alloc (.cells #[.slice (some ⟨w.heap.size + 1, 0, none⟩) 3 3, .int .i64 1, .int .i64 1, .int .i64 0, .slice (some ⟨w.heap.size + 1 + 1, 0, none⟩) 3 3] 25)).alloc (.cells #[.int .i64 10, .int .i64 20, .int .i64 4, .int .i64 30, .int .i64 30, .int .i64 9, .int .i64 5, .int .i64 50, .int .i64 2] 57)).alloc (.cells #[.int .i64 3, .bool false, .int .i64 3, .bool false, .int .i64 4, .bool false] 43)) = W := ⟨_, rfl⟩
  rw [hW] at x E ⊢
  clear hW
  have d0 := blk_cell x.1 0
  have d1 := blk_cell x.1 1
  have d2 := blk_cell x.1 2
  have d3 := blk_cell x.1 3
  have d4 := blk_cell x.1 4
  simp only [List.getElem?_toArray, List.getElem?_cons_zero, List.getElem?_cons_succ] at d0 d1 d2 d3 d4
  refine bodyPost_ret (v := wval exD ⟨some ⟨w.heap.size + 1, 0, none⟩, 3, some ⟨w.heap.size + 1 + 1, 0, none⟩, 3⟩) (by simp [results, Tryd.results42, go_sem, d0, d1, d2, d3, d4, wval, wcells, exD]) rfl ⟨_, rfl, ⟨fun _ => ⟨_, 0, rfl, (Array.getElem?_eq_some_iff.1 x.2.1).1, fun k hk => ?_⟩, fun _ => ⟨_, 0, rfl, (Array.getElem?_eq_some_iff.1 x.2.2).1, fun k hk => ?_⟩⟩, E⟩
  · have hk3 : k = 0 ∨ k = 1 ∨ k = 2 := by simp [exD] at hk; omega
    rcases hk3 with rfl | rfl | rfl
    · exact ⟨blk_cell x.2.1 0, blk_cell x.2.1 1, blk_cell x.2.1 2⟩
    · exact ⟨blk_cell x.2.1 3, blk_cell x.2.1 4, blk_cell x.2.1 5⟩
    · exact ⟨blk_cell x.2.1 6, blk_cell x.2.1 7, blk_cell x.2.1 8⟩
  · have hk3 : k = 0 ∨ k = 1 ∨ k = 2 := by simp [exD] at hk; omega
    rcases hk3 with rfl | rfl | rfl
    · exact ⟨blk_cell x.2.2 0, blk_cell x.2.2 1⟩
    · exact ⟨blk_cell x.2.2 2, blk_cell x.2.2 3⟩
    · exact ⟨blk_cell x.2.2 4, blk_cell x.2.2 5⟩
set_option maxHeartbeats 4000000 in
theorem works_any (w : World) (hT : TabW w) : Calls Tryd.prog 14 #[] w fun e w' => e = .returned (.bool true) ∧ Ext w w' := by
  have HT := hid (fun (A : WA) (W : World) (hE : Ext w W) (hW : WIn W exD A) => truths_any exD A (by decide) (by decide) W hW (hT.ext hE))
  have HS := hid (fun (A : WA) (W : World) (hE : Ext w W) (hW : WIn W exD A) => pserve_any exD A 41 (by decide) (by decide) W hW (hT.ext hE))
  unfold ServeIs at HS
  rw [ex_E, ex_T] at HT
  rw [ex_SP, ex_SQ, ex_SF, ex_SE] at HS
  clear hT
  go_enter Tryd.func14, Tryd.ntmps14
  go_wp2_with fail
  refine (example_any _).mono ?_
  rintro e w1 ⟨A, rfl, hp, E1⟩
  have HP := hid hp
  clear hp
  have HT1 := hid (fun W (hE : Ext w1 W) => HT.out A W (E1.trans hE) (HP.out.ext hE))
  have HS1 := hid (fun W (hE : Ext w1 W) => HS.out A W (E1.trans hE) (HP.out.ext hE))
  clear HT HS HP
  unfold wval wcells at *
  obtain ⟨SA, sc, MA, mc⟩ := A
  rw [show exD.spr.length = 3 from rfl, show exD.smp.length = 3 from rfl, show exD.most = 1 from rfl, show exD.miss = 1 from rfl, show exD.al = 0 from rfl] at *
  dsimp only at *
  have BQ := hid (Blk.new w1 25 #[.slice SA 3 sc, .int .i64 1, .int .i64 1, .int .i64 0, .slice MA 3 mc])
  go_wp2_with fail
  refine (HT1.out _ (ext_alloc1 _ _)).mono ?_
  rintro e w2 ⟨v, rfl, hown, hE⟩
  have HQ2 := hid (BQ.out.ext hE)
  have E2 : Ext w1 w2 := (ext_alloc1 _ _).trans hE
  have d0 := HQ2.out.cell 0
  have d1 := HQ2.out.cell 1
  have d2 := HQ2.out.cell 2
  have d3 := HQ2.out.cell 3
  have d4 := HQ2.out.cell 4
  simp only [List.getElem?_toArray, List.getElem?_cons_zero, List.getElem?_cons_succ] at d0 d1 d2 d3 d4
  have dz := HQ2.out.lt
  obtain ⟨TA, tc, rfl, hS⟩ := hown.form
  have HI := hid hS
  clear hown hS hE BQ
  go_wp2_with fail
  refine (HS1.out _ E2).mono ?_
  rintro e w3 ⟨rfl, hE⟩
  have HI3 := hid (HI.out.ext hE)
  have E3 : Ext w w3 := E1.trans (E2.trans hE)
  clear hE E1 E2 HI HQ2 d0 d1 d2 d3 d4 dz HT1 HS1
  have hnew : IntsAt (w3.alloc (.cells #[.int .i64 0, .int .i64 4] 3)) (some ⟨w3.heap.size, 0, none⟩) [0, 4] := fun _ => ⟨w3.heap.size, 0, rfl, by simp, fun k hk => by
    have hk3 : k = 0 ∨ k = 1 := by simp at hk; omega
    have h := blk_last w3 (.cells #[.int .i64 0, .int .i64 4] 3)
    rcases hk3 with rfl | rfl
    · exact blk_cell h 0
    · exact blk_cell h 1⟩
  have HNEW := hid hnew
  clear hnew
  go_wp2_with fail
  refine (sameInts_any _ _ 2 2 tc 2 [0, 4] [0, 4] rfl rfl (by omega) (by omega) _ (HI3.out.ext (ext_alloc1 _ _)) HNEW.out).mono ?_
  rintro e w4 ⟨rfl, hE⟩
  have E4 : Ext w w4 := E3.trans ((ext_alloc1 _ _).trans hE)
  rw [decide_eq_true rfl]
  clear hE
  go_wp2
  go_ret
  exact ⟨rfl, E4⟩
end Go.Proofs.YtcfijidlbimckaaDoor
