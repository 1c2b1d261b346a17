/- works. -/
import Derived.Test.YtndoghcglbpllaaWorks
import Derived.Test.YtndoghcglbpllaaSame
set_option linter.unusedSimpArgs false
set_option linter.unusedVariables false
namespace Go.Proofs.Ytndoghcglbpllaa
open Go.RowKit
theorem ex_begin1 : beginE 4 3 0 100 100 exPs [0, 3] [400] = 0 := by kernel_rfl
theorem ex_begin2 : beginE 4 3 0 100 100 exPs [0, 3] [900] = 0 := by kernel_rfl
theorem ex_sure : (rows selHi 3 0 100 100 exPs 4 0 400 3).getD 3 0 = 715 := by kernel_rfl
theorem ex_route : (routeOf 3 0 100 100 exPs 4 0 3 400 715).map Int.ofNat = [0, 1, 2] := by kernel_rfl
theorem ex_late0 : isLate 3 0 100 100 exPs 4 0 3 900 500 = false := by kernel_rfl
theorem ex_late1 : isLate 3 0 100 100 exPs 4 0 3 900 501 = true := by kernel_rfl

theorem ex_routeF (A : Option Addr) (c : Nat) (w : World) (hp : PathsAt w A exPs) : Calls Try.prog 22 #[.agg #[.int .i64 4, .slice A 5 c], .agg #[.int .i64 3, .int .i64 0, .int .i64 100, .int .i64 100], .int .i64 0, .int .i64 400, .int .i64 3] w fun e w' =>
    ∃ g cap, e = .returned (.tuple #[.slice (some ⟨g, 0, none⟩) 3 cap, .int .i64 715, .int .i64 0]) ∧ IntsAt w' (some ⟨g, 0, none⟩) [0, 1, 2] ∧ Ext w w' := by
  refine (routeF_ok 4 3 0 100 100 0 400 3 A 5 c exPs rfl w hp ex_begin1).mono ?_
  have h1 : (rows selHi 3 0 100 100 exPs (Int.toNat 4) (Int.toNat 0) 400 (Int.toNat 4 - 1)).getD (Int.toNat 3) 0 = 715 := ex_sure
  rw [h1]
  have h2 : (routeOf 3 0 100 100 exPs (Int.toNat 4) (Int.toNat 0) (Int.toNat 3) 400 715).map Int.ofNat = [0, 1, 2] := ex_route
  rw [h2]
  rintro e w' (⟨h, _⟩ | ⟨_, g, cap, rfl, hr, _, hE⟩)
  · exact absurd h (by decide)
  · exact ⟨g, cap, rfl, hr.ints, hE⟩
theorem ex_latest (A : Option Addr) (c : Nat) (w : World) (hp : PathsAt w A exPs) : Calls Try.prog 24 #[.agg #[.int .i64 4, .slice A 5 c], .agg #[.int .i64 3, .int .i64 0, .int .i64 100, .int .i64 100], .int .i64 0, .int .i64 3, .int .i64 900] w fun e w' =>
    e = .returned (.tuple #[.int .i64 500, .int .i64 0]) ∧ Ext w w' := by
  refine (latest_ok 4 3 0 100 100 0 3 900 A 5 c exPs rfl w hp ex_begin2).mono ?_
  rintro e w' ⟨⟨r, hL, rfl⟩, hE⟩
  obtain ⟨h1, h2, h3⟩ : Least 901 (isLate 3 0 100 100 exPs 4 0 3 900) r := hL
  have a1 : ¬ r < 501 := fun h => by
    have := h3 500 (by omega) (by omega)
    rw [ex_late0] at this
    cases this
  have a2 : ¬ 501 < r := fun h => by
    have := h2 501 h
    rw [ex_late1] at this
    cases this
  obtain rfl : r = 501 := by omega
  exact ⟨rfl, hE⟩

set_option maxHeartbeats 2000000 in
theorem works_any (w : World) : Calls Try.prog 13 #[] w fun e w' => e = .returned (.bool true) ∧ Ext w w' := by
  go_enter Try.func13, Try.ntmps13
  go_wp2_with fail
  refine (example_any _).mono ?_
  rintro e w1 ⟨A, c, rfl, hp, E1⟩
  have HP := hid (fun W (hE : Ext w1 W) => hp.ext hE)
  clear hp
  go_wp2_with fail
  refine (ex_routeF _ _ _ (HP.out _ (by (repeat' (first | with_reducible assumption | with_reducible exact Ext.refl _ | with_reducible refine Ext.alloc ?_ _ | with_reducible refine Ext.set ?_ ?_ _ | with_reducible refine Ext.drew ?_ | with_reducible refine Ext.drewN ?_ _ | with_reducible refine Ext.trans ?_ (by assumption) | (dsimp only; omega)))))).mono ?_
  rintro e w2 ⟨g, cap, rfl, hr, hE⟩
  (first | (have hK := KC.step (n := w1.heap.size + 2) (by with_reducible assumption) hE) | (have hK := KC.step (KC.step (n := w1.heap.size + 2) (by with_reducible assumption) (ext_alloc1 _ _)) hE) | (have hK := KC.step (KC.refl (n := w1.heap.size + 2) (by simp)) hE)); have hC := hK.cell; have hF := hK.fro; have hX := hK.ext
  have E2 : Ext w1 w2 := by (repeat' (first | with_reducible assumption | with_reducible exact Ext.refl _ | with_reducible refine Ext.alloc ?_ _ | with_reducible refine Ext.set ?_ ?_ _ | with_reducible refine Ext.drew ?_ | with_reducible refine Ext.drewN ?_ _ | with_reducible refine Ext.trans ?_ (by assumption) | (dsimp only; omega)))
  have HR := hid hr
  have z2 := hK.size
  clear hE hr
  go_wp2_with fail
  refine (ex_latest _ _ _ (HP.out _ (by (repeat' (first | with_reducible assumption | with_reducible exact Ext.refl _ | with_reducible refine Ext.alloc ?_ _ | with_reducible refine Ext.set ?_ ?_ _ | with_reducible refine Ext.drew ?_ | with_reducible refine Ext.drewN ?_ _ | with_reducible refine Ext.trans ?_ (by assumption) | (dsimp only; omega)))))).mono ?_
  rintro e w3 ⟨rfl, hE⟩
  have E3 : Ext w2 w3 := by (repeat' (first | with_reducible assumption | with_reducible exact Ext.refl _ | with_reducible refine Ext.alloc ?_ _ | with_reducible refine Ext.set ?_ ?_ _ | with_reducible refine Ext.drew ?_ | with_reducible refine Ext.drewN ?_ _ | with_reducible refine Ext.trans ?_ (by assumption) | (dsimp only; omega)))
  have HR3 := hid (HR.out.ext E3)
  have E03 : Ext w w3 := E1.trans (E2.trans E3)
  have hnew : IntsAt (w3.alloc (.cells #[.int .i64 0, .int .i64 1, .int .i64 2] 3)) (some ⟨w3.heap.size, 0, none⟩) [0, 1, 2] := fun _ => ⟨w3.heap.size, 0, rfl, by simp, fun k hk => by
    have hk3 : k = 0 ∨ k = 1 ∨ k = 2 := by simp at hk; omega
    have h := heap_alloc_new w3 (.cells #[.int .i64 0, .int .i64 1, .int .i64 2] 3)
    rcases hk3 with rfl | rfl | rfl
    · exact blk_cell h 0
    · exact blk_cell h 1
    · exact blk_cell h 2⟩
  have HNEW := hid hnew
  clear hE HR hnew HP hK hC hF hX z2 E1 E2 E3
  go_wp2_with fail
  refine (sameInts_any _ _ 3 3 cap 3 [0, 1, 2] [0, 1, 2] rfl rfl (by omega) (by omega) _ (HR3.out.ext (ext_alloc1 _ _)) HNEW.out).mono ?_
  rintro e w4 ⟨rfl, hE⟩
  have E4 : Ext w w4 := E03.trans ((ext_alloc1 _ _).trans hE)
  rw [decide_eq_true rfl]
  clear hE
  go_wp2
  go_ret
  exact ⟨rfl, E4⟩
end Go.Proofs.Ytndoghcglbpllaa
