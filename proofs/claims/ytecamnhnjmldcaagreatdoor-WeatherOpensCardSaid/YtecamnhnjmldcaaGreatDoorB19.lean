/- The examples of the chapters. -/
import Derived.Test.YtecamnhnjmldcaaGreatDoorB17
set_option linter.unusedSimpArgs false
set_option linter.unusedVariables false
namespace Go.Proofs.YtecamnhnjmldcaaGreatDoor
open Go.RowKit
theorem two_blocks (w : World) (o1 o2 : Obj) : ((w.alloc o1).alloc o2).heap[w.heap.size]? = some o1 ∧ ((w.alloc o1).alloc o2).heap[w.heap.size + 1]? = some o2 ∧ ((w.alloc o1).alloc o2).heap.size = w.heap.size + 2 := by
  have s1 : (w.alloc o1).heap.size = w.heap.size + 1 := by simp
  refine ⟨(Below.heap_alloc (w.alloc o1) o2 _ (by rw [s1]; omega)).trans (World.alloc_heap_new w o1), ?_, by simp⟩
  have h := World.alloc_heap_new (w.alloc o1) o2
  rwa [s1] at h
theorem blk_fro {w : World} {g : Nat} {cs : Array Value} {t : TypeId} (h : w.heap[g]? = some (.cells cs t (0, 0))) (i : Nat) : w.frozen? ⟨g, i, none⟩ = false := Blk.fro h i
set_option maxHeartbeats 400000 in
theorem span_any (l h : Int) (w : World) :
    Calls Tryz.prog 82 #[.int .i64 l, .int .i64 h] w fun e w' => e = .returned (.agg #[.int .i64 l, .int .i64 h]) ∧ Ext w w' := by
  go_enter Tryz.func82, Tryz.ntmps82
  go_wp2
  exact bodyPost_ret (v := .agg #[.int .i64 l, .int .i64 h]) (by simp [results, Tryz.results82, go_sem]) rfl ⟨rfl, by (repeat' (first | with_reducible assumption | with_reducible exact Ext.refl _ | with_reducible refine Ext.alloc ?_ _ | with_reducible refine Ext.set ?_ ?_ _ | with_reducible refine Ext.drew ?_ | with_reducible refine Ext.drewN ?_ _ | with_reducible refine Ext.trans ?_ (by assumption) | (dsimp only; omega)))⟩
set_option maxHeartbeats 400000 in
theorem lspan_any (l h : Int) (w : World) :
    Calls Tryz.prog 38 #[.int .i64 l, .int .i64 h] w fun e w' => e = .returned (.agg #[.int .i64 l, .int .i64 h]) ∧ Ext w w' := by
  go_enter Tryz.func38, Tryz.ntmps38
  go_wp2
  exact bodyPost_ret (v := .agg #[.int .i64 l, .int .i64 h]) (by simp [results, Tryz.results38, go_sem]) rfl ⟨rfl, by (repeat' (first | with_reducible assumption | with_reducible exact Ext.refl _ | with_reducible refine Ext.alloc ?_ _ | with_reducible refine Ext.set ?_ ?_ _ | with_reducible refine Ext.drew ?_ | with_reducible refine Ext.drewN ?_ _ | with_reducible refine Ext.trans ?_ (by assumption) | (dsimp only; omega)))⟩
def exPs : List Pt := [⟨0, 1, 2, 100, 120, 0, 0, [(0, 2880)]⟩, ⟨1, 2, 3, 60, 90, 4, 10, [(0, 2880)]⟩, ⟨2, 3, 2, 60, 60, 0, 0, [(400, 700)]⟩, ⟨0, 3, 2, 300, 400, 0, 0, [(0, 2880)]⟩, ⟨3, 0, 2, 200, 240, 0, 0, [(0, 2880)]⟩]

set_option maxRecDepth 100000 in
set_option maxHeartbeats 2000000 in
theorem example_any (w : World) :
    Calls Tryz.prog 37 #[] w fun e w' => ∃ A c, e = .returned (.tuple #[.agg #[.int .i64 4, .slice A 5 c], .agg #[.int .i64 3, .int .i64 0, .int .i64 100, .int .i64 100]]) ∧ PathsAt w' A exPs ∧ Ext w w' := by
  go_enter Tryz.func37, Tryz.ntmps37
  go_wp2_with fail
  refine (span_any _ _ _).mono ?_
  rintro e w1 ⟨rfl, E1⟩
  go_wp2_with fail
  refine (span_any _ _ _).mono ?_
  rintro e w2 ⟨rfl, E2⟩
  go_wp2_with fail
  refine (span_any _ _ _).mono ?_
  rintro e w3 ⟨rfl, E3⟩
  go_wp2_with fail
  refine (span_any _ _ _).mono ?_
  rintro e w4 ⟨rfl, E4⟩
  go_wp2_with fail
  refine (span_any _ _ _).mono ?_
  rintro e w5 ⟨rfl, E5⟩
  go_wp2_with fail
  refine (span_any _ _ _).mono ?_
  rintro e w6 ⟨rfl, E6⟩
  go_wp2_with fail
  refine (span_any _ _ _).mono ?_
  rintro e w7 ⟨rfl, E7⟩
  go_wp2_with fail
  refine (span_any _ _ _).mono ?_
  rintro e w8 ⟨rfl, E8⟩
  go_wp2_with fail
  refine (span_any _ _ _).mono ?_
  rintro e w9 ⟨rfl, E9⟩
  have x := two_blocks w (.cells #[.int .i64 0, .slice none 0 0] 47) (.cells #[.int .i64 0, .int .i64 0, .int .i64 0, .int .i64 0] 75)
  have e19 : Ext (w1.alloc (.cells #[.int .i64 0, .int .i64 2880] 27)) w9 := E2.trans (E3.trans (E4.trans (E5.trans (E6.trans ((ext_alloc1 _ _).trans (E7.trans (E8.trans ((ext_alloc1 _ _).trans E9))))))))
  have e69 := E7.trans (E8.trans ((ext_alloc1 _ _).trans E9))
  have s1 := E1.size
  have s2 := (ext_alloc1 w1 (.cells #[.int .i64 0, .int .i64 2880] 27)).size
  have s2' := E2.size
  have s3 := (E3.trans (E4.trans (E5.trans E6))).size
  have s6 := (E7.trans E8).size
  have s9 := E9.size
  simp only [World.size_alloc] at s1 s2 s2' s6 s9
  have X0 := hid (blk_ext x.1 (E1.trans ((ext_alloc1 _ _).trans e19)))
  have X1 := hid (blk_ext x.2.1 (E1.trans ((ext_alloc1 _ _).trans e19)))
  have Y1 := hid (blk_ext (World.alloc_heap_new w1 _) e19)
  have Y2 := hid (blk_ext (World.alloc_heap_new w6 _) e69)
  have YP := hid (blk_ext (World.alloc_heap_new w8 _) E9)
  have EW : Ext w w9 := ((ext_alloc1 _ _).trans ((ext_alloc1 _ _).trans (E1.trans ((ext_alloc1 _ _).trans e19))))
  clear E1 E2 E3 E4 E5 E6 E7 E8 E9 e19 e69 x
  have q00 := blk_cell X0.out 0
  have q01 := blk_cell X0.out 1
  have q10 := blk_cell X1.out 0
  have q11 := blk_cell X1.out 1
  have q12 := blk_cell X1.out 2
  have q13 := blk_cell X1.out 3
  have f00 := blk_fro X0.out 0
  have f01 := blk_fro X0.out 1
  have f10 := blk_fro X1.out 0
  have f11 := blk_fro X1.out 1
  have f12 := blk_fro X1.out 2
  have f13 := blk_fro X1.out 3
  simp only [List.getElem?_toArray, List.getElem?_cons_zero, List.getElem?_cons_succ] at q00 q01 q10 q11 q12 q13
  have z0 : w.heap.size < w9.heap.size := by omega
  have z1 : w.heap.size + 1 < w9.heap.size := by omega
  go_wp2
  obtain ⟨wf, hwf⟩ : ∃ wf, ((((((w9.setCell ⟨w.heap.size, 0, none⟩ (.int .i64 4)).setCell ⟨w.heap.size, 1, none⟩ (.slice (some ⟨w8.heap.size, 0, none⟩) 5 5)).setCell ⟨w.heap.size + 1, 0, none⟩ (.int .i64 3)).setCell ⟨w.heap.size + 1, 1, none⟩ (.int .i64 0)).setCell ⟨w.heap.size + 1, 2, none⟩ (.int .i64 100)).setCell ⟨w.heap.size + 1, 3, none⟩ (.int .i64 100)) = wf := ⟨_, rfl⟩
  have hf : ∀ q, q ≠ w.heap.size → q ≠ w.heap.size + 1 → wf.heap[q]? = w9.heap[q]? := fun q h0 h1 => by
    rw [← hwf]
    exact (Below.heap_setCell _ _ _ q h1).trans ((Below.heap_setCell _ _ _ q h1).trans ((Below.heap_setCell _ _ _ q h1).trans ((Below.heap_setCell _ _ _ q h1).trans ((Below.heap_setCell _ _ _ q h0).trans (Below.heap_setCell _ _ _ q h0)))))
  have EF : Ext w wf := by
    rw [← hwf]
    exact (((((EW.set (by dsimp only; omega) _).set (by dsimp only; omega) _).set (by dsimp only; omega) _).set (by dsimp only; omega) _).set (by dsimp only; omega) _).set (by dsimp only; omega) _
  have sf : wf.heap.size = w9.heap.size := by rw [← hwf]; simp
  have P1 := (hf _ (by omega) (by omega)).trans Y1.out
  have P2 := (hf _ (by omega) (by omega)).trans Y2.out
  have PP := (hf _ (by omega) (by omega)).trans YP.out
  have O1 : OpensAt wf (some ⟨w1.heap.size, 0, none⟩) [(0, 2880)] := fun _ => ⟨_, _, rfl, by omega, fun k hk => by
    obtain rfl : k = 0 := by simpa using hk
    exact ⟨blk_cell P1 0, blk_cell P1 1⟩⟩
  have O2 : OpensAt wf (some ⟨w6.heap.size, 0, none⟩) [(400, 700)] := fun _ => ⟨_, _, rfl, by omega, fun k hk => by
    obtain rfl : k = 0 := by simpa using hk
    exact ⟨blk_cell P2 0, blk_cell P2 1⟩⟩
  have hall : PathsAt wf (some ⟨w8.heap.size, 0, none⟩) exPs := fun _ => ⟨_, _, rfl, by omega, fun k hk => by
    have hk5 : k = 0 ∨ k = 1 ∨ k = 2 ∨ k = 3 ∨ k = 4 := by simp [exPs] at hk; omega
    rcases hk5 with rfl | rfl | rfl | rfl | rfl
    · exact ⟨some ⟨w1.heap.size, 0, none⟩, 1, blk_cell PP 0, blk_cell PP 1, blk_cell PP 2, blk_cell PP 3, blk_cell PP 4, blk_cell PP 5, blk_cell PP 6, blk_cell PP 7, Nat.le_refl _, O1⟩
    · exact ⟨some ⟨w1.heap.size, 0, none⟩, 1, blk_cell PP 8, blk_cell PP 9, blk_cell PP 10, blk_cell PP 11, blk_cell PP 12, blk_cell PP 13, blk_cell PP 14, blk_cell PP 15, Nat.le_refl _, O1⟩
    · exact ⟨some ⟨w6.heap.size, 0, none⟩, 1, blk_cell PP 16, blk_cell PP 17, blk_cell PP 18, blk_cell PP 19, blk_cell PP 20, blk_cell PP 21, blk_cell PP 22, blk_cell PP 23, Nat.le_refl _, O2⟩
    · exact ⟨some ⟨w1.heap.size, 0, none⟩, 1, blk_cell PP 24, blk_cell PP 25, blk_cell PP 26, blk_cell PP 27, blk_cell PP 28, blk_cell PP 29, blk_cell PP 30, blk_cell PP 31, Nat.le_refl _, O1⟩
    · exact ⟨some ⟨w1.heap.size, 0, none⟩, 1, blk_cell PP 32, blk_cell PP 33, blk_cell PP 34, blk_cell PP 35, blk_cell PP 36, blk_cell PP 37, blk_cell PP 38, blk_cell PP 39, Nat.le_refl _, O1⟩⟩
  have HALL := hid hall
  have HEF := hid EF
  clear hall O1 O2 PP P1 P2 hf EF sf
  exact bodyPost_ret (v := .tuple #[.agg #[.int .i64 4, .slice (some ⟨w8.heap.size, 0, none⟩) 5 5], .agg #[.int .i64 3, .int .i64 0, .int .i64 100, .int .i64 100]]) (by simp [results, Tryz.results37, go_sem, q00, q01, q10, q11, q12, q13]) rfl ⟨_, _, rfl, hwf ▸ HALL.out, hwf ▸ HEF.out⟩
end Go.Proofs.YtecamnhnjmldcaaGreatDoor
