import Derived.Test.YtndoghcglbpllaaTimes
import Derived.Deep.RegionHeld3
set_option linter.unusedSimpArgs false
set_option linter.unusedVariables false
namespace Go.Proofs.Ytndoghcglbpllaa
open Go.RowKit
set_option maxHeartbeats 1000000 in
theorem wtime_any (f d g tl th sl sh gr l pl ph : Int) (v1 v2 v7 : Value) 
    (h1 : 1 ≤ tl) (h2 : tl ≤ th) (h3 : th ≤ 600) (h4 : 50 ≤ pl) (h5 : pl ≤ ph) (h6 : ph ≤ 300) (h7 : 0 ≤ sl) (h8 : sl ≤ sh) (h9 : sh ≤ 30) (hl : 0 ≤ l) (hl' : l ≤ 40) (w : World) :
    Calls Try.prog 48 #[.agg #[v1, v2, .int .i64 gr, .int .i64 l, .int .i64 pl, .int .i64 ph], .agg #[.int .i64 f, .int .i64 d, .int .i64 g, .int .i64 tl, .int .i64 th, .int .i64 sl, .int .i64 sh, v7]] w fun e w' =>
      e = .returned (.agg #[.int .i64 (timeOf tl pl sl l), .int .i64 (timeOf th ph sh l)]) ∧ Ext w w' := by
  go_enter Try.func48, Try.ntmps48
  go_wp2
  refine wp_abs (fun W => (W.cell? ⟨w.heap.size, 0, none⟩ = some v1 ∧ W.cell? ⟨w.heap.size, 1, none⟩ = some v2 ∧ W.cell? ⟨w.heap.size, 2, none⟩ = some (.int .i64 gr) ∧ W.cell? ⟨w.heap.size, 3, none⟩ = some (.int .i64 l) ∧ W.cell? ⟨w.heap.size, 4, none⟩ = some (.int .i64 pl) ∧ W.cell? ⟨w.heap.size, 5, none⟩ = some (.int .i64 ph) ∧
     W.cell? ⟨w.heap.size + 1, 3, none⟩ = some (.int .i64 tl) ∧ W.cell? ⟨w.heap.size + 1, 4, none⟩ = some (.int .i64 th) ∧ W.cell? ⟨w.heap.size + 1, 5, none⟩ = some (.int .i64 sl) ∧ W.cell? ⟨w.heap.size + 1, 6, none⟩ = some (.int .i64 sh)) ∧ (W.cell? ⟨w.heap.size + 1 + 1, 0, none⟩ = some (heldAt W ⟨w.heap.size + 1 + 1, 0, none⟩) ∧ W.cell? ⟨w.heap.size + 1 + 1, 1, none⟩ = some (heldAt W ⟨w.heap.size + 1 + 1, 1, none⟩) ∧
     W.frozen? ⟨w.heap.size + 1 + 1, 0, none⟩ = false ∧ W.frozen? ⟨w.heap.size + 1 + 1, 1, none⟩ = false) ∧ w.heap.size + 3 ≤ W.heap.size ∧ Ext w W) ⟨by go_simp, ⟨held_some (by go_simp), held_some (by go_simp), by go_simp, by go_simp⟩, by simp, by (repeat' (first | with_reducible assumption | with_reducible exact Ext.refl _ | with_reducible refine Ext.alloc ?_ _ | with_reducible refine Ext.set ?_ ?_ _ | with_reducible refine Ext.drew ?_ | with_reducible refine Ext.drewN ?_ _ | with_reducible refine Ext.trans ?_ (by assumption) | (dsimp only; omega)))⟩ ?_
  rintro W ⟨⟨c0, c1, c2, c3, c4, c5, d3, d4, d5, d6⟩, ⟨e0, e1, g0, g1⟩, hz, hE⟩
  go_region_held3 (fun w' => (∀ b o, b < w.heap.size + 2 → w'.cell? ⟨b, o, none⟩ = W.cell? ⟨b, o, none⟩) ∧ w'.cell? ⟨w.heap.size + 1 + 1, 0, none⟩ = some (heldAt w' ⟨w.heap.size + 1 + 1, 0, none⟩) ∧ w'.cell? ⟨w.heap.size + 1 + 1, 1, none⟩ = some (heldAt w' ⟨w.heap.size + 1 + 1, 1, none⟩) ∧
     w'.frozen? ⟨w.heap.size + 1 + 1, 0, none⟩ = false ∧ w'.frozen? ⟨w.heap.size + 1 + 1, 1, none⟩ = false ∧ w.heap.size + 3 ≤ w'.heap.size ∧ Ext w w')
    (((try dsimp only); go_split_ands; (repeat' apply And.intro) <;> first | assumption | exact kcell (by assumption) (by omega) (by assumption) | exact kcell_refl _ _ | exact kcell_set (kcell_set (by assumption) (by dsimp only; omega) _) (by dsimp only; omega) _ | exact kcell_set (by assumption) (by dsimp only; omega) _ | exact held_ext (by assumption) (by dsimp only; omega) (by assumption) | exact hfrozen_ext (by assumption) (by dsimp only; omega) (by assumption) | exact Ext.sizeLe (by assumption) (by assumption) | exact Ext.trans (by assumption) (by assumption) | exact Ext.drew (by assumption) | exact held_set _ _ _ _ (held_set _ _ _ _ (by assumption)) | exact held_set _ _ _ _ (by assumption) | exact hfrozen_set _ _ (hfrozen_set _ _ (by assumption)) | exact hfrozen_set _ _ (by assumption) | exact hsize_set _ _ (hsize_set _ _ (by assumption)) | exact hsize_set _ _ (by assumption) | exact Ext.set (Ext.set (by assumption) (by dsimp only; omega) _) (by dsimp only; omega) _ | exact Ext.set (by assumption) (by dsimp only; omega) _))
    (first | (go_at_call 84; refine (minutes_any _ _ _ _ _ _ _ _ _ (by omega) (by omega) (by omega) (by omega) (by omega) (by omega) (by omega) (by omega) _).mono ?_; rintro e w2 ⟨rfl, hE⟩))
  rename_i hH
  try dsimp only at hH
  obtain ⟨-, k0, k1, -, -, -, hx⟩ := hH
  have r1 := cell_set_val k1
  have r0 := cell_set_val2 (by simp) k0
  clear k0 k1
  go_wp2
  exact bodyPost_ret (v := .agg #[.int .i64 (timeOf tl pl sl l), .int .i64 (timeOf th ph sh l)]) (by simp [results, Try.results48, go_sem, r0, r1]) rfl ⟨rfl, hx⟩
end Go.Proofs.Ytndoghcglbpllaa
