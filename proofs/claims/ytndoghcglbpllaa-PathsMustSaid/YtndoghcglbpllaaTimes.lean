/- Times, entries and arrivals. -/
import Derived.Test.YtndoghcglbpllaaInts
set_option linter.unusedSimpArgs false
set_option linter.unusedVariables false
namespace Go.Proofs.Ytndoghcglbpllaa
open Go.RowKit

/-- The time of a path, in minutes. -/
def timeOf (t p s l : Int) : Int := (t * p * (100 + 5 * s + l) + 9999) / 10000

theorem prod_bd (a b A B : Int) (h0 : 0 ≤ a) (h1 : a ≤ A) (h2 : 0 ≤ b) (h3 : b ≤ B) : 0 ≤ a * b ∧ a * b ≤ A * B :=
  ⟨Int.mul_nonneg h0 h2, Int.mul_le_mul h1 h3 h2 (by omega)⟩

set_option maxHeartbeats 400000 in
theorem rTime_any (t p s l : Int) (ht : 1 ≤ t) (ht' : t ≤ 600) (hp : 50 ≤ p) (hp' : p ≤ 300) (hs : 0 ≤ s) (hs' : s ≤ 30) (hl : 0 ≤ l) (hl' : l ≤ 40) (w : World) :
    Calls Try.prog 74 #[.int .i64 t, .int .i64 p, .int .i64 s, .int .i64 l] w fun e w' => e = .returned (.int .i64 (timeOf t p s l)) ∧ w' = w := by
  have ⟨h1, h2⟩ := prod_bd t p 600 300 (by omega) ht' (by omega) hp'
  have ⟨h3, h4⟩ := prod_bd (t * p) (100 + 5 * s + l) (600 * 300) 290 h1 h2 (by omega) (by omega)
  go_enter Try.func74, Try.ntmps74
  go_wp2
  all_goals (go_ret; exact ⟨rfl, rfl⟩)

set_option maxHeartbeats 400000 in
theorem minutes_any (t p s l : Int) (v1 v2 v3 v4 v5 : Value) (ht : 1 ≤ t) (ht' : t ≤ 600) (hp : 50 ≤ p) (hp' : p ≤ 300) (hs : 0 ≤ s) (hs' : s ≤ 30) (hl : 0 ≤ l) (hl' : l ≤ 40) (w : World) :
    Calls Try.prog 84 #[.agg #[v1, v2, v3, .int .i64 l, v4, v5], .int .i64 t, .int .i64 p, .int .i64 s] w fun e w' => e = .returned (.int .i64 (timeOf t p s l)) ∧ Ext w w' := by
  have ⟨h1, h2⟩ := prod_bd t p 600 300 (by omega) ht' (by omega) hp'
  have ⟨h3, h4⟩ := prod_bd (t * p) (100 + 5 * s + l) (600 * 300) 290 h1 h2 (by omega) (by omega)
  go_enter Try.func84, Try.ntmps84
  go_wp2
  all_goals (go_ret; exact ⟨ret_int (by unfold timeOf; congr 1; omega), by (repeat' (first | with_reducible assumption | with_reducible exact Ext.refl _ | with_reducible refine Ext.alloc ?_ _ | with_reducible refine Ext.set ?_ ?_ _ | with_reducible refine Ext.drew ?_ | with_reducible refine Ext.drewN ?_ _ | with_reducible refine Ext.trans ?_ (by assumption) | (dsimp only; omega)))⟩)
end Go.Proofs.Ytndoghcglbpllaa
