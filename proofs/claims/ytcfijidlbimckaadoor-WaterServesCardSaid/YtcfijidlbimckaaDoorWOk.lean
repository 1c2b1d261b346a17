/- Valid water: from the test to its bounds. -/
import Derived.Test.YtcfijidlbimckaaDoorClean
set_option linter.unusedSimpArgs false
set_option linter.unusedVariables false
namespace Go.Proofs.YtcfijidlbimckaaDoor
open Go.RowKit
theorem all_of_any {α : Type} {p : α → Bool} {xs : List α} (h : (xs.any fun x => !p x) = false) (d : α) {i : Nat} (hi : i < xs.length) : p (xs.getD i d) = true := by
  rw [List.any_eq_false] at h
  have := h _ (getD_mem (d := d) hi)
  simpa using this
theorem watB_ok {d : Wat} (h : watB d = true) : WOk d := by
  unfold watB at h
  simp only [Bool.and_eq_true, Bool.not_eq_true', wB_true] at h
  obtain ⟨⟨h1, h2⟩, h3, h4, h5, h6, h7⟩ := h
  unfold smpsB at h7
  simp only [Bool.and_eq_true, Bool.not_eq_true', decide_eq_true_eq] at h7
  refine ⟨by omega, by omega, by omega, fun i hi => ?_, fun i hi => ?_, h4, h5, h6⟩
  · have := all_of_any h7.2 zeroSmp hi
    unfold mixB at this
    exact wB_true.1 this
  · have := all_of_any h3 zeroSpr hi
    unfold sprB at this
    simp only [Bool.and_eq_true, decide_eq_true_eq, wB_true] at this
    exact ⟨this.1, this.2.1, this.2.2.1, this.2.2.2.1, this.2.2.2.2⟩
theorem mem_possL {d : Wat} {S t : Nat} : t ∈ possL d S ↔ t < 2 ^ d.spr.length ∧ posB d S t = true := by
  unfold possL; rw [List.mem_filter, List.mem_range]
theorem mem_truthsL {d : Wat} {t : Nat} : t ∈ truthsL d ↔ t < 2 ^ d.spr.length ∧ posB d (2 ^ d.smp.length - 1) t = true := mem_possL
theorem WOk.p2 {d : Wat} (h : WOk d) : 2 ^ d.spr.length ≤ 256 := by
  have := h.p256
  have h2 : 0 < 2 ^ d.spr.length := Nat.two_pow_pos _
  omega
theorem truths_lt {d : Wat} (h : WOk d) : ∀ t ∈ truthsL d, t < 256 := fun t ht => Nat.lt_of_lt_of_le (mem_truthsL.1 ht).1 h.p2
theorem truths_len {d : Wat} (h : WOk d) : (truthsL d).length ≤ 256 := by
  unfold truthsL possL
  exact Nat.le_trans (List.length_filter_le _ _) (by rw [List.length_range]; exact h.p2)
/-- The error of a function with no argument but the water. -/
def watE (d : Wat) : Int := if watB d = true then if truthsL d = [] then 3 else 0 else 40
def tlI (d : Wat) : List Int := if watB d = true then (truthsL d).map Int.ofNat else []
set_option maxHeartbeats 1000000 in
theorem nothing_any (d : Wat) (A : WA) (T : Value) (w : World) :
    Calls Tryd.prog 44 (#[fval d A T] ++ #[]) w fun e w' => e = .returned (.bool true) ∧ Ext w w' := by
  obtain ⟨spr, most, miss, al, smp⟩ := d
  obtain ⟨SA, sc, MA, mc⟩ := A
  unfold fval fcells
  dsimp only
  go_enter Tryd.func44, Tryd.ntmps44
  go_wp2
  go_ret
  exact ⟨rfl, by (repeat' (first | with_reducible assumption | with_reducible exact Ext.refl _ | with_reducible refine Ext.alloc ?_ _ | with_reducible refine Ext.set ?_ ?_ _ | with_reducible refine Ext.drew ?_ | with_reducible refine Ext.drewN ?_ _ | with_reducible refine Ext.trans ?_ (by assumption) | (dsimp only; omega)))⟩
end Go.Proofs.YtcfijidlbimckaaDoor
