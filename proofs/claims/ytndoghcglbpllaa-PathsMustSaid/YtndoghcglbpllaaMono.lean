/- Who starts later does not arrive sooner. -/
import Derived.Test.YtndoghcglbpllaaArr
set_option linter.unusedSimpArgs false
set_option linter.unusedVariables false
namespace Go.Proofs.Ytndoghcglbpllaa
open Go.RowKit
theorem enter_mono {os : List (Int × Int)} : ∀ {f f' t t' : Int}, f ≤ f' → t ≤ t' → enter f os t ≤ enter f' os t' := by
  unfold enter
  induction os with
  | nil => intro f f' t t' h _; simpa using h
  | cons o os ih =>
    intro f f' t t' h ht
    simp only [List.foldl_cons]
    refine ih ?_ ht
    unfold enterStep
    split <;> split <;> omega
theorem arrive_mono (sel : Int → Int → Int) (l pl ph : Int) (p : Pt) {t t' : Int} (h : t ≤ t') : arrive sel l pl ph p t ≤ arrive sel l pl ph p t' := by
  have := enter_mono (os := p.opens) (Int.le_refl 2881) h
  unfold arrive
  omega
def LeRow (xs ys : List Int) : Prop := xs.length = ys.length ∧ ∀ k, xs.getD k 0 ≤ ys.getD k 0
theorem LeRow.refl (xs : List Int) : LeRow xs xs := ⟨rfl, fun _ => Int.le_refl _⟩
theorem getD_set (xs : List Int) (i : Nat) (v : Int) (k : Nat) : (xs.set i v).getD k 0 = if i = k ∧ k < xs.length then v else xs.getD k 0 := by
  simp only [List.getD, List.getElem?_set]
  by_cases h : i = k
  · subst h
    by_cases hl : i < xs.length
    · simp [hl]
    · simp [hl]
  · simp [h]
theorem LeRow.set {xs ys : List Int} (h : LeRow xs ys) (i : Nat) {u v : Int} (huv : u ≤ v) : LeRow (xs.set i u) (ys.set i v) := by
  refine ⟨by simpa using h.1, fun k => ?_⟩
  rw [getD_set, getD_set, h.1]
  have := h.2 k
  split <;> omega
theorem pmFold_mono (sel : Int → Int → Int) (l pl ph : Int) (ps : List Pt) {low low' : List Int} (hl : LeRow low low') (is : List Nat) : LeRow (pmFold sel l pl ph ps low is) (pmFold sel l pl ph ps low' is) := by
  unfold pmFold
  suffices h : ∀ acc acc', LeRow acc acc' → LeRow (is.foldl (pmStep sel l pl ph ps low) acc) (is.foldl (pmStep sel l pl ph ps low') acc') from h _ _ hl
  induction is with
  | nil => intro acc acc' h; exact h
  | cons i is ih =>
    intro acc acc' h
    simp only [List.foldl_cons]
    refine ih _ _ ?_
    unfold pmStep
    refine h.set _ ?_
    have h1 := h.2 (ps.getD i zeroPt).dst.toNat
    have h2 := arrive_mono sel l pl ph (ps.getD i zeroPt) (hl.2 (ps.getD i zeroPt).frm.toNat)
    omega
theorem rows_mono (sel : Int → Int → Int) (g l pl ph : Int) (ps : List Pt) (m from_ : Nat) {s s' : Int} (h : s ≤ s') : ∀ k, LeRow (rows sel g l pl ph ps m from_ s k) (rows sel g l pl ph ps m from_ s' k)
  | 0 => (LeRow.refl _).set _ h
  | k + 1 => pmFold_mono sel l pl ph ps (rows_mono sel g l pl ph ps m from_ h k) _
end Go.Proofs.Ytndoghcglbpllaa
