/- No arrival is before the start. -/
import Derived.Test.YtndoghcglbpllaaMono
import Derived.Test.YtndoghcglbpllaaLatest
set_option linter.unusedSimpArgs false
set_option linter.unusedVariables false
namespace Go.Proofs.Ytndoghcglbpllaa
open Go.RowKit
theorem enter_ge {t : Int} (os : List (Int × Int)) : ∀ {f : Int}, t ≤ f → t ≤ enter f os t := by
  unfold enter
  induction os with
  | nil => intro f h; exact h
  | cons o os ih =>
    intro f h
    rw [List.foldl_cons]
    refine ih ?_
    unfold enterStep
    split <;> omega
theorem arrive_ge {l pl ph : Int} (ha : PaOk l pl ph) {p : Pt} (hp : PtOk p) {t : Int} (ht : t ≤ 2881) : t ≤ arrive selHi l pl ph p t := by
  obtain ⟨t1, t2, t3, s1, s2, s3, hos⟩ := hp
  obtain ⟨p1, p2, p3, l1, l2⟩ := ha
  have h1 := enter_ge p.opens ht
  have ⟨b3, b4⟩ := timeOf_bd (t := p.th) (p := ph) (s := p.sh) (by omega) t3 (by omega) p3 (by omega) s3 l1 l2
  unfold arrive selHi
  omega
def GeRow (m : Nat) (s : Int) (xs : List Int) : Prop := xs.length = m ∧ ∀ k, k < m → s ≤ xs.getD k 0
theorem ge_set {m : Nat} {s : Int} {xs : List Int} (h : GeRow m s xs) (i : Nat) {u : Int} (hu : s ≤ u) : GeRow m s (xs.set i u) :=
  ⟨by rw [List.length_set]; exact h.1, fun k hk => by
    rw [getD_set]
    split
    · exact hu
    · exact h.2 k hk⟩
theorem rows_ge {g l pl ph : Int} (ha : PaOk l pl ph) {m : Nat} {ps : List Pt} (hN : NOk m ps) {from_ : Nat} {start : Int} (h0 : 0 ≤ start) (h1 : start ≤ 2881) : ∀ k, GeRow m start (rows selHi g l pl ph ps m from_ start k)
  | 0 => ge_set ⟨by simp, fun k hk => by simp [List.getD, hk]; omega⟩ _ (Int.le_refl _)
  | k + 1 => by
    have ih := rows_ge (g := g) ha hN (from_ := from_) h0 h1 k
    have hbd := rows_bd selHi_pos (g := g) ha hN (from_ := from_) h0 h1 k
    unfold rows pmFold
    revert ih hbd
    generalize rows selHi g l pl ph ps m from_ start k = low
    intro ih hbd
    suffices h : ∀ (is : List Nat), (∀ i ∈ is, i < ps.length) → ∀ acc : List Int, GeRow m start acc → GeRow m start (is.foldl (pmStep selHi l pl ph ps low) acc) from h _ (fun _ h => walkIdx_mem h) low ih
    intro is
    induction is with
    | nil => intro _ acc h; exact h
    | cons i is ih2 =>
      intro hi acc h
      rw [List.foldl_cons]
      refine ih2 (fun j hj => hi j (List.mem_cons_of_mem _ hj)) _ ?_
      have hil := hi i List.mem_cons_self
      have hd := hN.dst i hil
      have hf := hN.frm i hil
      have h1 := h.2 (ps.getD i zeroPt).dst.toNat (by omega)
      have h2 := ih.2 (ps.getD i zeroPt).frm.toNat (by omega)
      have h2' := hbd.2 (ps.getD i zeroPt).frm.toNat (by omega)
      have h3 := arrive_ge ha (hN.ok i hil) h2'.2
      exact ge_set h _ (by omega)
end Go.Proofs.Ytndoghcglbpllaa
