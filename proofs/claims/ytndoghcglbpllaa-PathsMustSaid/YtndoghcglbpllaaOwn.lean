/- Slices of numbers that grow by append. -/
import Derived.Test.YtndoghcglbpllaaRepeat
import Derived.Test.YtndoghcglbpllaaPMore
import Derived.Laws.AppendOwn
set_option linter.unusedSimpArgs false
set_option linter.unusedVariables false
namespace Go.Proofs.Ytndoghcglbpllaa
open Go.RowKit
def OwnAt (w : World) (B : Nat) (v : Value) (xs : List Int) : Prop := w.ownsRow B 3 1 v xs.length (ints xs)
theorem OwnAt.nil (w : World) (B : Nat) : OwnAt w B (.slice none 0 0) [] := ⟨rfl, .inl ⟨rfl, rfl⟩⟩
theorem OwnAt.keep {w w' : World} {B : Nat} {v : Value} {xs : List Int} (h : OwnAt w B v xs) (hk : ∀ (q : Nat) (o : Obj), w.heap[q]? = some o → w'.heap[q]? = some o) : OwnAt w' B v xs := by
  obtain ⟨h1, h2⟩ := h
  refine ⟨h1, ?_⟩
  rcases h2 with h2 | ⟨g, cap, cur, a1, a2, a3, a4⟩
  · exact .inl h2
  · exact .inr ⟨g, cap, cur, a1, a2, hk _ _ a3, a4⟩
theorem OwnAt.ext {w w' : World} {B : Nat} {v : Value} {xs : List Int} (h : OwnAt w B v xs) (e : Ext w w') : OwnAt w' B v xs := h.keep fun _ _ ho => blk_ext ho e
theorem OwnAt.block {w : World} {B : Nat} {v : Value} {xs : List Int} (h : OwnAt w B v xs) : ∀ q, v.ownBlock = some q → B ≤ q := by
  intro q hq
  rcases h.2 with ⟨h2, _⟩ | ⟨g, cap, cur, a1, a2, _⟩
  · rw [h2] at hq; cases hq
  · rw [a1] at hq
    cases hq
    exact a2
theorem OwnAt.form {w : World} {B : Nat} {v : Value} {xs : List Int} (h : OwnAt w B v xs) : ∃ A c, v = .slice A xs.length c ∧ IntsAt w A xs := by
  by_cases h0 : 0 < xs.length
  · obtain ⟨g, cap, h1, _, h2⟩ := row_of_own h h0
    exact ⟨_, _, h1, h2.ints⟩
  · have hx : xs = [] := List.length_eq_zero_iff.1 (by omega)
    subst hx
    rcases h.2 with ⟨h2, _⟩ | ⟨g, cap, cur, a1, _⟩
    · exact ⟨_, _, h2, fun hne => absurd rfl hne⟩
    · exact ⟨_, _, a1, fun hne => absurd rfl hne⟩
theorem grown_blk {B q : Nat} {o : Obj} {w w' : World} {row : Option Nat} (hq : q < B) (h : w.heap[q]? = some o) (hg : w.grownBy w' row) (hr : ∀ r, row = some r → B ≤ r) : w'.heap[q]? = some o :=
  (hg.block q (Array.getElem?_eq_some_iff.1 h).1 (fun e => by have := hr q e.symm; omega)).trans h
theorem grown_cell {B : Nat} {w w' W : World} {row : Option Nat} (h : ∀ b o, b < B → w.cell? ⟨b, o, none⟩ = W.cell? ⟨b, o, none⟩) (hB : B ≤ w.heap.size) (hg : w.grownBy w' row) (hr : ∀ r, row = some r → B ≤ r) : ∀ b o, b < B → w'.cell? ⟨b, o, none⟩ = W.cell? ⟨b, o, none⟩ :=
  fun b o hb => (World.cell?_of_block (hg.block b (by omega) (fun e => by have := hr b e.symm; omega))).trans (h b o hb)
theorem wp_append_ints {P : Program} {o : Oper} {a : Act} {K : Act → World → Prop} {Q : Exit → Act → World → Prop} (w : World) (hP : P = Try.prog) (s x : Operand)
    (ho : o.op = .call { callee := .builtin .append, args := #[s, x], argTypes := #[29, 29] }) (B : Nat) (v : Value) (xs : List Int) (hs : a.eval s = v) (hown : OwnAt w B v xs)
    (ad : Addr) (y : Int) (hx : a.eval x = .slice (some ad) 1 1) (hy : w.cell? ad = some (.int .i64 y)) (hl : xs.length ≤ 1000) (hB : B ≤ w.heap.size)
    (h : ∀ v' w', OwnAt w' B v' (xs ++ [y]) → w.grownBy w' v.ownBlock → K (a.put o.dst v') w') : o.wp P a w K Q := by
  subst hP
  obtain ⟨i0, hi, hz0, hz1, hz2⟩ := info_parts info3
  refine wp_append_own w s x 29 ho B 3 i0 (.int .i64 0) 1 8 Try.underlying29 hi hz0 hz1 hz2 rfl (by decide) v xs.length (ints xs) hs hown ad 1 1 [.int .i64 y] hx rfl (one_at hy) (one_one _) (by unfold maxLen; omega) (by omega) hB (fun v' w' h1 h2 _ => h v' w' ?_ h2)
  unfold OwnAt
  have e1 : (xs ++ [y]).length = xs.length + 1 := by simp
  have e2 : ints (xs ++ [y]) = ints xs ++ [.int .i64 y] := by simp [ints]
  rw [e1, e2]
  exact h1
end Go.Proofs.Ytndoghcglbpllaa
