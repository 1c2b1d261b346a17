/- Rows of spans and of paths that a function has made. -/
import Derived.Test.YtndoghcglbpllaaOwn
import Derived.Test.YtndoghcglbpllaaOpen
set_option linter.unusedSimpArgs false
set_option linter.unusedVariables false
namespace Go.Proofs.Ytndoghcglbpllaa
open Go.RowKit
def zspan : Value := .agg #[.int .i64 0, .int .i64 0]
def zpath : Value := .agg #[.int .i64 0, .int .i64 0, .int .i64 0, .int .i64 0, .int .i64 0, .int .i64 0, .int .i64 0, .slice none 0 0]
theorem infoSpan : (Try.prog.info? 26).map (fun i => (i.zero, i.size, i.bytes)) = some (some zspan, 2, 16) := by kernel_rfl
theorem infoPath : (Try.prog.info? 56).map (fun i => (i.zero, i.size, i.bytes)) = some (some zpath, 8, 80) := by kernel_rfl
def spanCells (os : List (Int × Int)) : List Value := os.flatMap fun o => [.int .i64 o.1, .int .i64 o.2]
theorem spanCells_len (os : List (Int × Int)) : (spanCells os).length = os.length * 2 := by
  induction os with
  | nil => rfl
  | cons o os ih => simp only [spanCells, List.flatMap_cons, List.length_append, List.length_cons, List.length_nil] at ih ⊢; omega
theorem spanCells_at : ∀ (os : List (Int × Int)) (k : Nat), k < os.length → (spanCells os)[k * 2]? = some (.int .i64 (os.getD k (0, 0)).1) ∧ (spanCells os)[k * 2 + 1]? = some (.int .i64 (os.getD k (0, 0)).2)
  | [], k, h => by simp at h
  | o :: os, 0, _ => ⟨rfl, rfl⟩
  | o :: os, k + 1, h => by
    have ih := spanCells_at os k (by simpa using h)
    have e : spanCells (o :: os) = [.int .i64 o.1, .int .i64 o.2] ++ spanCells os := rfl
    have h2 : (o :: os).getD (k + 1) (0, 0) = os.getD k (0, 0) := by simp [List.getD]
    rw [e, h2]
    refine ⟨?_, ?_⟩
    · rw [List.getElem?_append_right (by simp; omega)]
      rw [show (k + 1) * 2 - [Value.int .i64 o.1, .int .i64 o.2].length = k * 2 by simp; omega]
      exact ih.1
    · rw [List.getElem?_append_right (by simp; omega)]
      rw [show (k + 1) * 2 + 1 - [Value.int .i64 o.1, .int .i64 o.2].length = k * 2 + 1 by simp; omega]
      exact ih.2
theorem spanCells_one (os : List (Int × Int)) : ∀ u ∈ spanCells os, u.oneCell' = true := by
  intro u hu
  simp only [spanCells, List.mem_flatMap, List.mem_cons, List.not_mem_nil, or_false] at hu
  obtain ⟨o, _, rfl | rfl⟩ := hu <;> rfl
theorem OpensAt.cells {w : World} {b off : Nat} {os : List (Int × Int)} (h : ∀ k, k < os.length → w.cell? ⟨b, off + k * 2, none⟩ = some (.int .i64 (os.getD k (0, 0)).1) ∧ w.cell? ⟨b, off + k * 2 + 1, none⟩ = some (.int .i64 (os.getD k (0, 0)).2)) :
    ∀ j u, (spanCells os)[j]? = some u → w.cell? ((⟨b, off, none⟩ : Addr).add j) = some u := by
  intro j u hj
  have hlt := (List.getElem?_eq_some_iff.1 hj).1
  rw [spanCells_len] at hlt
  have hadd : (⟨b, off, none⟩ : Addr).add j = ⟨b, off + j, none⟩ := by
    unfold Addr.add
    split
    · rename_i h0; subst h0; rfl
    · rfl
  rw [hadd]
  have hk : j = j / 2 * 2 ∨ j = j / 2 * 2 + 1 := by omega
  have h1 := h (j / 2) (by omega)
  have h2 := spanCells_at os (j / 2) (by omega)
  rcases hk with hk | hk
  · rw [hk] at hj ⊢
    rw [h2.1] at hj
    rw [← Option.some.inj hj]
    exact h1.1
  · rw [hk] at hj ⊢
    rw [h2.2] at hj
    rw [← Option.some.inj hj]
    exact h1.2
/-- A slice of spans that was made. -/
def SpansOwn (w : World) (B : Nat) (A : Option Addr) (c : Nat) (os : List (Int × Int)) : Prop := w.ownsRow B 26 2 (.slice A os.length c) os.length (spanCells os)
theorem cell_of_heap {w : World} {g i : Nat} {cur : Array Value} {e : TypeId} {u : Value} (h : w.heap[g]? = some (.cells cur e (0, 0))) (hu : cur.toList[i]? = some u) : w.cell? ⟨g, i, none⟩ = some u := by
  have := blk_cell h i
  rw [this]
  simpa using hu
theorem SpansOwn.opens {w : World} {B : Nat} {A : Option Addr} {c : Nat} {os : List (Int × Int)} (h : SpansOwn w B A c os) : OpensAt w A os ∧ os.length ≤ c ∧ (os ≠ [] → ∃ b, A = some ⟨b, 0, none⟩ ∧ B ≤ b) := by
  obtain ⟨h1, h2⟩ := h
  rcases h2 with ⟨h2, h3⟩ | ⟨g, cap, cur, a1, a2, a3, a4, a5, a6, a7⟩
  · have : os = [] := List.length_eq_zero_iff.1 h3
    subst this
    exact ⟨fun hne => absurd rfl hne, by simp, fun hne => absurd rfl hne⟩
  · injection a1 with e1 e2 e3
    subst e1 e3
    refine ⟨fun _ => ⟨g, 0, rfl, (Array.getElem?_eq_some_iff.1 a3).1, fun k hk => ?_⟩, a4, fun _ => ⟨g, rfl, a2⟩⟩
    have h4 := spanCells_at os k hk
    have tk : ∀ i u, (spanCells os)[i]? = some u → cur.toList[i]? = some u := fun i u hu => by
      have hlt := (List.getElem?_eq_some_iff.1 hu).1
      rw [spanCells_len] at hlt
      rw [← a7, List.getElem?_take_of_lt hlt] at hu
      exact hu
    rw [Nat.zero_add]
    exact ⟨cell_of_heap a3 (tk _ _ h4.1), cell_of_heap a3 (tk _ _ h4.2)⟩
theorem SpansOwn.keep {w w' : World} {B : Nat} {A : Option Addr} {c : Nat} {os : List (Int × Int)} (h : SpansOwn w B A c os) (hk : ∀ (q : Nat) (cs : Array Value), w.heap[q]? = some (.cells cs 26 (0, 0)) → w'.heap[q]? = some (.cells cs 26 (0, 0))) : SpansOwn w' B A c os := by
  obtain ⟨h1, h2⟩ := h
  refine ⟨h1, ?_⟩
  rcases h2 with h2 | ⟨g, cap, cur, a1, a2, a3, a4⟩
  · exact .inl h2
  · exact .inr ⟨g, cap, cur, a1, a2, hk _ _ a3, a4⟩
/-- A slice of paths that was made, each with spans that were made. -/
def CopyRow (w : World) (B : Nat) (v : Value) (ps : List Pt) (k : Nat) : Prop :=
  ∃ xs : List Value, w.ownsRow B 56 8 v k xs ∧ ∀ j, j < k → ∃ A c, (∀ i, i < 8 → xs[j * 8 + i]? = (pcellsL (ps.getD j zeroPt) A c)[i]?) ∧ SpansOwn w B A c (ps.getD j zeroPt).opens
theorem CopyRow.nil (w : World) (B : Nat) (ps : List Pt) : CopyRow w B (.slice none 0 0) ps 0 := ⟨[], ⟨rfl, .inl ⟨rfl, rfl⟩⟩, fun j hj => by omega⟩
theorem CopyRow.ext {w w' : World} {B : Nat} {v : Value} {ps : List Pt} {k : Nat} (h : CopyRow w B v ps k) (e : Ext w w') : CopyRow w' B v ps k := by
  obtain ⟨xs, ⟨h1, h2⟩, h3⟩ := h
  refine ⟨xs, ⟨h1, ?_⟩, fun j hj => ?_⟩
  · rcases h2 with h2 | ⟨g, cap, cur, a1, a2, a3, a4⟩
    · exact .inl h2
    · exact .inr ⟨g, cap, cur, a1, a2, blk_ext a3 e, a4⟩
  · obtain ⟨A, c, h4, h5⟩ := h3 j hj
    exact ⟨A, c, h4, h5.keep fun q cs hq => blk_ext hq e⟩
theorem CopyRow.block {w : World} {B : Nat} {v : Value} {ps : List Pt} {k : Nat} (h : CopyRow w B v ps k) : ∀ q, v.ownBlock = some q → B ≤ q ∧ ∃ cs, w.heap[q]? = some (.cells cs 56 (0, 0)) := by
  intro q hq
  obtain ⟨xs, ⟨h1, h2⟩, h3⟩ := h
  rcases h2 with ⟨h2, _⟩ | ⟨g, cap, cur, a1, a2, a3, _⟩
  · rw [h2] at hq; cases hq
  · rw [a1] at hq
    cases hq
    exact ⟨a2, _, a3⟩
/-- One path more. -/
theorem CopyRow.snoc {w w' : World} {B : Nat} {v v' : Value} {ps : List Pt} {k : Nat} (h : CopyRow w B v ps k) {xs : List Value} (hx : ∀ j, j < k → ∃ A c, (∀ i, i < 8 → xs[j * 8 + i]? = (pcellsL (ps.getD j zeroPt) A c)[i]?) ∧ SpansOwn w B A c (ps.getD j zeroPt).opens) (hxl : xs.length = k * 8)
    (hg : w.grownBy w' v.ownBlock) {A : Option Addr} {c : Nat} (ho : w'.ownsRow B 56 8 v' (k + 1) (xs ++ pcellsL (ps.getD k zeroPt) A c)) (hs : SpansOwn w B A c (ps.getD k zeroPt).opens) : CopyRow w' B v' ps (k + 1) := by
  have hkeep : ∀ (q : Nat) (cs : Array Value), w.heap[q]? = some (.cells cs 26 (0, 0)) → w'.heap[q]? = some (.cells cs 26 (0, 0)) := fun q cs hq => (hg.block q (Array.getElem?_eq_some_iff.1 hq).1 (fun e => by
    obtain ⟨_, cs', h'⟩ := h.block q e.symm
    rw [hq] at h'
    injection h' with h'
    injection h' with _ h' _
    exact absurd h' (by decide))).trans hq
  refine ⟨_, ho, fun j hj => ?_⟩
  by_cases hjk : j < k
  · obtain ⟨A', c', h4, h5⟩ := hx j hjk
    refine ⟨A', c', fun i hi => ?_, h5.keep hkeep⟩
    rw [List.getElem?_append_left (by omega)]
    exact h4 i hi
  · obtain rfl : j = k := by omega
    refine ⟨A, c, fun i hi => ?_, hs.keep hkeep⟩
    rw [List.getElem?_append_right (by omega)]
    congr 1
    omega
theorem CopyRow.paths {w : World} {B : Nat} {v : Value} {ps : List Pt} {n : Nat} (h : CopyRow w B v ps n) (hn : ps.length = n) : ∃ A c, v = .slice A n c ∧ PathsAt w A ps := by
  obtain ⟨xs, ⟨h1, h2⟩, h3⟩ := h
  rcases h2 with ⟨h2, h4⟩ | ⟨g, cap, cur, a1, a2, a3, a4, a5, a6, a7⟩
  · subst h4
    exact ⟨_, _, h2, fun hne => absurd (List.length_eq_zero_iff.1 hn) hne⟩
  · refine ⟨_, _, a1, fun _ => ⟨g, 0, rfl, (Array.getElem?_eq_some_iff.1 a3).1, fun k hk => ?_⟩⟩
    obtain ⟨A, c, h4, h5⟩ := h3 k (by omega)
    have hcell : ∀ i u, i < 8 → (pcellsL (ps.getD k zeroPt) A c)[i]? = some u → w.cell? ⟨g, 0 + k * 8 + i, none⟩ = some u := fun i u hi hu => by
      rw [← h4 i hi, ← a7, List.getElem?_take_of_lt (by omega)] at hu
      rw [Nat.zero_add]
      exact cell_of_heap a3 hu
    obtain ⟨o1, o2, _⟩ := h5.opens
    exact ⟨A, c, hcell 0 _ (by omega) rfl, hcell 1 _ (by omega) rfl, hcell 2 _ (by omega) rfl, hcell 3 _ (by omega) rfl, hcell 4 _ (by omega) rfl, hcell 5 _ (by omega) rfl, hcell 6 _ (by omega) rfl, hcell 7 _ (by omega) rfl, o2, o1⟩
theorem pcells_one (p : Pt) (A : Option Addr) (c : Nat) : ∀ u ∈ pcellsL p A c, u.oneCell' = true := by
  intro u hu
  simp only [pcellsL, List.mem_cons, List.not_mem_nil, or_false] at hu
  rcases hu with rfl | rfl | rfl | rfl | rfl | rfl | rfl | rfl <;> rfl
theorem blk_add {w : World} {g : Nat} {cs : Array Value} {e : TypeId} (h : w.heap[g]? = some (.cells cs e (0, 0))) : ∀ j u, cs.toList[j]? = some u → w.cell? ((⟨g, 0, none⟩ : Addr).add j) = some u := by
  intro j u hj
  have hadd : (⟨g, 0, none⟩ : Addr).add j = ⟨g, 0 + j, none⟩ := by
    unfold Addr.add
    split
    · rename_i h0; subst h0; rfl
    · rfl
  rw [hadd, Nat.zero_add]
  exact cell_of_heap h hj
end Go.Proofs.Ytndoghcglbpllaa
