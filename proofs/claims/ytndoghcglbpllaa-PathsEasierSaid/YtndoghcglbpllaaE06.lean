/- Slices of numbers that grow by append. -/
import Derived.Test.YtndoghcglbpllaaE02
import Derived.Test.YtndoghcglbpllaaE05
import Derived.Laws.AppendOwn
import Derived.Test.YtndoghcglbpllaaE01
set_option linter.unusedSimpArgs false
set_option linter.unusedVariables false
namespace Go.Proofs.Ytndoghcglbpllaa
open Go.RowKit
def OwnAt (w : World) (B : Nat) (v : Value) (xs : List Int) : Prop := w.ownsRow B 3 1 v xs.length (ints xs)
theorem OwnAt.nil (w : World) (B : Nat) : OwnAt w B (.slice none 0 0) [] := ⟨rfl, .inl ⟨rfl, rfl⟩⟩
theorem OwnAt.keep {w w' : World} {B : Nat} {v : Value} {xs : List Int} (h : OwnAt w B v xs) (hk : ∀ (q : Nat) (o : Obj), w.heap[q]? = some o → w'.heap[q]? = some o) : OwnAt w' B v xs := by
  obtain ⟨h1, h2⟩ := h
  refine ⟨h1, ?_⟩
  rcases h2 with h2 | ⟨g, cap, cur, a1, a2, a3, a4⟩
  · exact .inl h2
  · exact .inr ⟨g, cap, cur, a1, a2, hk _ _ a3, a4⟩
theorem OwnAt.ext {w w' : World} {B : Nat} {v : Value} {xs : List Int} (h : OwnAt w B v xs) (e : Ext w w') : OwnAt w' B v xs := h.keep fun _ _ ho => blk_ext ho e
theorem OwnAt.block {w : World} {B : Nat} {v : Value} {xs : List Int} (h : OwnAt w B v xs) : ∀ q, v.ownBlock = some q → B ≤ q := by
  intro q hq
  rcases h.2 with ⟨h2, _⟩ | ⟨g, cap, cur, a1, a2, _⟩
  · rw [h2] at hq; cases hq
  · rw [a1] at hq
    cases hq
    exact a2
theorem OwnAt.form {w : World} {B : Nat} {v : Value} {xs : List Int} (h : OwnAt w B v xs) : ∃ A c, v = .slice A xs.length c ∧ IntsAt w A xs := by
  by_cases h0 : 0 < xs.length
  · obtain ⟨g, cap, h1, _, h2⟩ := row_of_own h h0
    exact ⟨_, _, h1, h2.ints⟩
  · have hx : xs = [] := List.length_eq_zero_iff.1 (by omega)
    subst hx
    rcases h.2 with ⟨h2, _⟩ | ⟨g, cap, cur, a1, _⟩
    · exact ⟨_, _, h2, fun hne => absurd rfl hne⟩
    · exact ⟨_, _, a1, fun hne => absurd rfl hne⟩
theorem grown_blk {B q : Nat} {o : Obj} {w w' : World} {row : Option Nat} (hq : q < B) (h : w.heap[q]? = some o) (hg : w.grownBy w' row) (hr : ∀ r, row = some r → B ≤ r) : w'.heap[q]? = some o :=
  (hg.block q (Array.getElem?_eq_some_iff.1 h).1 (fun e => by have := hr q e.symm; omega)).trans h
theorem grown_cell {B : Nat} {w w' W : World} {row : Option Nat} (h : ∀ b o, b < B → w.cell? ⟨b, o, none⟩ = W.cell? ⟨b, o, none⟩) (hB : B ≤ w.heap.size) (hg : w.grownBy w' row) (hr : ∀ r, row = some r → B ≤ r) : ∀ b o, b < B → w'.cell? ⟨b, o, none⟩ = W.cell? ⟨b, o, none⟩ :=
  fun b o hb => (World.cell?_of_block (hg.block b (by omega) (fun e => by have := hr b e.symm; omega))).trans (h b o hb)
theorem wp_append_ints {P : Program} {o : Oper} {a : Act} {K : Act → World → Prop} {Q : Exit → Act → World → Prop} (w : World) (hP : P = Try.prog) (s x : Operand)
    (ho : o.op = .call { callee := .builtin .append, args := #[s, x], argTypes := #[29, 29] }) (B : Nat) (v : Value) (xs : List Int) (hs : a.eval s = v) (hown : OwnAt w B v xs)
    (ad : Addr) (y : Int) (hx : a.eval x = .slice (some ad) 1 1) (hy : w.cell? ad = some (.int .i64 y)) (hl : xs.length ≤ 1000) (hB : B ≤ w.heap.size)
    (h : ∀ v' w', OwnAt w' B v' (xs ++ [y]) → w.grownBy w' v.ownBlock → K (a.put o.dst v') w') : o.wp P a w K Q := by
  subst hP
  obtain ⟨i0, hi, hz0, hz1, hz2⟩ := info_parts info3
  refine wp_append_own w s x 29 ho B 3 i0 (.int .i64 0) 1 8 Try.underlying29 hi hz0 hz1 hz2 rfl (by decide) v xs.length (ints xs) hs hown ad 1 1 [.int .i64 y] hx rfl (one_at hy) (one_one _) (by unfold maxLen; omega) (by omega) hB (fun v' w' h1 h2 _ => h v' w' ?_ h2)
  unfold OwnAt
  have e1 : (xs ++ [y]).length = xs.length + 1 := by simp
  have e2 : ints (xs ++ [y]) = ints xs ++ [.int .i64 y] := by simp [ints]
  rw [e1, e2]
  exact h1
end Go.Proofs.Ytndoghcglbpllaa
/- Rows of spans and of paths that a function has made. -/
set_option linter.unusedSimpArgs false
set_option linter.unusedVariables false
namespace Go.Proofs.Ytndoghcglbpllaa
open Go.RowKit
def zspan : Value := .agg #[.int .i64 0, .int .i64 0]
def zpath : Value := .agg #[.int .i64 0, .int .i64 0, .int .i64 0, .int .i64 0, .int .i64 0, .int .i64 0, .int .i64 0, .slice none 0 0]
theorem infoSpan : (Try.prog.info? 26).map (fun i => (i.zero, i.size, i.bytes)) = some (some zspan, 2, 16) := by kernel_rfl
theorem infoPath : (Try.prog.info? 56).map (fun i => (i.zero, i.size, i.bytes)) = some (some zpath, 8, 80) := by kernel_rfl
def spanCells (os : List (Int × Int)) : List Value := os.flatMap fun o => [.int .i64 o.1, .int .i64 o.2]
theorem spanCells_len (os : List (Int × Int)) : (spanCells os).length = os.length * 2 := by
  induction os with
  | nil => rfl
  | cons o os ih => simp only [spanCells, List.flatMap_cons, List.length_append, List.length_cons, List.length_nil] at ih ⊢; omega
theorem spanCells_at : ∀ (os : List (Int × Int)) (k : Nat), k < os.length → (spanCells os)[k * 2]? = some (.int .i64 (os.getD k (0, 0)).1) ∧ (spanCells os)[k * 2 + 1]? = some (.int .i64 (os.getD k (0, 0)).2)
  | [], k, h => by simp at h
  | o :: os, 0, _ => ⟨rfl, rfl⟩
  | o :: os, k + 1, h => by
    have ih := spanCells_at os k (by simpa using h)
    have e : spanCells (o :: os) = [.int .i64 o.1, .int .i64 o.2] ++ spanCells os := rfl
    have h2 : (o :: os).getD (k + 1) (0, 0) = os.getD k (0, 0) := by simp [List.getD]
    rw [e, h2]
    refine ⟨?_, ?_⟩
    · rw [List.getElem?_append_right (by simp; omega)]
      rw [show (k + 1) * 2 - [Value.int .i64 o.1, .int .i64 o.2].length = k * 2 by simp; omega]
      exact ih.1
    · rw [List.getElem?_append_right (by simp; omega)]
      rw [show (k + 1) * 2 + 1 - [Value.int .i64 o.1, .int .i64 o.2].length = k * 2 + 1 by simp; omega]
      exact ih.2
theorem spanCells_one (os : List (Int × Int)) : ∀ u ∈ spanCells os, u.oneCell' = true := by
  intro u hu
  simp only [spanCells, List.mem_flatMap, List.mem_cons, List.not_mem_nil, or_false] at hu
  obtain ⟨o, _, rfl | rfl⟩ := hu <;> rfl
theorem OpensAt.cells {w : World} {b off : Nat} {os : List (Int × Int)} (h : ∀ k, k < os.length → w.cell? ⟨b, off + k * 2, none⟩ = some (.int .i64 (os.getD k (0, 0)).1) ∧ w.cell? ⟨b, off + k * 2 + 1, none⟩ = some (.int .i64 (os.getD k (0, 0)).2)) :
    ∀ j u, (spanCells os)[j]? = some u → w.cell? ((⟨b, off, none⟩ : Addr).add j) = some u := by
  intro j u hj
  have hlt := (List.getElem?_eq_some_iff.1 hj).1
  rw [spanCells_len] at hlt
  have hadd : (⟨b, off, none⟩ : Addr).add j = ⟨b, off + j, none⟩ := by
    unfold Addr.add
    split
    · rename_i h0; subst h0; rfl
    · rfl
  rw [hadd]
  have hk : j = j / 2 * 2 ∨ j = j / 2 * 2 + 1 := by omega
  have h1 := h (j / 2) (by omega)
  have h2 := spanCells_at os (j / 2) (by omega)
  rcases hk with hk | hk
  · rw [hk] at hj ⊢
    rw [h2.1] at hj
    rw [← Option.some.inj hj]
    exact h1.1
  · rw [hk] at hj ⊢
    rw [h2.2] at hj
    rw [← Option.some.inj hj]
    exact h1.2
/-- A slice of spans that was made. -/
def SpansOwn (w : World) (B : Nat) (A : Option Addr) (c : Nat) (os : List (Int × Int)) : Prop := w.ownsRow B 26 2 (.slice A os.length c) os.length (spanCells os)
theorem cell_of_heap {w : World} {g i : Nat} {cur : Array Value} {e : TypeId} {u : Value} (h : w.heap[g]? = some (.cells cur e (0, 0))) (hu : cur.toList[i]? = some u) : w.cell? ⟨g, i, none⟩ = some u := by
  have := blk_cell h i
  rw [this]
  simpa using hu
theorem SpansOwn.opens {w : World} {B : Nat} {A : Option Addr} {c : Nat} {os : List (Int × Int)} (h : SpansOwn w B A c os) : OpensAt w A os ∧ os.length ≤ c ∧ (os ≠ [] → ∃ b, A = some ⟨b, 0, none⟩ ∧ B ≤ b) := by
  obtain ⟨h1, h2⟩ := h
  rcases h2 with ⟨h2, h3⟩ | ⟨g, cap, cur, a1, a2, a3, a4, a5, a6, a7⟩
  · have : os = [] := List.length_eq_zero_iff.1 h3
    subst this
    exact ⟨fun hne => absurd rfl hne, by simp, fun hne => absurd rfl hne⟩
  · injection a1 with e1 e2 e3
    subst e1 e3
    refine ⟨fun _ => ⟨g, 0, rfl, (Array.getElem?_eq_some_iff.1 a3).1, fun k hk => ?_⟩, a4, fun _ => ⟨g, rfl, a2⟩⟩
    have h4 := spanCells_at os k hk
    have tk : ∀ i u, (spanCells os)[i]? = some u → cur.toList[i]? = some u := fun i u hu => by
      have hlt := (List.getElem?_eq_some_iff.1 hu).1
      rw [spanCells_len] at hlt
      rw [← a7, List.getElem?_take_of_lt hlt] at hu
      exact hu
    rw [Nat.zero_add]
    exact ⟨cell_of_heap a3 (tk _ _ h4.1), cell_of_heap a3 (tk _ _ h4.2)⟩
theorem SpansOwn.keep {w w' : World} {B : Nat} {A : Option Addr} {c : Nat} {os : List (Int × Int)} (h : SpansOwn w B A c os) (hk : ∀ (q : Nat) (cs : Array Value), w.heap[q]? = some (.cells cs 26 (0, 0)) → w'.heap[q]? = some (.cells cs 26 (0, 0))) : SpansOwn w' B A c os := by
  obtain ⟨h1, h2⟩ := h
  refine ⟨h1, ?_⟩
  rcases h2 with h2 | ⟨g, cap, cur, a1, a2, a3, a4⟩
  · exact .inl h2
  · exact .inr ⟨g, cap, cur, a1, a2, hk _ _ a3, a4⟩
/-- A slice of paths that was made, each with spans that were made. -/
def CopyRow (w : World) (B : Nat) (v : Value) (ps : List Pt) (k : Nat) : Prop :=
  ∃ xs : List Value, w.ownsRow B 56 8 v k xs ∧ ∀ j, j < k → ∃ A c, (∀ i, i < 8 → xs[j * 8 + i]? = (pcellsL (ps.getD j zeroPt) A c)[i]?) ∧ SpansOwn w B A c (ps.getD j zeroPt).opens
theorem CopyRow.nil (w : World) (B : Nat) (ps : List Pt) : CopyRow w B (.slice none 0 0) ps 0 := ⟨[], ⟨rfl, .inl ⟨rfl, rfl⟩⟩, fun j hj => by omega⟩
theorem CopyRow.ext {w w' : World} {B : Nat} {v : Value} {ps : List Pt} {k : Nat} (h : CopyRow w B v ps k) (e : Ext w w') : CopyRow w' B v ps k := by
  obtain ⟨xs, ⟨h1, h2⟩, h3⟩ := h
  refine ⟨xs, ⟨h1, ?_⟩, fun j hj => ?_⟩
  · rcases h2 with h2 | ⟨g, cap, cur, a1, a2, a3, a4⟩
    · exact .inl h2
    · exact .inr ⟨g, cap, cur, a1, a2, blk_ext a3 e, a4⟩
  · obtain ⟨A, c, h4, h5⟩ := h3 j hj
    exact ⟨A, c, h4, h5.keep fun q cs hq => blk_ext hq e⟩
theorem CopyRow.block {w : World} {B : Nat} {v : Value} {ps : List Pt} {k : Nat} (h : CopyRow w B v ps k) : ∀ q, v.ownBlock = some q → B ≤ q ∧ ∃ cs, w.heap[q]? = some (.cells cs 56 (0, 0)) := by
  intro q hq
  obtain ⟨xs, ⟨h1, h2⟩, h3⟩ := h
  rcases h2 with ⟨h2, _⟩ | ⟨g, cap, cur, a1, a2, a3, _⟩
  · rw [h2] at hq; cases hq
  · rw [a1] at hq
    cases hq
    exact ⟨a2, _, a3⟩
/-- One path more. -/
theorem CopyRow.snoc {w w' : World} {B : Nat} {v v' : Value} {ps : List Pt} {k : Nat} (h : CopyRow w B v ps k) {xs : List Value} (hx : ∀ j, j < k → ∃ A c, (∀ i, i < 8 → xs[j * 8 + i]? = (pcellsL (ps.getD j zeroPt) A c)[i]?) ∧ SpansOwn w B A c (ps.getD j zeroPt).opens) (hxl : xs.length = k * 8)
    (hg : w.grownBy w' v.ownBlock) {A : Option Addr} {c : Nat} (ho : w'.ownsRow B 56 8 v' (k + 1) (xs ++ pcellsL (ps.getD k zeroPt) A c)) (hs : SpansOwn w B A c (ps.getD k zeroPt).opens) : CopyRow w' B v' ps (k + 1) := by
  have hkeep : ∀ (q : Nat) (cs : Array Value), w.heap[q]? = some (.cells cs 26 (0, 0)) → w'.heap[q]? = some (.cells cs 26 (0, 0)) := fun q cs hq => (hg.block q (Array.getElem?_eq_some_iff.1 hq).1 (fun e => by
    obtain ⟨_, cs', h'⟩ := h.block q e.symm
    rw [hq] at h'
    injection h' with h'
    injection h' with _ h' _
    exact absurd h' (by decide))).trans hq
  refine ⟨_, ho, fun j hj => ?_⟩
  by_cases hjk : j < k
  · obtain ⟨A', c', h4, h5⟩ := hx j hjk
    refine ⟨A', c', fun i hi => ?_, h5.keep hkeep⟩
    rw [List.getElem?_append_left (by omega)]
    exact h4 i hi
  · obtain rfl : j = k := by omega
    refine ⟨A, c, fun i hi => ?_, hs.keep hkeep⟩
    rw [List.getElem?_append_right (by omega)]
    congr 1
    omega
theorem CopyRow.paths {w : World} {B : Nat} {v : Value} {ps : List Pt} {n : Nat} (h : CopyRow w B v ps n) (hn : ps.length = n) : ∃ A c, v = .slice A n c ∧ PathsAt w A ps := by
  obtain ⟨xs, ⟨h1, h2⟩, h3⟩ := h
  rcases h2 with ⟨h2, h4⟩ | ⟨g, cap, cur, a1, a2, a3, a4, a5, a6, a7⟩
  · subst h4
    exact ⟨_, _, h2, fun hne => absurd (List.length_eq_zero_iff.1 hn) hne⟩
  · refine ⟨_, _, a1, fun _ => ⟨g, 0, rfl, (Array.getElem?_eq_some_iff.1 a3).1, fun k hk => ?_⟩⟩
    obtain ⟨A, c, h4, h5⟩ := h3 k (by omega)
    have hcell : ∀ i u, i < 8 → (pcellsL (ps.getD k zeroPt) A c)[i]? = some u → w.cell? ⟨g, 0 + k * 8 + i, none⟩ = some u := fun i u hi hu => by
      rw [← h4 i hi, ← a7, List.getElem?_take_of_lt (by omega)] at hu
      rw [Nat.zero_add]
      exact cell_of_heap a3 hu
    obtain ⟨o1, o2, _⟩ := h5.opens
    exact ⟨A, c, hcell 0 _ (by omega) rfl, hcell 1 _ (by omega) rfl, hcell 2 _ (by omega) rfl, hcell 3 _ (by omega) rfl, hcell 4 _ (by omega) rfl, hcell 5 _ (by omega) rfl, hcell 6 _ (by omega) rfl, hcell 7 _ (by omega) rfl, o2, o1⟩
theorem pcells_one (p : Pt) (A : Option Addr) (c : Nat) : ∀ u ∈ pcellsL p A c, u.oneCell' = true := by
  intro u hu
  simp only [pcellsL, List.mem_cons, List.not_mem_nil, or_false] at hu
  rcases hu with rfl | rfl | rfl | rfl | rfl | rfl | rfl | rfl <;> rfl
theorem blk_add {w : World} {g : Nat} {cs : Array Value} {e : TypeId} (h : w.heap[g]? = some (.cells cs e (0, 0))) : ∀ j u, cs.toList[j]? = some u → w.cell? ((⟨g, 0, none⟩ : Addr).add j) = some u := by
  intro j u hj
  have hadd : (⟨g, 0, none⟩ : Addr).add j = ⟨g, 0 + j, none⟩ := by
    unfold Addr.add
    split
    · rename_i h0; subst h0; rfl
    · rfl
  rw [hadd, Nat.zero_add]
  exact cell_of_heap h hj
end Go.Proofs.Ytndoghcglbpllaa
/- Appending spans to an empty slice. -/
set_option linter.unusedSimpArgs false
set_option linter.unusedVariables false
namespace Go.Proofs.Ytndoghcglbpllaa
open Go.RowKit
theorem run_append_nothing (z : Nat) (A : Option Addr) (c : Nat) (ty : TypeId) (w : World) : (Builtin.append_ #[54, 54] ty #[.slice (some ⟨z, 0, none⟩) 0 0, .slice A 0 c]).run Try.prog w = .ok (.slice (some ⟨z, 0, none⟩) 0 0) w := by
  obtain ⟨i0, hi, hz0, hz1, hz2⟩ := info_parts infoSpan
  cases A with
  | none => simp [Builtin.append_, run_underlying Try.underlying54, sizeOf, typeInfo, hi, Builtin.lenOf, Builtin.firstCells, loadCells, loadCellsFrom, storeCells]
  | some ad => simp [Builtin.append_, run_underlying Try.underlying54, sizeOf, typeInfo, hi, Builtin.lenOf, Builtin.firstCells, loadCells, loadCellsFrom, storeCells]
theorem wp_append_spans {P : Program} {o : Oper} {a : Act} {K : Act → World → Prop} {Q : Exit → Act → World → Prop} (w : World) (hP : P = Try.prog) (s x : Operand)
    (ho : o.op = .call { callee := .builtin .append, args := #[s, x], argTypes := #[54, 54] }) (B z : Nat) (A : Option Addr) (c : Nat) (os : List (Int × Int)) (hs : a.eval s = .slice (some ⟨z, 0, none⟩) 0 0) (hz : w.heap[z]? = some (.cells #[] 26 (0, 0))) (hBz : B ≤ z)
    (hx : a.eval x = .slice A os.length c) (hO : OpensAt w A os) (hl : os.length ≤ 1000)
    (h : ∀ A' c' w', SpansOwn w' B A' c' os → w.grownBy w' (some z) → K (a.put o.dst (.slice A' os.length c')) w') : o.wp P a w K Q := by
  subst hP
  have hlt := (Array.getElem?_eq_some_iff.1 hz).1
  by_cases h0 : os = []
  · subst h0
    have hr := run_append_nothing z A c o.type w
    unfold Oper.wp execOp
    simp only [ho, resolve, invoke, builtin, Sem.run_bind, Sem.run_pure, Result.andThen_ok, List.map_toArray, List.map_cons, List.map_nil, hs, hx, List.length_nil, hr]
    exact h (some ⟨z, 0, none⟩) 0 w ⟨rfl, .inr ⟨z, 0, #[], rfl, hBz, hz, Nat.le_refl _, Nat.zero_le _, rfl, rfl⟩⟩ ⟨rfl, rfl, rfl, Nat.le_refl _, fun _ _ _ => rfl⟩
  · obtain ⟨b, off, rfl, hb, hc⟩ := hO h0
    obtain ⟨i0, hi, hz0, hz1, hz2⟩ := info_parts infoSpan
    refine wp_append_own w s x 54 ho B 26 i0 zspan 2 16 Try.underlying54 hi hz0 hz1 hz2 rfl (by decide) (.slice (some ⟨z, 0, none⟩) 0 0) 0 [] hs ⟨rfl, .inr ⟨z, 0, #[], rfl, hBz, hz, Nat.le_refl _, Nat.zero_le _, rfl, rfl⟩⟩ ⟨b, off, none⟩ os.length c (spanCells os) hx (spanCells_len os) (OpensAt.cells hc) (spanCells_one os) (by unfold maxLen; omega) (by omega) (by omega) (fun v' w' h1 h2 h3 => ?_)
    rw [Nat.zero_add, List.nil_append] at h1
    have hpos : 0 < os.length := List.length_pos_iff.2 h0
    rcases h1.2 with ⟨_, h4⟩ | ⟨g, cap, cur, rfl, _⟩
    · omega
    · exact h (some ⟨g, 0, none⟩) cap w' h1 h2
theorem wpList_append_spans {P : Program} {ops : Array Oper} {rest : List Oper} {o : Oper} {a : Act} {Q : Exit → Act → World → Prop} (w : World) (hP : P = Try.prog) (hgd : o.guard = none) (s x : Operand)
    (ho : o.op = .call { callee := .builtin .append, args := #[s, x], argTypes := #[54, 54] }) (B z : Nat) (A : Option Addr) (c : Nat) (os : List (Int × Int)) (hs : a.eval s = .slice (some ⟨z, 0, none⟩) 0 0) (hz : w.heap[z]? = some (.cells #[] 26 (0, 0))) (hBz : B ≤ z)
    (hx : a.eval x = .slice A os.length c) (hO : OpensAt w A os) (hl : os.length ≤ 1000)
    (h : ∀ A' c' w', SpansOwn w' B A' c' os → w.grownBy w' (some z) → wpList P ops Q rest (a.put o.dst (.slice A' os.length c')) w') : wpList P ops Q (o :: rest) a w :=
  wpList_plain hgd fun _ hK => wp_append_spans w hP s x ho B z A c os hs hz hBz hx hO hl fun A' c' w' h1 h2 => hK _ _ (h A' c' w' h1 h2)
theorem wpList_append_path {P : Program} {ops : Array Oper} {rest : List Oper} {o : Oper} {a : Act} {Q : Exit → Act → World → Prop} (w : World) (hP : P = Try.prog) (hgd : o.guard = none) (s x : Operand)
    (ho : o.op = .call { callee := .builtin .append, args := #[s, x], argTypes := #[22, 22] }) (B : Nat) (v : Value) (ps : List Pt) (k : Nat) (hs : a.eval s = v) (hv : CopyRow w B v ps k) (hB : B ≤ w.heap.size) (hk : k ≤ 1000)
    (g : Nat) (A : Option Addr) (c : Nat) (hx : a.eval x = .slice (some ⟨g, 0, none⟩) 1 1) (hg : w.heap[g]? = some (.cells (pcellsL (ps.getD k zeroPt) A c).toArray 56 (0, 0))) (hso : SpansOwn w B A c (ps.getD k zeroPt).opens)
    (h : ∀ v' w', CopyRow w' B v' ps (k + 1) → w.grownBy w' v.ownBlock → wpList P ops Q rest (a.put o.dst v') w') : wpList P ops Q (o :: rest) a w := by
  subst hP
  obtain ⟨i0, hi, hz0, hz1, hz2⟩ := info_parts infoPath
  obtain ⟨xs, hown, hxs⟩ := id hv
  refine wpList_append_own w hgd s x 22 ho B 56 i0 zpath 8 80 Try.underlying22 hi hz0 hz1 hz2 rfl (by decide) v k xs hs hown ⟨g, 0, none⟩ 1 1 (pcellsL (ps.getD k zeroPt) A c) hx rfl (blk_add hg) (pcells_one _ _ _) (by unfold maxLen; omega) (by omega) hB (fun v' w' h1 h2 _ => h v' w' (hv.snoc hxs hown.1 h2 h1 hso) h2)
theorem SpansOwn.set {w : World} {B : Nat} {A : Option Addr} {c : Nat} {os : List (Int × Int)} (h : SpansOwn w B A c os) {X : Nat} {cs : Array Value} (hX : w.heap[X]? = some (.cells cs 56 (0, 0))) (i : Nat) (u : Value) : SpansOwn (w.setCell ⟨X, i, none⟩ u) B A c os :=
  h.keep fun q cs' hq => (Below.heap_setCell w ⟨X, i, none⟩ u q (fun e => by
    have e' : q = X := e
    subst e'
    rw [hq] at hX
    injection hX with hX
    injection hX with _ hX _
    exact absurd hX (by decide))).trans hq
theorem CopyRow.keepB {w w' : World} {B : Nat} {v : Value} {ps : List Pt} {k : Nat} (h : CopyRow w B v ps k) (hk : ∀ (q : Nat) (o : Obj), B ≤ q → w.heap[q]? = some o → w'.heap[q]? = some o) : CopyRow w' B v ps k := by
  obtain ⟨xs, ⟨h1, h2⟩, h3⟩ := h
  refine ⟨xs, ⟨h1, ?_⟩, fun j hj => ?_⟩
  · rcases h2 with h2 | ⟨g, cap, cur, a1, a2, a3, a4⟩
    · exact .inl h2
    · exact .inr ⟨g, cap, cur, a1, a2, hk _ _ a2 a3, a4⟩
  · obtain ⟨A, c, h4, ⟨h5, h6⟩⟩ := h3 j hj
    refine ⟨A, c, h4, h5, ?_⟩
    rcases h6 with h6 | ⟨g, cap, cur, a1, a2, a3, a4⟩
    · exact .inl h6
    · exact .inr ⟨g, cap, cur, a1, a2, hk _ _ a2 a3, a4⟩
theorem CopyRow.form {w : World} {B : Nat} {v : Value} {ps : List Pt} {k : Nat} (h : CopyRow w B v ps k) : ∃ A c, v = .slice A k c := by
  obtain ⟨xs, ⟨h1, h2⟩, h3⟩ := h
  rcases h2 with ⟨h2, h4⟩ | ⟨g, cap, cur, a1, _⟩
  · subst h4; exact ⟨_, _, h2⟩
  · exact ⟨_, _, a1⟩
end Go.Proofs.Ytndoghcglbpllaa
