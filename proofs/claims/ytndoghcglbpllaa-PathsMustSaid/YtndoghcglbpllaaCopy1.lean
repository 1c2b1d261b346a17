/- Appending spans to an empty slice. -/
import Derived.Test.YtndoghcglbpllaaCopy0
set_option linter.unusedSimpArgs false
set_option linter.unusedVariables false
namespace Go.Proofs.Ytndoghcglbpllaa
open Go.RowKit
theorem run_append_nothing (z : Nat) (A : Option Addr) (c : Nat) (ty : TypeId) (w : World) : (Builtin.append_ #[54, 54] ty #[.slice (some ⟨z, 0, none⟩) 0 0, .slice A 0 c]).run Try.prog w = .ok (.slice (some ⟨z, 0, none⟩) 0 0) w := by
  obtain ⟨i0, hi, hz0, hz1, hz2⟩ := info_parts infoSpan
  cases A with
  | none => simp [Builtin.append_, run_underlying Try.underlying54, sizeOf, typeInfo, hi, Builtin.lenOf, Builtin.firstCells, loadCells, loadCellsFrom, storeCells]
  | some ad => simp [Builtin.append_, run_underlying Try.underlying54, sizeOf, typeInfo, hi, Builtin.lenOf, Builtin.firstCells, loadCells, loadCellsFrom, storeCells]
theorem wp_append_spans {P : Program} {o : Oper} {a : Act} {K : Act → World → Prop} {Q : Exit → Act → World → Prop} (w : World) (hP : P = Try.prog) (s x : Operand)
    (ho : o.op = .call { callee := .builtin .append, args := #[s, x], argTypes := #[54, 54] }) (B z : Nat) (A : Option Addr) (c : Nat) (os : List (Int × Int)) (hs : a.eval s = .slice (some ⟨z, 0, none⟩) 0 0) (hz : w.heap[z]? = some (.cells #[] 26 (0, 0))) (hBz : B ≤ z)
    (hx : a.eval x = .slice A os.length c) (hO : OpensAt w A os) (hl : os.length ≤ 1000)
    (h : ∀ A' c' w', SpansOwn w' B A' c' os → w.grownBy w' (some z) → K (a.put o.dst (.slice A' os.length c')) w') : o.wp P a w K Q := by
  subst hP
  have hlt := (Array.getElem?_eq_some_iff.1 hz).1
  by_cases h0 : os = []
  · subst h0
    have hr := run_append_nothing z A c o.type w
    unfold Oper.wp execOp
    simp only [ho, resolve, invoke, builtin, Sem.run_bind, Sem.run_pure, Result.andThen_ok, List.map_toArray, List.map_cons, List.map_nil, hs, hx, List.length_nil, hr]
    exact h (some ⟨z, 0, none⟩) 0 w ⟨rfl, .inr ⟨z, 0, #[], rfl, hBz, hz, Nat.le_refl _, Nat.zero_le _, rfl, rfl⟩⟩ ⟨rfl, rfl, rfl, Nat.le_refl _, fun _ _ _ => rfl⟩
  · obtain ⟨b, off, rfl, hb, hc⟩ := hO h0
    obtain ⟨i0, hi, hz0, hz1, hz2⟩ := info_parts infoSpan
    refine wp_append_own w s x 54 ho B 26 i0 zspan 2 16 Try.underlying54 hi hz0 hz1 hz2 rfl (by decide) (.slice (some ⟨z, 0, none⟩) 0 0) 0 [] hs ⟨rfl, .inr ⟨z, 0, #[], rfl, hBz, hz, Nat.le_refl _, Nat.zero_le _, rfl, rfl⟩⟩ ⟨b, off, none⟩ os.length c (spanCells os) hx (spanCells_len os) (OpensAt.cells hc) (spanCells_one os) (by unfold maxLen; omega) (by omega) (by omega) (fun v' w' h1 h2 h3 => ?_)
    rw [Nat.zero_add, List.nil_append] at h1
    have hpos : 0 < os.length := List.length_pos_iff.2 h0
    rcases h1.2 with ⟨_, h4⟩ | ⟨g, cap, cur, rfl, _⟩
    · omega
    · exact h (some ⟨g, 0, none⟩) cap w' h1 h2
theorem wpList_append_spans {P : Program} {ops : Array Oper} {rest : List Oper} {o : Oper} {a : Act} {Q : Exit → Act → World → Prop} (w : World) (hP : P = Try.prog) (hgd : o.guard = none) (s x : Operand)
    (ho : o.op = .call { callee := .builtin .append, args := #[s, x], argTypes := #[54, 54] }) (B z : Nat) (A : Option Addr) (c : Nat) (os : List (Int × Int)) (hs : a.eval s = .slice (some ⟨z, 0, none⟩) 0 0) (hz : w.heap[z]? = some (.cells #[] 26 (0, 0))) (hBz : B ≤ z)
    (hx : a.eval x = .slice A os.length c) (hO : OpensAt w A os) (hl : os.length ≤ 1000)
    (h : ∀ A' c' w', SpansOwn w' B A' c' os → w.grownBy w' (some z) → wpList P ops Q rest (a.put o.dst (.slice A' os.length c')) w') : wpList P ops Q (o :: rest) a w :=
  wpList_plain hgd fun _ hK => wp_append_spans w hP s x ho B z A c os hs hz hBz hx hO hl fun A' c' w' h1 h2 => hK _ _ (h A' c' w' h1 h2)
theorem wpList_append_path {P : Program} {ops : Array Oper} {rest : List Oper} {o : Oper} {a : Act} {Q : Exit → Act → World → Prop} (w : World) (hP : P = Try.prog) (hgd : o.guard = none) (s x : Operand)
    (ho : o.op = .call { callee := .builtin .append, args := #[s, x], argTypes := #[22, 22] }) (B : Nat) (v : Value) (ps : List Pt) (k : Nat) (hs : a.eval s = v) (hv : CopyRow w B v ps k) (hB : B ≤ w.heap.size) (hk : k ≤ 1000)
    (g : Nat) (A : Option Addr) (c : Nat) (hx : a.eval x = .slice (some ⟨g, 0, none⟩) 1 1) (hg : w.heap[g]? = some (.cells (pcellsL (ps.getD k zeroPt) A c).toArray 56 (0, 0))) (hso : SpansOwn w B A c (ps.getD k zeroPt).opens)
    (h : ∀ v' w', CopyRow w' B v' ps (k + 1) → w.grownBy w' v.ownBlock → wpList P ops Q rest (a.put o.dst v') w') : wpList P ops Q (o :: rest) a w := by
  subst hP
  obtain ⟨i0, hi, hz0, hz1, hz2⟩ := info_parts infoPath
  obtain ⟨xs, hown, hxs⟩ := id hv
  refine wpList_append_own w hgd s x 22 ho B 56 i0 zpath 8 80 Try.underlying22 hi hz0 hz1 hz2 rfl (by decide) v k xs hs hown ⟨g, 0, none⟩ 1 1 (pcellsL (ps.getD k zeroPt) A c) hx rfl (blk_add hg) (pcells_one _ _ _) (by unfold maxLen; omega) (by omega) hB (fun v' w' h1 h2 _ => h v' w' (hv.snoc hxs hown.1 h2 h1 hso) h2)
theorem SpansOwn.set {w : World} {B : Nat} {A : Option Addr} {c : Nat} {os : List (Int × Int)} (h : SpansOwn w B A c os) {X : Nat} {cs : Array Value} (hX : w.heap[X]? = some (.cells cs 56 (0, 0))) (i : Nat) (u : Value) : SpansOwn (w.setCell ⟨X, i, none⟩ u) B A c os :=
  h.keep fun q cs' hq => (Below.heap_setCell w ⟨X, i, none⟩ u q (fun e => by
    have e' : q = X := e
    subst e'
    rw [hq] at hX
    injection hX with hX
    injection hX with _ hX _
    exact absurd hX (by decide))).trans hq
theorem CopyRow.keepB {w w' : World} {B : Nat} {v : Value} {ps : List Pt} {k : Nat} (h : CopyRow w B v ps k) (hk : ∀ (q : Nat) (o : Obj), B ≤ q → w.heap[q]? = some o → w'.heap[q]? = some o) : CopyRow w' B v ps k := by
  obtain ⟨xs, ⟨h1, h2⟩, h3⟩ := h
  refine ⟨xs, ⟨h1, ?_⟩, fun j hj => ?_⟩
  · rcases h2 with h2 | ⟨g, cap, cur, a1, a2, a3, a4⟩
    · exact .inl h2
    · exact .inr ⟨g, cap, cur, a1, a2, hk _ _ a2 a3, a4⟩
  · obtain ⟨A, c, h4, ⟨h5, h6⟩⟩ := h3 j hj
    refine ⟨A, c, h4, h5, ?_⟩
    rcases h6 with h6 | ⟨g, cap, cur, a1, a2, a3, a4⟩
    · exact .inl h6
    · exact .inr ⟨g, cap, cur, a1, a2, hk _ _ a2 a3, a4⟩
theorem CopyRow.form {w : World} {B : Nat} {v : Value} {ps : List Pt} {k : Nat} (h : CopyRow w B v ps k) : ∃ A c, v = .slice A k c := by
  obtain ⟨xs, ⟨h1, h2⟩, h3⟩ := h
  rcases h2 with ⟨h2, h4⟩ | ⟨g, cap, cur, a1, _⟩
  · subst h4; exact ⟨_, _, h2⟩
  · exact ⟨_, _, a1⟩
end Go.Proofs.Ytndoghcglbpllaa
