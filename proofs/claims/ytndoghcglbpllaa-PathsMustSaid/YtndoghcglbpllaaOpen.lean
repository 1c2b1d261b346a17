/- Nets as arguments: opened to their cells. -/
import Derived.Test.YtndoghcglbpllaaBase
import Derived.Deep.Slices
import Derived.Deep.Fields
import Derived.ChangeSame
set_option linter.unusedSimpArgs false
set_option linter.unusedVariables false
namespace Go.Proofs.Ytndoghcglbpllaa
open Go.RowKit
open Go.ChangeShapes Go.WideShapes Go.Deep
theorem exists_list {α : Type} (d : α) (P : Nat → α → Prop) : ∀ n, (∀ i, i < n → ∃ x, P i x) → ∃ xs : List α, xs.length = n ∧ ∀ i, i < n → P i (xs.getD i d)
  | 0, _ => ⟨[], rfl, fun i hi => by omega⟩
  | n + 1, h => by
    obtain ⟨xs, hl, hx⟩ := exists_list d P n (fun i hi => h i (by omega))
    obtain ⟨x, hp⟩ := h n (by omega)
    refine ⟨xs ++ [x], by simp [hl], fun i hi => ?_⟩
    by_cases hin : i < n
    · have := hx i hin
      rwa [List.getD_eq_getElem?_getD, List.getElem?_append_left (by omega), ← List.getD_eq_getElem?_getD]
    · obtain rfl : i = n := by omega
      rw [List.getD_eq_getElem?_getD, List.getElem?_append_right (by omega), hl, Nat.sub_self]
      exact hp
theorem add_cell {w : World} {a : Addr} {n : Nat} {v : Value} (h : w.cell? (a.add n) = some v) : w.cell? ⟨a.block, a.off + n, none⟩ = some v ∧ a.block < w.heap.size := by
  have hb : a.block < w.heap.size := by
    unfold World.cell? at h
    split at h
    · rename_i hh
      have := (Array.getElem?_eq_some_iff.1 hh).1
      rwa [show (a.add n).block = a.block by unfold Addr.add; split <;> rfl] at this
    · cases h
  refine ⟨?_, hb⟩
  unfold Addr.add at h
  split at h
  · rename_i hn
    subst hn
    obtain ⟨b, o, s⟩ := a
    cases s with
    | none => simpa using h
    | some s => unfold World.cell? at h; split at h <;> simp at h
  · exact h
def pcellsL (p : Pt) (A : Option Addr) (c : Nat) : List Value := [.int .i64 p.frm, .int .i64 p.dst, .int .i64 p.grade, .int .i64 p.tl, .int .i64 p.th, .int .i64 p.sl, .int .i64 p.sh, .slice A p.opens.length c]
theorem cellsPath : Try.prog.cellsOf 56 = 8 := by kernel_rfl
theorem cellsOpens : Try.prog.cellsOf 54 = 1 := by kernel_rfl
theorem cellsSpan : Try.prog.cellsOf 26 = 2 := by kernel_rfl
theorem cellsInt : Try.prog.cellsOf 3 = 1 := by kernel_rfl
section
variable {H : Type} {enc : TypeId × Value → H} {w : World} {base : Nat} {spare : Nat → Bool} {held : Bool}
set_option maxRecDepth 100000 in
theorem open_spans {fuel : Nat} {cs : List Value} {x : DataW H × List MemPlace} (h : DataW.trod enc Try.prog w base spare held fuel 54 cs = some x) :
    ∃ A os c, cs = [.slice A os.length c] ∧ os.length ≤ c ∧ OpensAt w A os := by
  rcases open_slice Try.underlying54 h with ⟨rfl, _⟩ | ⟨a, len, cap, m, n, D, Pl, rfl, hb, hl, hm, hmm, hx, hi⟩
  · exact ⟨none, [], 0, rfl, Nat.le_refl _, fun h => absurd rfl h⟩
  · have hlm : len ≤ m := by rw [hmm]; split <;> omega
    have hel : ∀ i, i < len → ∃ o : Int × Int, (w.cell? ⟨a.block, a.off + i * 2, none⟩ = some (.int .i64 o.1) ∧ w.cell? ⟨a.block, a.off + i * 2 + 1, none⟩ = some (.int .i64 o.2)) ∧ a.block < w.heap.size := fun i hil => by
      obtain ⟨cs', hc, ht⟩ := hi i (by omega)
      rw [cellsSpan] at hc
      obtain ⟨_, hl2, hat⟩ := World.cells?_some hc
      obtain ⟨y0, y1, n', _, _, h0, h1⟩ := trod_struct2 Try.underlying26 ht
      obtain ⟨u, e0, _, _⟩ := DataW.trod_int Try.underlying3 h0
      obtain ⟨v, e1, _, _⟩ := DataW.trod_int Try.underlying3 h1
      rw [cellsInt] at e0 e1
      match cs', hl2 with
      | [p, q], _ =>
        simp at e0 e1
        subst e0 e1
        have a0 := hat 0 (by omega)
        have a1 := hat 1 (by omega)
        rw [Go.Deep.add_add] at a0 a1
        have b0 := add_cell a0
        have b1 := add_cell a1
        exact ⟨(u, v), ⟨b0.1, by rw [Nat.add_assoc]; exact b1.1⟩, b0.2⟩
    obtain ⟨os, ho, hos⟩ := exists_list ((0, 0) : Int × Int) _ len hel
    subst ho
    exact ⟨some a, os, cap, rfl, hl, fun hne => by
      have h0 : 0 < os.length := List.length_pos_iff.2 hne
      have hb0 := (hos 0 h0).2
      have hsp : a = ⟨a.block, a.off, none⟩ := by
        obtain ⟨cs', hc, ht⟩ := hi 0 (by omega)
        obtain ⟨_, hl2, hat⟩ := World.cells?_some hc
        rw [cellsSpan] at hat hl2
        have a0 := hat 0 (by omega)
        obtain ⟨b, o, sp⟩ := a
        cases sp with
        | none => rfl
        | some sp =>
          exfalso
          have hn : cs'[0]? ≠ none := by rw [List.getElem?_eq_getElem (by omega)]; simp
          apply hn
          rw [← a0]
          simp only [Nat.zero_mul, Addr.add, if_true]
          unfold World.cell?
          split <;> simp
      exact ⟨a.block, a.off, by rw [← hsp], hb0, fun k hk => (hos k hk).1⟩⟩
theorem some_of_len {α : Type} {xs : List α} {n : Nat} (h : xs.length = n) {k : Nat} (hk : k < n) : ∃ y, xs[k]? = some y := ⟨_, List.getElem?_eq_getElem (by omega)⟩
set_option maxRecDepth 100000 in
theorem open_path {fuel : Nat} {cs : List Value} {x : DataW H × List MemPlace} (h : DataW.trod enc Try.prog w base spare held fuel 56 cs = some x) :
    ∃ p A c, cs = (pcellsL p A c) ∧ p.opens.length ≤ c ∧ OpensAt w A p.opens := by
  obtain ⟨ys, n', hn', hy, hlen, hyl, hf⟩ := DataW.trod_struct Try.underlying56 h
  have h0 : DataW.trod enc Try.prog w base spare held n' 3 ((cs.drop 0).take (Try.prog.cellsOf 3)) = ys[0]? := hf 0 _ rfl
  obtain ⟨y0, e0⟩ := some_of_len hyl (k := 0) (by simp)
  rw [e0, cellsInt] at h0
  have h1 : DataW.trod enc Try.prog w base spare held n' 3 ((cs.drop 1).take (Try.prog.cellsOf 3)) = ys[1]? := hf 1 _ rfl
  obtain ⟨y1, e1⟩ := some_of_len hyl (k := 1) (by simp)
  rw [e1, cellsInt] at h1
  have h2 : DataW.trod enc Try.prog w base spare held n' 3 ((cs.drop 2).take (Try.prog.cellsOf 3)) = ys[2]? := hf 2 _ rfl
  obtain ⟨y2, e2⟩ := some_of_len hyl (k := 2) (by simp)
  rw [e2, cellsInt] at h2
  have h3 : DataW.trod enc Try.prog w base spare held n' 26 ((cs.drop 3).take (Try.prog.cellsOf 26)) = ys[3]? := hf 3 _ rfl
  obtain ⟨y3, e3⟩ := some_of_len hyl (k := 3) (by simp)
  rw [e3, cellsSpan] at h3
  have h4 : DataW.trod enc Try.prog w base spare held n' 26 ((cs.drop 5).take (Try.prog.cellsOf 26)) = ys[4]? := hf 4 _ rfl
  obtain ⟨y4, e4⟩ := some_of_len hyl (k := 4) (by simp)
  rw [e4, cellsSpan] at h4
  have h5 : DataW.trod enc Try.prog w base spare held n' 54 ((cs.drop 7).take (Try.prog.cellsOf 54)) = ys[5]? := hf 5 _ rfl
  obtain ⟨y5, e5⟩ := some_of_len hyl (k := 5) (by simp)
  rw [e5, cellsOpens] at h5
  rw [cellsPath] at hlen
  match cs, hlen with
  | [c0, c1, c2, c3, c4, c5, c6, c7], _ =>
    simp only [List.drop_zero, List.drop_succ_cons, List.take_succ_cons, List.take_zero] at h0 h1 h2 h3 h4 h5
    obtain ⟨f, g0, _, _⟩ := DataW.trod_int Try.underlying3 h0
    obtain ⟨d, g1, _, _⟩ := DataW.trod_int Try.underlying3 h1
    obtain ⟨g, g2, _, _⟩ := DataW.trod_int Try.underlying3 h2
    obtain ⟨a3, b3, _, _, _, i3, j3⟩ := trod_struct2 Try.underlying26 h3
    obtain ⟨a4, b4, _, _, _, i4, j4⟩ := trod_struct2 Try.underlying26 h4
    rw [cellsInt] at i3 j3 i4 j4
    simp only [List.drop_zero, List.drop_succ_cons, List.take_succ_cons, List.take_zero] at i3 j3 i4 j4
    obtain ⟨tl, g3, _, _⟩ := DataW.trod_int Try.underlying3 i3
    obtain ⟨th, g4, _, _⟩ := DataW.trod_int Try.underlying3 j3
    obtain ⟨sl, g5, _, _⟩ := DataW.trod_int Try.underlying3 i4
    obtain ⟨sh, g6, _, _⟩ := DataW.trod_int Try.underlying3 j4
    obtain ⟨A, os, c, g7, hle, hos⟩ := open_spans h5
    simp only [List.cons.injEq, and_true] at g0 g1 g2 g3 g4 g5 g6 g7
    subst g0 g1 g2 g3 g4 g5 g6 g7
    exact ⟨⟨f, d, g, tl, th, sl, sh, os⟩, A, c, rfl, hle, hos⟩
set_option maxRecDepth 100000 in
theorem open_paths {fuel : Nat} {cs : List Value} {x : DataW H × List MemPlace} (h : DataW.trod enc Try.prog w base spare held fuel 22 cs = some x) :
    ∃ A ps c, cs = [.slice A ps.length c] ∧ ps.length ≤ c ∧ PathsAt w A ps := by
  rcases open_slice Try.underlying22 h with ⟨rfl, _⟩ | ⟨a, len, cap, m, n, D, Pl, rfl, hb, hl, hm, hmm, hx, hi⟩
  · exact ⟨none, [], 0, rfl, Nat.le_refl _, fun h => absurd rfl h⟩
  · have hlm : len ≤ m := by rw [hmm]; split <;> omega
    have hel : ∀ i, i < len → ∃ p : Pt, (∃ A' c', PtAt w a.block (a.off + i * 8) p A' c') ∧ a.block < w.heap.size ∧ (i = 0 → a = ⟨a.block, a.off, none⟩) := fun i hil => by
      obtain ⟨cs', hc, ht⟩ := hi i (by omega)
      rw [cellsPath] at hc
      obtain ⟨_, hl2, hat⟩ := World.cells?_some hc
      obtain ⟨p, A', c', rfl, hle, hos⟩ := open_path ht
      have hk : ∀ k v, (pcellsL p A' c')[k]? = some v → k < 8 → w.cell? ⟨a.block, a.off + i * 8 + k, none⟩ = some v ∧ a.block < w.heap.size := fun k v hv hk8 => by
        have h0 := (hat k hk8).trans hv
        rw [Go.Deep.add_add] at h0
        have h1 := add_cell h0
        exact ⟨by rw [Nat.add_assoc]; exact h1.1, h1.2⟩
      refine ⟨p, ⟨A', c', (hk 0 _ rfl (by omega)).1, (hk 1 _ rfl (by omega)).1, (hk 2 _ rfl (by omega)).1, (hk 3 _ rfl (by omega)).1, (hk 4 _ rfl (by omega)).1, (hk 5 _ rfl (by omega)).1, (hk 6 _ rfl (by omega)).1, (hk 7 _ rfl (by omega)).1, hle, hos⟩, (hk 0 _ rfl (by omega)).2, fun hi0 => ?_⟩
      subst hi0
      have a0 : w.cell? ((a.add (0 * 8)).add 0) = some (.int .i64 p.frm) := hat 0 (by omega)
      obtain ⟨b, o, sp⟩ := a
      cases sp with
      | none => rfl
      | some sp =>
        exfalso
        simp only [Nat.zero_mul, Addr.add, if_true] at a0
        unfold World.cell? at a0
        split at a0 <;> simp at a0
    obtain ⟨ps, ho, hps⟩ := exists_list zeroPt _ len hel
    subst ho
    exact ⟨some a, ps, cap, rfl, hl, fun hne => by
      have h0 : 0 < ps.length := List.length_pos_iff.2 hne
      exact ⟨a.block, a.off, by rw [← (hps 0 h0).2.2 rfl], (hps 0 h0).2.1, fun k hk => (hps k hk).1⟩⟩
end
end Go.Proofs.Ytndoghcglbpllaa
