/- Posts as an argument: opened to their cells. -/
import Derived.Test.YtggggnjibedgaaaGreatB17
import Derived.WideShapes
set_option linter.unusedSimpArgs false
set_option linter.unusedVariables false
namespace Go.Proofs.YtggggnjibedgaaaGreat
open Go.RowKit
open Go.ChangeShapes Go.WideShapes Go.Deep Go.Joins
theorem cellsPost : Tryz.prog.cellsOf 95 = 3 := by kernel_rfl
section
variable {H : Type} {enc : TypeId × Value → H} {w : World} {base : Nat} {spare : Nat → Bool} {held : Bool}
set_option maxRecDepth 100000 in
theorem open_post {fuel : Nat} {cs : List Value} {x : DataW H × List MemPlace} (h : DataW.trod enc Tryz.prog w base spare held fuel 95 cs = some x) : ∃ o : Po, cs = [.int .i64 o.pos, .int .i64 o.sl, .int .i64 o.sh] := by
  obtain ⟨ys, n', hn', hy, hlen, hyl, hf⟩ := DataW.trod_struct Tryz.underlying95 h
  obtain ⟨y0, h0, _⟩ := field_of hyl hf 0 rfl (t := 3) (o := 0) rfl rfl cellsInt
  obtain ⟨y1, h1, _⟩ := field_of hyl hf 1 rfl (t := 33) (o := 1) rfl rfl cellsSpan
  rw [cellsPost] at hlen
  match cs, hlen with
  | [c0, c1, c2], _ =>
    simp only [List.drop_zero, List.drop_succ_cons, List.take_succ_cons, List.take_zero] at h0 h1
    obtain ⟨a0, g0, _, _⟩ := DataW.trod_int Tryz.underlying3 h0
    obtain ⟨_, _, _, _, _, i1, j1⟩ := trod_struct2 Tryz.underlying33 h1
    rw [cellsInt] at i1 j1
    simp only [List.drop_zero, List.drop_succ_cons, List.take_succ_cons, List.take_zero] at i1 j1
    obtain ⟨a1, g1, _, _⟩ := DataW.trod_int Tryz.underlying3 i1
    obtain ⟨a2, g2, _, _⟩ := DataW.trod_int Tryz.underlying3 j1
    simp only [List.cons.injEq, and_true] at g0 g1 g2
    subst g0 g1 g2
    exact ⟨⟨a0, a1, a2⟩, rfl⟩
set_option maxRecDepth 100000 in
theorem open_posts {fuel : Nat} {cs : List Value} {x : DataW H × List MemPlace} (h : DataW.trod enc Tryz.prog w base spare held fuel 61 cs = some x) :
    ∃ A os c, cs = [.slice A os.length c] ∧ os.length ≤ c ∧ PosAt w A os ∧ ∀ o : Po, o ∈ os → True := by
  rcases open_slice Tryz.underlying61 h with ⟨rfl, _⟩ | ⟨a, len, cap, m, n, D, Pl, rfl, hb, hl, hm, hmm, hx, hi⟩
  · exact ⟨none, [], 0, rfl, Nat.le_refl _, fun h => absurd rfl h, fun o ho => by cases ho⟩
  · have hlm : len ≤ m := by rw [hmm]; split <;> omega
    have hel : ∀ i, i < len → ∃ o : Po, PoAt w a.block (a.off + i * 3) o ∧ a.block < w.heap.size ∧ True := fun i hil => by
      obtain ⟨cs', hc, ht⟩ := hi i (by omega)
      rw [cellsPost] at hc
      obtain ⟨_, hl2, hat⟩ := World.cells?_some hc
      obtain ⟨o, rfl⟩ := open_post ht
      have hk : ∀ k v, ([.int .i64 o.pos, .int .i64 o.sl, .int .i64 o.sh] : List Value)[k]? = some v → k < 3 → w.cell? ⟨a.block, a.off + i * 3 + k, none⟩ = some v ∧ a.block < w.heap.size := fun k v hv hk8 => by
        have h0 := (hat k hk8).trans hv
        rw [Go.Deep.add_add] at h0
        have h1 := add_cell h0
        exact ⟨by rw [Nat.add_assoc]; exact h1.1, h1.2⟩
      exact ⟨o, ⟨(hk 0 _ rfl (by omega)).1, (hk 1 _ rfl (by omega)).1, (hk 2 _ rfl (by omega)).1⟩, (hk 0 _ rfl (by omega)).2, trivial⟩
    obtain ⟨os, ho, hos⟩ := exists_list zeroPo _ len hel
    subst ho
    refine ⟨some a, os, cap, rfl, hl, fun hne => ?_, fun o ho => ?_⟩
    · have h0 : 0 < os.length := List.length_pos_iff.2 hne
      have hb0 := (hos 0 h0).2.1
      have hsp : a = ⟨a.block, a.off, none⟩ := by
        obtain ⟨cs', hc, ht⟩ := hi 0 (by omega)
        obtain ⟨_, hl2, hat⟩ := World.cells?_some hc
        rw [cellsPost] at hat hl2
        exact addr_plain hl2 (by omega) hat
      exact ⟨a.block, a.off, by rw [← hsp], hb0, fun k hk => (hos k hk).1⟩
    · obtain ⟨i, hi', rfl⟩ := List.getElem_of_mem ho
      have h9 := (hos i hi').2.2
      have e9 : os.getD i zeroPo = os[i] := by simp [List.getD, List.getElem?_eq_getElem hi']
      first | trivial | (rw [e9] at h9; exact h9)
theorem cellsSlP : Tryz.prog.cellsOf 61 = 1 := by kernel_rfl
set_option maxRecDepth 100000 in
theorem open_argPosts {r : Reach} {b0 : Nat} {v : Value} {d : DataW H} {p : List MemPlace} (hv : Value.okWide Tryz.prog w r b0 61 v) (h : DataW.Trod enc Tryz.prog w base spare held 61 v d p) :
    ∃ A os c, v = .slice A (List.length os) c ∧ PosAt w A os := by
  obtain ⟨a, len, cap, rfl⟩ := okWide_slice Tryz.underlying61 hv
  obtain ⟨fuel, hf⟩ := h
  obtain ⟨A, xs, c, e, -, hs, -⟩ := open_posts hf
  have e' : [Value.slice a len cap] = [Value.slice A xs.length c] := e
  simp only [List.cons.injEq, and_true] at e'
  exact ⟨A, xs, c, e', hs⟩
end
end Go.Proofs.YtggggnjibedgaaaGreat
/- Posts with their slice's bound, and a sinking, as arguments: opened to their cells. -/
set_option linter.unusedSimpArgs false
set_option linter.unusedVariables false
namespace Go.Proofs.YtggggnjibedgaaaGreat
open Go.RowKit
open Go.ChangeShapes Go.WideShapes Go.Deep Go.Joins
theorem cellsSinking : Tryz.prog.cellsOf 92 = 4 := by kernel_rfl
theorem array4s {α : Type} {cs : Array α} (h : cs.size = 4) : ∃ c0 c1 c2 c3, cs = #[c0, c1, c2, c3] := by
  obtain ⟨l⟩ := cs
  match l, h with
  | [c0, c1, c2, c3], _ => exact ⟨c0, c1, c2, c3, rfl⟩
theorem wf_i64 {n : Int} (h : (Lit.int IntKind.i64 n).wf = true) : n ≤ 9223372036854775807 := by
  simp [Lit.wf] at h
  first | omega | exact h.2 | (have := h.2; omega)
section
variable {H : Type} {enc : TypeId × Value → H} {w : World} {base : Nat} {spare : Nat → Bool} {held : Bool}
set_option maxRecDepth 100000 in
theorem open_argPostsC {r : Reach} {b0 : Nat} {v : Value} {d : DataW H} {p : List MemPlace} (hv : Value.okWide Tryz.prog w r b0 61 v) (h : DataW.Trod enc Tryz.prog w base spare held 61 v d p) :
    ∃ A os c, v = .slice A (List.length os) c ∧ List.length os ≤ c ∧ PosAt w A os := by
  obtain ⟨a, len, cap, rfl⟩ := okWide_slice Tryz.underlying61 hv
  obtain ⟨fuel, hf⟩ := h
  obtain ⟨A, xs, c, e, hc, hs, -⟩ := open_posts hf
  have e' : [Value.slice a len cap] = [Value.slice A xs.length c] := e
  simp only [List.cons.injEq, and_true] at e'
  exact ⟨A, xs, c, e', hc, hs⟩
set_option maxRecDepth 100000 in
theorem open_sinking {r : Reach} {b0 : Nat} {v : Value} {d : DataW H} {p : List MemPlace} (hv : Value.okWide Tryz.prog w r b0 92 v) (h : DataW.Trod enc Tryz.prog w base spare held 92 v d p) :
    ∃ (lim yrs st : Int) (SA : Option Addr) (xs : List Int) (sc : Nat), v = .agg #[.int .i64 lim, .int .i64 yrs, .int .i64 st, .slice SA (List.length xs) sc] ∧ IntsAt w SA xs ∧ st ≤ 9223372036854775807 := by
  obtain ⟨cs, rfl, hsz⟩ := okWide_struct Tryz.underlying92 hv
  obtain ⟨c0, c1, c2, c3, rfl⟩ := array4s (hsz.trans cellsSinking)
  obtain ⟨fuel, hf0⟩ := h
  obtain ⟨ys, n', hn', hy, hlen, hyl, hf⟩ := DataW.trod_struct Tryz.underlying92 hf0
  obtain ⟨y0, h0, _⟩ := field_of hyl hf 0 rfl (t := 3) (o := 0) rfl rfl cellsInt
  obtain ⟨y1, h1, _⟩ := field_of hyl hf 1 rfl (t := 3) (o := 1) rfl rfl cellsInt
  obtain ⟨y2, h2, _⟩ := field_of hyl hf 2 rfl (t := 3) (o := 2) rfl rfl cellsInt
  obtain ⟨y3, h3, _⟩ := field_of hyl hf 3 rfl (t := 45) (o := 3) rfl rfl cellsSlI
  have h0' : DataW.trod enc Tryz.prog w base spare held n' 3 [c0] = some y0 := h0
  have h1' : DataW.trod enc Tryz.prog w base spare held n' 3 [c1] = some y1 := h1
  have h2' : DataW.trod enc Tryz.prog w base spare held n' 3 [c2] = some y2 := h2
  have h3' : DataW.trod enc Tryz.prog w base spare held n' 45 [c3] = some y3 := h3
  obtain ⟨a0, g0, _, _⟩ := DataW.trod_int Tryz.underlying3 h0'
  obtain ⟨a1, g1, _, _⟩ := DataW.trod_int Tryz.underlying3 h1'
  obtain ⟨a2, g2, _, hw2⟩ := DataW.trod_int Tryz.underlying3 h2'
  obtain ⟨SA, xs, sc, g3, i3⟩ := open_ints h3'
  simp only [List.cons.injEq, and_true] at g0 g1 g2 g3
  subst g0 g1 g2 g3
  exact ⟨a0, a1, a2, SA, xs, sc, rfl, i3, wf_i64 hw2⟩
end
end Go.Proofs.YtggggnjibedgaaaGreat
