/- Further arguments of the laws of water: one more sample with greater numbers; a need with yields. -/
import Derived.Test.YtcfijidlbimckaaDoorOpen
set_option linter.unusedSimpArgs false
set_option linter.unusedVariables false
namespace Go.Proofs.YtcfijidlbimckaaDoor
open Go.RowKit
open Go.ChangeShapes Go.WideShapes Go.Deep Go.Joins
theorem cellsMore : Tryd.prog.cellsOf 45 = 5 := by kernel_rfl
theorem cellsDay : Tryd.prog.cellsOf 50 = 3 := by kernel_rfl
theorem cellsInts : Tryd.prog.cellsOf 29 = 1 := by kernel_rfl
theorem array3 {α : Type} {cs : Array α} (h : cs.size = 3) : ∃ c0 c1 c2, cs = #[c0, c1, c2] := by
  obtain ⟨l⟩ := cs
  match l, h with
  | [c0, c1, c2], _ => exact ⟨c0, c1, c2, rfl⟩
section
variable {H : Type} {enc : TypeId × Value → H} {w : World} {base : Nat} {spare : Nat → Bool} {held : Bool}
set_option maxRecDepth 100000 in
theorem open_ints {fuel : Nat} {cs : List Value} {x : DataW H × List MemPlace} (h : DataW.trod enc Tryd.prog w base spare held fuel 29 cs = some x) :
    ∃ A xs c, cs = [.slice A xs.length c] ∧ xs.length ≤ 9223372036854775807 ∧ IntsAt w A xs := by
  rcases open_slice1 Tryd.underlying29 cellsInt h with ⟨rfl, _⟩ | ⟨a, len, cap, m, n, V, D, Pl, rfl, hb, hl, hm, hmm, hx, hi⟩
  · exact ⟨none, [], 0, rfl, by simp, fun h => absurd rfl h⟩
  · have hlm : len ≤ m := by rw [hmm]; split <;> omega
    have hel : ∀ i, i < len → ∃ z : Int, w.cell? ⟨a.block, a.off + i, none⟩ = some (.int .i64 z) ∧ a.block < w.heap.size ∧ (i = 0 → a = ⟨a.block, a.off, none⟩) := fun i hil => by
      obtain ⟨h0, h1⟩ := hi i (by omega)
      obtain ⟨z, e0, _, _⟩ := DataW.trod_int Tryd.underlying3 h1
      simp only [List.cons.injEq, and_true] at e0
      rw [e0] at h0
      have h2 := add_cell h0
      refine ⟨z, h2.1, h2.2, fun hi0 => ?_⟩
      subst hi0
      obtain ⟨b, o, sp⟩ := a
      cases sp with
      | none => rfl
      | some sp =>
        exfalso
        simp only [Addr.add, if_true] at h0
        unfold World.cell? at h0
        split at h0 <;> simp at h0
    obtain ⟨xs, ho, hxs⟩ := exists_list 0 _ len hel
    subst ho
    refine ⟨some a, xs, cap, rfl, by unfold maxLen at hm; omega, fun hne => ?_⟩
    have h0 : 0 < xs.length := List.length_pos_iff.2 hne
    exact ⟨a.block, a.off, by rw [← (hxs 0 h0).2.2 rfl], (hxs 0 h0).2.1, fun k hk => (hxs k hk).1⟩
set_option maxRecDepth 100000 in
theorem open_day {r : Reach} {b0 : Nat} {v : Value} {d : DataW H} {p : List MemPlace} (hv : Value.okWide Tryd.prog w r b0 50 v) (h : DataW.Trod enc Tryd.prog w base spare held 50 v d p) :
    ∃ need A xs c other, v = .agg #[.int .i64 need, .slice A xs.length c, .int .i64 other] ∧ xs.length ≤ 9223372036854775807 ∧ IntsAt w A xs := by
  obtain ⟨cs, rfl, hsz⟩ := okWide_struct Tryd.underlying50 hv
  obtain ⟨c0, c1, c2, rfl⟩ := array3 (hsz.trans cellsDay)
  obtain ⟨fuel, hf0⟩ := h
  obtain ⟨ys, n', hn', hy, hlen, hyl, hf⟩ := DataW.trod_struct Tryd.underlying50 hf0
  have h0 : DataW.trod enc Tryd.prog w base spare held n' 3 (([c0, c1, c2].drop 0).take (Tryd.prog.cellsOf 3)) = ys[0]? := hf 0 _ rfl
  obtain ⟨y0, e0⟩ := some_of_len hyl (k := 0) (by simp)
  rw [e0, cellsInt] at h0
  have h1 : DataW.trod enc Tryd.prog w base spare held n' 29 (([c0, c1, c2].drop 1).take (Tryd.prog.cellsOf 29)) = ys[1]? := hf 1 _ rfl
  obtain ⟨y1, e1⟩ := some_of_len hyl (k := 1) (by simp)
  rw [e1, cellsInts] at h1
  have h2 : DataW.trod enc Tryd.prog w base spare held n' 3 (([c0, c1, c2].drop 2).take (Tryd.prog.cellsOf 3)) = ys[2]? := hf 2 _ rfl
  obtain ⟨y2, e2⟩ := some_of_len hyl (k := 2) (by simp)
  rw [e2, cellsInt] at h2
  simp only [List.drop_zero, List.drop_succ_cons, List.take_succ_cons, List.take_zero] at h0 h1 h2
  obtain ⟨n0, g0, _, _⟩ := DataW.trod_int Tryd.underlying3 h0
  obtain ⟨A, xs, c, g1, hl, hx⟩ := open_ints h1
  obtain ⟨n2, g2, _, _⟩ := DataW.trod_int Tryd.underlying3 h2
  simp only [List.cons.injEq, and_true] at g0 g1 g2
  subst g0 g1 g2
  exact ⟨n0, A, xs, c, n2, rfl, hl, hx⟩
set_option maxRecDepth 100000 in
theorem open_more {r : Reach} {b0 : Nat} {v : Value} {d : DataW H} {p : List MemPlace} (hv : Value.okWide Tryd.prog w r b0 45 v) (h : DataW.Trod enc Tryd.prog w base spare held 45 v d p) :
    ∃ m f a b c, v = .agg #[.int .i64 m, .bool f, .int .i64 a, .int .i64 b, .int .i64 c] := by
  obtain ⟨cs, rfl, hsz⟩ := okWide_struct Tryd.underlying45 hv
  obtain ⟨c0, c1, c2, c3, c4, rfl⟩ := array5 (hsz.trans cellsMore)
  obtain ⟨fuel, hf0⟩ := h
  obtain ⟨ys, n', hn', hy, hlen, hyl, hf⟩ := DataW.trod_struct Tryd.underlying45 hf0
  have h0 : DataW.trod enc Tryd.prog w base spare held n' 43 (([c0, c1, c2, c3, c4].drop 0).take (Tryd.prog.cellsOf 43)) = ys[0]? := hf 0 _ rfl
  obtain ⟨y0, e0⟩ := some_of_len hyl (k := 0) (by simp)
  rw [e0, cellsSample] at h0
  have h1 : DataW.trod enc Tryd.prog w base spare held n' 3 (([c0, c1, c2, c3, c4].drop 2).take (Tryd.prog.cellsOf 3)) = ys[1]? := hf 1 _ rfl
  obtain ⟨y1, e1⟩ := some_of_len hyl (k := 1) (by simp)
  rw [e1, cellsInt] at h1
  have h2 : DataW.trod enc Tryd.prog w base spare held n' 3 (([c0, c1, c2, c3, c4].drop 3).take (Tryd.prog.cellsOf 3)) = ys[2]? := hf 2 _ rfl
  obtain ⟨y2, e2⟩ := some_of_len hyl (k := 2) (by simp)
  rw [e2, cellsInt] at h2
  have h3 : DataW.trod enc Tryd.prog w base spare held n' 3 (([c0, c1, c2, c3, c4].drop 4).take (Tryd.prog.cellsOf 3)) = ys[3]? := hf 3 _ rfl
  obtain ⟨y3, e3⟩ := some_of_len hyl (k := 3) (by simp)
  rw [e3, cellsInt] at h3
  simp only [List.drop_zero, List.drop_succ_cons, List.take_succ_cons, List.take_zero] at h0 h1 h2 h3
  obtain ⟨z0, z1, n2, _, _, k0, k1⟩ := trod_struct2 Tryd.underlying43 h0
  rw [cellsInt] at k0
  rw [cellsBool] at k1
  simp only [List.drop_zero, List.drop_succ_cons, List.take_succ_cons, List.take_zero] at k0 k1
  obtain ⟨m, g0, _, _⟩ := DataW.trod_int Tryd.underlying3 k0
  obtain ⟨f, g1, _⟩ := DataW.trod_bool Tryd.underlying4 k1
  obtain ⟨a, g2, _, _⟩ := DataW.trod_int Tryd.underlying3 h1
  obtain ⟨b, g3, _, _⟩ := DataW.trod_int Tryd.underlying3 h2
  obtain ⟨c, g4, _, _⟩ := DataW.trod_int Tryd.underlying3 h3
  simp only [List.cons.injEq, and_true] at g0 g1 g2 g3 g4
  subst g0 g1 g2 g3 g4
  exact ⟨m, f, a, b, c, rfl⟩
end
end Go.Proofs.YtcfijidlbimckaaDoor
