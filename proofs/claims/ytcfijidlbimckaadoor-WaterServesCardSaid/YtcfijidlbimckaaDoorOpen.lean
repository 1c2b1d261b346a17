/- Water as an argument: opened to its cells. -/
import Derived.Test.YtcfijidlbimckaaDoorBase
import Derived.Deep.Slices
import Derived.Deep.Fields
import Derived.ChangeSame
import Derived.OpenShut
import Derived.Lib.SmallJoins
set_option linter.unusedSimpArgs false
set_option linter.unusedVariables false
namespace Go.Proofs.YtcfijidlbimckaaDoor
open Go.RowKit
open Go.ChangeShapes Go.WideShapes Go.Deep Go.Joins
theorem exists_list {α : Type} (d : α) (P : Nat → α → Prop) : ∀ n, (∀ i, i < n → ∃ x, P i x) → ∃ xs : List α, xs.length = n ∧ ∀ i, i < n → P i (xs.getD i d)
  | 0, _ => ⟨[], rfl, fun i hi => by omega⟩
  | n + 1, h => by
    obtain ⟨xs, hl, hx⟩ := exists_list d P n (fun i hi => h i (by omega))
    obtain ⟨x, hp⟩ := h n (by omega)
    refine ⟨xs ++ [x], by simp [hl], fun i hi => ?_⟩
    by_cases hin : i < n
    · have := hx i hin
      rwa [List.getD_eq_getElem?_getD, List.getElem?_append_left (by omega), ← List.getD_eq_getElem?_getD]
    · obtain rfl : i = n := by omega
      rw [List.getD_eq_getElem?_getD, List.getElem?_append_right (by omega), hl, Nat.sub_self]
      exact hp
theorem add_cell {w : World} {a : Addr} {n : Nat} {v : Value} (h : w.cell? (a.add n) = some v) : w.cell? ⟨a.block, a.off + n, none⟩ = some v ∧ a.block < w.heap.size := by
  have hb : a.block < w.heap.size := by
    unfold World.cell? at h
    split at h
    · rename_i hh
      have := (Array.getElem?_eq_some_iff.1 hh).1
      rwa [show (a.add n).block = a.block by unfold Addr.add; split <;> rfl] at this
    · cases h
  refine ⟨?_, hb⟩
  unfold Addr.add at h
  split at h
  · rename_i hn
    subst hn
    obtain ⟨b, o, s⟩ := a
    cases s with
    | none => simpa using h
    | some s => unfold World.cell? at h; split at h <;> simp at h
  · exact h
theorem addr_plain {w : World} {a : Addr} {cs' : List Value} {e : Nat} {n : Nat} (hl : cs'.length = n) (hn : 0 < n) (hat : ∀ j, j < n → w.cell? ((a.add (0 * e)).add j) = cs'[j]?) : a = ⟨a.block, a.off, none⟩ := by
  have a0 := hat 0 hn
  obtain ⟨b, o, sp⟩ := a
  cases sp with
  | none => rfl
  | some sp =>
    exfalso
    have hn : cs'[0]? ≠ none := by rw [List.getElem?_eq_getElem (by omega)]; simp
    apply hn
    rw [← a0]
    simp only [Nat.zero_mul, Addr.add, if_true]
    unfold World.cell?
    split <;> simp
theorem cellsSpring : Tryd.prog.cellsOf 57 = 3 := by kernel_rfl
theorem cellsSample : Tryd.prog.cellsOf 43 = 2 := by kernel_rfl
theorem cellsSpan : Tryd.prog.cellsOf 55 = 2 := by kernel_rfl
theorem cellsInt : Tryd.prog.cellsOf 3 = 1 := by kernel_rfl
theorem cellsBool : Tryd.prog.cellsOf 4 = 1 := by kernel_rfl
theorem cellsSprs : Tryd.prog.cellsOf 22 = 1 := by kernel_rfl
theorem cellsSmps : Tryd.prog.cellsOf 23 = 1 := by kernel_rfl
theorem cellsWater : Tryd.prog.cellsOf 25 = 5 := by kernel_rfl
theorem some_of_len {α : Type} {xs : List α} {n : Nat} (h : xs.length = n) {k : Nat} (hk : k < n) : ∃ y, xs[k]? = some y := ⟨_, List.getElem?_eq_getElem (by omega)⟩
section
variable {H : Type} {enc : TypeId × Value → H} {w : World} {base : Nat} {spare : Nat → Bool} {held : Bool}
set_option maxRecDepth 100000 in
theorem open_samples {fuel : Nat} {cs : List Value} {x : DataW H × List MemPlace} (h : DataW.trod enc Tryd.prog w base spare held fuel 23 cs = some x) :
    ∃ A os c, cs = [.slice A os.length c] ∧ SmpAt w A os := by
  rcases open_slice Tryd.underlying23 h with ⟨rfl, _⟩ | ⟨a, len, cap, m, n, D, Pl, rfl, hb, hl, hm, hmm, hx, hi⟩
  · exact ⟨none, [], 0, rfl, fun h => absurd rfl h⟩
  · have hlm : len ≤ m := by rw [hmm]; split <;> omega
    have hel : ∀ i, i < len → ∃ o : Smp, (w.cell? ⟨a.block, a.off + i * 2, none⟩ = some (.int .i64 o.mix) ∧ w.cell? ⟨a.block, a.off + i * 2 + 1, none⟩ = some (.bool o.foul)) ∧ a.block < w.heap.size := fun i hil => by
      obtain ⟨cs', hc, ht⟩ := hi i (by omega)
      rw [cellsSample] at hc
      obtain ⟨_, hl2, hat⟩ := World.cells?_some hc
      obtain ⟨y0, y1, n', _, _, h0, h1⟩ := trod_struct2 Tryd.underlying43 ht
      obtain ⟨u, e0, _, _⟩ := DataW.trod_int Tryd.underlying3 h0
      obtain ⟨v, e1, _⟩ := DataW.trod_bool Tryd.underlying4 h1
      dsimp only at e0 e1
      rw [cellsInt] at e0
      rw [cellsBool] at e1
      match cs', hl2 with
      | [p, q], _ =>
        simp at e0 e1
        subst e0 e1
        have a0 := hat 0 (by omega)
        have a1 := hat 1 (by omega)
        rw [Go.Deep.add_add] at a0 a1
        have b0 := add_cell a0
        have b1 := add_cell a1
        exact ⟨⟨u, v⟩, ⟨b0.1, by rw [Nat.add_assoc]; exact b1.1⟩, b0.2⟩
    obtain ⟨os, ho, hos⟩ := exists_list zeroSmp _ len hel
    subst ho
    exact ⟨some a, os, cap, rfl, fun hne => by
      have h0 : 0 < os.length := List.length_pos_iff.2 hne
      have hb0 := (hos 0 h0).2
      have hsp : a = ⟨a.block, a.off, none⟩ := by
        obtain ⟨cs', hc, ht⟩ := hi 0 (by omega)
        obtain ⟨_, hl2, hat⟩ := World.cells?_some hc
        rw [cellsSample] at hat hl2
        exact addr_plain hl2 (by omega) hat
      exact ⟨a.block, a.off, by rw [← hsp], hb0, fun k hk => (hos k hk).1⟩⟩
set_option maxRecDepth 100000 in
theorem open_springs {fuel : Nat} {cs : List Value} {x : DataW H × List MemPlace} (h : DataW.trod enc Tryd.prog w base spare held fuel 22 cs = some x) :
    ∃ A os c, cs = [.slice A os.length c] ∧ SprAt w A os := by
  rcases open_slice Tryd.underlying22 h with ⟨rfl, _⟩ | ⟨a, len, cap, m, n, D, Pl, rfl, hb, hl, hm, hmm, hx, hi⟩
  · exact ⟨none, [], 0, rfl, fun h => absurd rfl h⟩
  · have hlm : len ≤ m := by rw [hmm]; split <;> omega
    have hel : ∀ i, i < len → ∃ o : Spr, (w.cell? ⟨a.block, a.off + i * 3, none⟩ = some (.int .i64 o.low) ∧ w.cell? ⟨a.block, a.off + i * 3 + 1, none⟩ = some (.int .i64 o.high) ∧ w.cell? ⟨a.block, a.off + i * 3 + 2, none⟩ = some (.int .i64 o.fuel)) ∧ a.block < w.heap.size := fun i hil => by
      obtain ⟨cs', hc, ht⟩ := hi i (by omega)
      rw [cellsSpring] at hc
      obtain ⟨_, hl2, hat⟩ := World.cells?_some hc
      obtain ⟨y0, y1, n', _, _, h0, h1⟩ := trod_struct2 Tryd.underlying57 ht
      obtain ⟨z0, z1, n2, _, _, g0, g1⟩ := trod_struct2 Tryd.underlying55 h0
      obtain ⟨u, e0, _, _⟩ := DataW.trod_int Tryd.underlying3 g0
      obtain ⟨v, e1, _, _⟩ := DataW.trod_int Tryd.underlying3 g1
      obtain ⟨f, e2, _, _⟩ := DataW.trod_int Tryd.underlying3 h1
      dsimp only at e0 e1 e2
      rw [cellsInt, cellsSpan] at e0 e1
      rw [cellsInt] at e2
      match cs', hl2 with
      | [p, q, r], _ =>
        simp at e0 e1 e2
        subst e0 e1 e2
        have a0 := hat 0 (by omega)
        have a1 := hat 1 (by omega)
        have a2 := hat 2 (by omega)
        rw [Go.Deep.add_add] at a0 a1 a2
        have b0 := add_cell a0
        have b1 := add_cell a1
        have b2 := add_cell a2
        exact ⟨⟨u, v, f⟩, ⟨b0.1, by rw [Nat.add_assoc]; exact b1.1, by rw [Nat.add_assoc]; exact b2.1⟩, b0.2⟩
    obtain ⟨os, ho, hos⟩ := exists_list zeroSpr _ len hel
    subst ho
    exact ⟨some a, os, cap, rfl, fun hne => by
      have h0 : 0 < os.length := List.length_pos_iff.2 hne
      have hb0 := (hos 0 h0).2
      have hsp : a = ⟨a.block, a.off, none⟩ := by
        obtain ⟨cs', hc, ht⟩ := hi 0 (by omega)
        obtain ⟨_, hl2, hat⟩ := World.cells?_some hc
        rw [cellsSpring] at hat hl2
        exact addr_plain hl2 (by omega) hat
      exact ⟨a.block, a.off, by rw [← hsp], hb0, fun k hk => (hos k hk).1⟩⟩
theorem array5 {α : Type} {cs : Array α} (h : cs.size = 5) : ∃ c0 c1 c2 c3 c4, cs = #[c0, c1, c2, c3, c4] := by
  obtain ⟨l⟩ := cs
  match l, h with
  | [c0, c1, c2, c3, c4], _ => exact ⟨c0, c1, c2, c3, c4, rfl⟩
set_option maxRecDepth 100000 in
theorem open_water {r : Reach} {b0 : Nat} {v : Value} {d : DataW H} {p : List MemPlace} (hv : Value.okWide Tryd.prog w r b0 25 v) (h : DataW.Trod enc Tryd.prog w base spare held 25 v d p) :
    ∃ D A, v = wval D A ∧ WIn w D A := by
  obtain ⟨cs, rfl, hsz⟩ := okWide_struct Tryd.underlying25 hv
  obtain ⟨c0, c1, c2, c3, c4, rfl⟩ := array5 (hsz.trans cellsWater)
  obtain ⟨fuel, hf0⟩ := h
  obtain ⟨ys, n', hn', hy, hlen, hyl, hf⟩ := DataW.trod_struct Tryd.underlying25 hf0
  have h0 : DataW.trod enc Tryd.prog w base spare held n' 22 (([c0, c1, c2, c3, c4].drop 0).take (Tryd.prog.cellsOf 22)) = ys[0]? := hf 0 _ rfl
  obtain ⟨y0, e0⟩ := some_of_len hyl (k := 0) (by simp)
  rw [e0, cellsSprs] at h0
  have h1 : DataW.trod enc Tryd.prog w base spare held n' 3 (([c0, c1, c2, c3, c4].drop 1).take (Tryd.prog.cellsOf 3)) = ys[1]? := hf 1 _ rfl
  obtain ⟨y1, e1⟩ := some_of_len hyl (k := 1) (by simp)
  rw [e1, cellsInt] at h1
  have h2 : DataW.trod enc Tryd.prog w base spare held n' 3 (([c0, c1, c2, c3, c4].drop 2).take (Tryd.prog.cellsOf 3)) = ys[2]? := hf 2 _ rfl
  obtain ⟨y2, e2⟩ := some_of_len hyl (k := 2) (by simp)
  rw [e2, cellsInt] at h2
  have h3 : DataW.trod enc Tryd.prog w base spare held n' 3 (([c0, c1, c2, c3, c4].drop 3).take (Tryd.prog.cellsOf 3)) = ys[3]? := hf 3 _ rfl
  obtain ⟨y3, e3⟩ := some_of_len hyl (k := 3) (by simp)
  rw [e3, cellsInt] at h3
  have h4 : DataW.trod enc Tryd.prog w base spare held n' 23 (([c0, c1, c2, c3, c4].drop 4).take (Tryd.prog.cellsOf 23)) = ys[4]? := hf 4 _ rfl
  obtain ⟨y4, e4⟩ := some_of_len hyl (k := 4) (by simp)
  rw [e4, cellsSmps] at h4
  simp only [List.drop_zero, List.drop_succ_cons, List.take_succ_cons, List.take_zero] at h0 h1 h2 h3 h4
  obtain ⟨SA, xs, sc, g0, hS⟩ := open_springs h0
  obtain ⟨n1, g1, _, _⟩ := DataW.trod_int Tryd.underlying3 h1
  obtain ⟨n2, g2, _, _⟩ := DataW.trod_int Tryd.underlying3 h2
  obtain ⟨n3, g3, _, _⟩ := DataW.trod_int Tryd.underlying3 h3
  obtain ⟨MA, ms, mc, g4, hM⟩ := open_samples h4
  simp only [List.cons.injEq, and_true] at g0 g1 g2 g3 g4
  subst g0 g1 g2 g3 g4
  exact ⟨⟨xs, n1, n2, n3, ms⟩, ⟨SA, sc, MA, mc⟩, rfl, hS, hM⟩
end
end Go.Proofs.YtcfijidlbimckaaDoor
