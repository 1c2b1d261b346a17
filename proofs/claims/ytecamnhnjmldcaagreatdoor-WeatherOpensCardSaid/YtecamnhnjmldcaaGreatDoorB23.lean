/- Forecasts, observations, weathers and limits as arguments: opened to their cells. -/
import Derived.Test.YtecamnhnjmldcaaGreatDoorB21
import Derived.Deep.Slices
import Derived.Deep.Fields
import Derived.ChangeSame
import Derived.OpenShut
import Derived.Lib.SmallJoins
import Derived.Lib.LaidTab
import Derived.LaidMore
set_option linter.unusedSimpArgs false
set_option linter.unusedVariables false
namespace Go.Proofs.YtecamnhnjmldcaaGreatDoor
open Go.RowKit
open Go.ChangeShapes Go.WideShapes Go.Deep Go.Joins
theorem exists_list {α : Type} (d : α) (P : Nat → α → Prop) : ∀ n, (∀ i, i < n → ∃ x, P i x) → ∃ xs : List α, xs.length = n ∧ ∀ i, i < n → P i (xs.getD i d)
  | 0, _ => ⟨[], rfl, fun i hi => by omega⟩
  | n + 1, h => by
    obtain ⟨xs, hl, hx⟩ := exists_list d P n (fun i hi => h i (by omega))
    obtain ⟨x, hp⟩ := h n (by omega)
    refine ⟨xs ++ [x], by simp [hl], fun i hi => ?_⟩
    by_cases hin : i < n
    · have := hx i hin
      rwa [List.getD_eq_getElem?_getD, List.getElem?_append_left (by omega), ← List.getD_eq_getElem?_getD]
    · obtain rfl : i = n := by omega
      rw [List.getD_eq_getElem?_getD, List.getElem?_append_right (by omega), hl, Nat.sub_self]
      exact hp
theorem add_cell {w : World} {a : Addr} {n : Nat} {v : Value} (h : w.cell? (a.add n) = some v) : w.cell? ⟨a.block, a.off + n, none⟩ = some v ∧ a.block < w.heap.size := by
  have hb : a.block < w.heap.size := by
    unfold World.cell? at h
    split at h
    · rename_i hh
      have := (Array.getElem?_eq_some_iff.1 hh).1
      rwa [show (a.add n).block = a.block by unfold Addr.add; split <;> rfl] at this
    · cases h
  refine ⟨?_, hb⟩
  unfold Addr.add at h
  split at h
  · rename_i hn
    subst hn
    obtain ⟨b, o, s⟩ := a
    cases s with
    | none => simpa using h
    | some s => unfold World.cell? at h; split at h <;> simp at h
  · exact h
theorem addr_plain {w : World} {a : Addr} {cs' : List Value} {e : Nat} {n : Nat} (hl : cs'.length = n) (hn : 0 < n) (hat : ∀ j, j < n → w.cell? ((a.add (0 * e)).add j) = cs'[j]?) : a = ⟨a.block, a.off, none⟩ := by
  have a0 := hat 0 hn
  obtain ⟨b, o, sp⟩ := a
  cases sp with
  | none => rfl
  | some sp =>
    exfalso
    have hn : cs'[0]? ≠ none := by rw [List.getElem?_eq_getElem (by omega)]; simp
    apply hn
    rw [← a0]
    simp only [Nat.zero_mul, Addr.add, if_true]
    unfold World.cell?
    split <;> simp
theorem cellsHour : Tryz.prog.cellsOf 143 = 6 := by kernel_rfl
theorem cellsScen : Tryz.prog.cellsOf 92 = 1 := by kernel_rfl
theorem cellsSky : Tryz.prog.cellsOf 69 = 3 := by kernel_rfl
theorem cellsSight : Tryz.prog.cellsOf 71 = 4 := by kernel_rfl
theorem cellsSpan : Tryz.prog.cellsOf 27 = 2 := by kernel_rfl
theorem cellsLim : Tryz.prog.cellsOf 29 = 4 := by kernel_rfl
theorem cellsFore : Tryz.prog.cellsOf 24 = 1 := by kernel_rfl
theorem cellsInt : Tryz.prog.cellsOf 3 = 1 := by kernel_rfl
theorem cellsSlH : Tryz.prog.cellsOf 90 = 1 := by kernel_rfl
theorem cellsSlS : Tryz.prog.cellsOf 22 = 1 := by kernel_rfl
theorem cellsSlG : Tryz.prog.cellsOf 25 = 1 := by kernel_rfl
theorem cellsSlK : Tryz.prog.cellsOf 58 = 1 := by kernel_rfl
theorem some_of_len {α : Type} {xs : List α} {n : Nat} (h : xs.length = n) {k : Nat} (hk : k < n) : ∃ y, xs[k]? = some y := ⟨_, List.getElem?_eq_getElem (by omega)⟩
section
variable {H : Type} {enc : TypeId × Value → H} {w : World} {base : Nat} {spare : Nat → Bool} {held : Bool}
/-- A field of a struct that is opened. -/
theorem field_of {n' : Nat} {cs : List Value} {fs : Array Field} {ys : List (DataW H × List MemPlace)} (hyl : ys.length = fs.size) (hf : ∀ (i : Nat) (f : Field), fs[i]? = some f → DataW.trod enc Tryz.prog w base spare held n' f.type ((cs.drop f.offset).take (Tryz.prog.cellsOf f.type)) = ys[i]?)
    (i : Nat) {f : Field} (hi : fs[i]? = some f) {t o k : Nat} (ht : f.type = t) (ho : f.offset = o) (hk : Tryz.prog.cellsOf t = k) : ∃ y, DataW.trod enc Tryz.prog w base spare held n' t ((cs.drop o).take k) = some y ∧ ys[i]? = some y := by
  have hlt := (Array.getElem?_eq_some_iff.1 hi).1
  obtain ⟨y, hy⟩ := some_of_len hyl hlt
  have := hf i f hi
  rw [ht, ho, hk, hy] at this
  exact ⟨y, this, hy⟩
set_option maxRecDepth 100000 in
theorem open_hour {fuel : Nat} {cs : List Value} {x : DataW H × List MemPlace} (h : DataW.trod enc Tryz.prog w base spare held fuel 143 cs = some x) : ∃ o : Hr, cs = [.int .i64 o.wl, .int .i64 o.wh, .int .i64 o.rl, .int .i64 o.rh, .int .i64 o.tl, .int .i64 o.th] := by
  obtain ⟨ys, n', hn', hy, hlen, hyl, hf⟩ := DataW.trod_struct Tryz.underlying143 h
  obtain ⟨y0, h0, _⟩ := field_of hyl hf 0 rfl (t := 27) (o := 0) rfl rfl cellsSpan
  obtain ⟨y1, h1, _⟩ := field_of hyl hf 1 rfl (t := 27) (o := 2) rfl rfl cellsSpan
  obtain ⟨y2, h2, _⟩ := field_of hyl hf 2 rfl (t := 27) (o := 4) rfl rfl cellsSpan
  rw [cellsHour] at hlen
  match cs, hlen with
  | [c0, c1, c2, c3, c4, c5], _ =>
    simp only [List.drop_zero, List.drop_succ_cons, List.take_succ_cons, List.take_zero] at h0 h1 h2
    obtain ⟨_, _, _, _, _, i0, j0⟩ := trod_struct2 Tryz.underlying27 h0
    obtain ⟨_, _, _, _, _, i1, j1⟩ := trod_struct2 Tryz.underlying27 h1
    obtain ⟨_, _, _, _, _, i2, j2⟩ := trod_struct2 Tryz.underlying27 h2
    rw [cellsInt] at i0 j0 i1 j1 i2 j2
    simp only [List.drop_zero, List.drop_succ_cons, List.take_succ_cons, List.take_zero] at i0 j0 i1 j1 i2 j2
    obtain ⟨a0, g0, _, _⟩ := DataW.trod_int Tryz.underlying3 i0
    obtain ⟨a1, g1, _, _⟩ := DataW.trod_int Tryz.underlying3 j0
    obtain ⟨a2, g2, _, _⟩ := DataW.trod_int Tryz.underlying3 i1
    obtain ⟨a3, g3, _, _⟩ := DataW.trod_int Tryz.underlying3 j1
    obtain ⟨a4, g4, _, _⟩ := DataW.trod_int Tryz.underlying3 i2
    obtain ⟨a5, g5, _, _⟩ := DataW.trod_int Tryz.underlying3 j2
    simp only [List.cons.injEq, and_true] at g0 g1 g2 g3 g4 g5
    subst g0 g1 g2 g3 g4 g5
    exact ⟨⟨a0, a1, a2, a3, a4, a5⟩, rfl⟩
set_option maxRecDepth 100000 in
theorem open_sky {fuel : Nat} {cs : List Value} {x : DataW H × List MemPlace} (h : DataW.trod enc Tryz.prog w base spare held fuel 69 cs = some x) : ∃ o : Sk, cs = [.int .i64 o.wind, .int .i64 o.rain, .int .i64 o.temp] := by
  obtain ⟨ys, n', hn', hy, hlen, hyl, hf⟩ := DataW.trod_struct Tryz.underlying69 h
  obtain ⟨y0, h0, _⟩ := field_of hyl hf 0 rfl (t := 3) (o := 0) rfl rfl cellsInt
  obtain ⟨y1, h1, _⟩ := field_of hyl hf 1 rfl (t := 3) (o := 1) rfl rfl cellsInt
  obtain ⟨y2, h2, _⟩ := field_of hyl hf 2 rfl (t := 3) (o := 2) rfl rfl cellsInt
  rw [cellsSky] at hlen
  match cs, hlen with
  | [c0, c1, c2], _ =>
    simp only [List.drop_zero, List.drop_succ_cons, List.take_succ_cons, List.take_zero] at h0 h1 h2
    obtain ⟨a0, g0, _, _⟩ := DataW.trod_int Tryz.underlying3 h0
    obtain ⟨a1, g1, _, _⟩ := DataW.trod_int Tryz.underlying3 h1
    obtain ⟨a2, g2, _, _⟩ := DataW.trod_int Tryz.underlying3 h2
    simp only [List.cons.injEq, and_true] at g0 g1 g2
    subst g0 g1 g2
    exact ⟨⟨a0, a1, a2⟩, rfl⟩
set_option maxRecDepth 100000 in
theorem open_sight {fuel : Nat} {cs : List Value} {x : DataW H × List MemPlace} (h : DataW.trod enc Tryz.prog w base spare held fuel 71 cs = some x) : ∃ o : Sg, cs = [.int .i64 o.hour, .int .i64 o.wind, .int .i64 o.rain, .int .i64 o.temp] ∧ (Lit.int .i64 o.hour).wf = true := by
  obtain ⟨ys, n', hn', hy, hlen, hyl, hf⟩ := DataW.trod_struct Tryz.underlying71 h
  obtain ⟨y0, h0, _⟩ := field_of hyl hf 0 rfl (t := 3) (o := 0) rfl rfl cellsInt
  obtain ⟨y1, h1, _⟩ := field_of hyl hf 1 rfl (t := 69) (o := 1) rfl rfl cellsSky
  rw [cellsSight] at hlen
  match cs, hlen with
  | [c0, c1, c2, c3], _ =>
    simp only [List.drop_zero, List.drop_succ_cons, List.take_succ_cons, List.take_zero] at h0 h1
    obtain ⟨a0, g0, _, hwf⟩ := DataW.trod_int Tryz.underlying3 h0
    obtain ⟨o, g1⟩ := open_sky h1
    simp only [List.cons.injEq, and_true] at g0 g1
    obtain ⟨g1, g2, g3⟩ := g1
    subst g0 g1 g2 g3
    exact ⟨⟨a0, o.wind, o.rain, o.temp⟩, rfl, hwf⟩
set_option maxRecDepth 100000 in
theorem open_limits {fuel : Nat} {cs : List Value} {x : DataW H × List MemPlace} (h : DataW.trod enc Tryz.prog w base spare held fuel 29 cs = some x) : ∃ o : Lm, cs = [.int .i64 o.wind, .int .i64 o.rain, .int .i64 o.tl, .int .i64 o.th] ∧ x.1 = .agg [.lit (.int .i64 o.wind), .lit (.int .i64 o.rain), .agg [.lit (.int .i64 o.tl), .lit (.int .i64 o.th)]] := by
  obtain ⟨ys, n', hn', hy, hlen, hyl, hf⟩ := DataW.trod_struct Tryz.underlying29 h
  obtain ⟨y0, h0, e0⟩ := field_of hyl hf 0 rfl (t := 3) (o := 0) rfl rfl cellsInt
  obtain ⟨y1, h1, e1⟩ := field_of hyl hf 1 rfl (t := 3) (o := 1) rfl rfl cellsInt
  obtain ⟨y2, h2, e2⟩ := field_of hyl hf 2 rfl (t := 27) (o := 2) rfl rfl cellsSpan
  rw [cellsLim] at hlen
  match cs, hlen with
  | [c0, c1, c2, c3], _ =>
    simp only [List.drop_zero, List.drop_succ_cons, List.take_succ_cons, List.take_zero] at h0 h1 h2
    obtain ⟨a0, g0, d0, _⟩ := DataW.trod_int Tryz.underlying3 h0
    obtain ⟨a1, g1, d1, _⟩ := DataW.trod_int Tryz.underlying3 h1
    obtain ⟨_, _, _, d2, _, i2, j2⟩ := trod_struct2 Tryz.underlying27 h2
    rw [cellsInt] at i2 j2
    simp only [List.drop_zero, List.drop_succ_cons, List.take_succ_cons, List.take_zero] at i2 j2
    obtain ⟨a2, g2, d3, _⟩ := DataW.trod_int Tryz.underlying3 i2
    obtain ⟨a3, g3, d4, _⟩ := DataW.trod_int Tryz.underlying3 j2
    simp only [List.cons.injEq, and_true] at g0 g1 g2 g3
    subst g0 g1 g2 g3
    refine ⟨⟨a0, a1, a2, a3⟩, rfl, ?_⟩
    match ys, hyl with
    | [z0, z1, z2], _ =>
      simp at e0 e1 e2
      subst e0 e1 e2 d0 d1 d2 d3 d4
      rw [hy]
      rfl
set_option maxRecDepth 100000 in
theorem open_hours {fuel : Nat} {cs : List Value} {x : DataW H × List MemPlace} (h : DataW.trod enc Tryz.prog w base spare held fuel 90 cs = some x) :
    ∃ A os c, cs = [.slice A os.length c] ∧ os.length ≤ c ∧ HrsAt w A os ∧ ∀ o : Hr, o ∈ os → True := by
  rcases open_slice Tryz.underlying90 h with ⟨rfl, _⟩ | ⟨a, len, cap, m, n, D, Pl, rfl, hb, hl, hm, hmm, hx, hi⟩
  · exact ⟨none, [], 0, rfl, Nat.le_refl _, fun h => absurd rfl h, fun o ho => by cases ho⟩
  · have hlm : len ≤ m := by rw [hmm]; split <;> omega
    have hel : ∀ i, i < len → ∃ o : Hr, HrAt w a.block (a.off + i * 6) o ∧ a.block < w.heap.size ∧ True := fun i hil => by
      obtain ⟨cs', hc, ht⟩ := hi i (by omega)
      rw [cellsHour] at hc
      obtain ⟨_, hl2, hat⟩ := World.cells?_some hc
      obtain ⟨o, rfl⟩ := open_hour ht
      have hk : ∀ k v, ([.int .i64 o.wl, .int .i64 o.wh, .int .i64 o.rl, .int .i64 o.rh, .int .i64 o.tl, .int .i64 o.th] : List Value)[k]? = some v → k < 6 → w.cell? ⟨a.block, a.off + i * 6 + k, none⟩ = some v ∧ a.block < w.heap.size := fun k v hv hk8 => by
        have h0 := (hat k hk8).trans hv
        rw [Go.Deep.add_add] at h0
        have h1 := add_cell h0
        exact ⟨by rw [Nat.add_assoc]; exact h1.1, h1.2⟩
      exact ⟨o, ⟨(hk 0 _ rfl (by omega)).1, (hk 1 _ rfl (by omega)).1, (hk 2 _ rfl (by omega)).1, (hk 3 _ rfl (by omega)).1, (hk 4 _ rfl (by omega)).1, (hk 5 _ rfl (by omega)).1⟩, (hk 0 _ rfl (by omega)).2, trivial⟩
    obtain ⟨os, ho, hos⟩ := exists_list zeroHr _ len hel
    subst ho
    refine ⟨some a, os, cap, rfl, hl, fun hne => ?_, fun o ho => ?_⟩
    · have h0 : 0 < os.length := List.length_pos_iff.2 hne
      have hb0 := (hos 0 h0).2.1
      have hsp : a = ⟨a.block, a.off, none⟩ := by
        obtain ⟨cs', hc, ht⟩ := hi 0 (by omega)
        obtain ⟨_, hl2, hat⟩ := World.cells?_some hc
        rw [cellsHour] at hat hl2
        exact addr_plain hl2 (by omega) hat
      exact ⟨a.block, a.off, by rw [← hsp], hb0, fun k hk => (hos k hk).1⟩
    · obtain ⟨i, hi', rfl⟩ := List.getElem_of_mem ho
      have h9 := (hos i hi').2.2
      have e9 : os.getD i zeroHr = os[i] := by simp [List.getD, List.getElem?_eq_getElem hi']
      first | trivial | (rw [e9] at h9; exact h9)
set_option maxRecDepth 100000 in
theorem open_skies {fuel : Nat} {cs : List Value} {x : DataW H × List MemPlace} (h : DataW.trod enc Tryz.prog w base spare held fuel 58 cs = some x) :
    ∃ A os c, cs = [.slice A os.length c] ∧ os.length ≤ c ∧ SksAt w A os ∧ ∀ o : Sk, o ∈ os → True := by
  rcases open_slice Tryz.underlying58 h with ⟨rfl, _⟩ | ⟨a, len, cap, m, n, D, Pl, rfl, hb, hl, hm, hmm, hx, hi⟩
  · exact ⟨none, [], 0, rfl, Nat.le_refl _, fun h => absurd rfl h, fun o ho => by cases ho⟩
  · have hlm : len ≤ m := by rw [hmm]; split <;> omega
    have hel : ∀ i, i < len → ∃ o : Sk, SkAt w a.block (a.off + i * 3) o ∧ a.block < w.heap.size ∧ True := fun i hil => by
      obtain ⟨cs', hc, ht⟩ := hi i (by omega)
      rw [cellsSky] at hc
      obtain ⟨_, hl2, hat⟩ := World.cells?_some hc
      obtain ⟨o, rfl⟩ := open_sky ht
      have hk : ∀ k v, ([.int .i64 o.wind, .int .i64 o.rain, .int .i64 o.temp] : List Value)[k]? = some v → k < 3 → w.cell? ⟨a.block, a.off + i * 3 + k, none⟩ = some v ∧ a.block < w.heap.size := fun k v hv hk8 => by
        have h0 := (hat k hk8).trans hv
        rw [Go.Deep.add_add] at h0
        have h1 := add_cell h0
        exact ⟨by rw [Nat.add_assoc]; exact h1.1, h1.2⟩
      exact ⟨o, ⟨(hk 0 _ rfl (by omega)).1, (hk 1 _ rfl (by omega)).1, (hk 2 _ rfl (by omega)).1⟩, (hk 0 _ rfl (by omega)).2, trivial⟩
    obtain ⟨os, ho, hos⟩ := exists_list zeroSk _ len hel
    subst ho
    refine ⟨some a, os, cap, rfl, hl, fun hne => ?_, fun o ho => ?_⟩
    · have h0 : 0 < os.length := List.length_pos_iff.2 hne
      have hb0 := (hos 0 h0).2.1
      have hsp : a = ⟨a.block, a.off, none⟩ := by
        obtain ⟨cs', hc, ht⟩ := hi 0 (by omega)
        obtain ⟨_, hl2, hat⟩ := World.cells?_some hc
        rw [cellsSky] at hat hl2
        exact addr_plain hl2 (by omega) hat
      exact ⟨a.block, a.off, by rw [← hsp], hb0, fun k hk => (hos k hk).1⟩
    · obtain ⟨i, hi', rfl⟩ := List.getElem_of_mem ho
      have h9 := (hos i hi').2.2
      have e9 : os.getD i zeroSk = os[i] := by simp [List.getD, List.getElem?_eq_getElem hi']
      first | trivial | (rw [e9] at h9; exact h9)
set_option maxRecDepth 100000 in
theorem open_sights {fuel : Nat} {cs : List Value} {x : DataW H × List MemPlace} (h : DataW.trod enc Tryz.prog w base spare held fuel 25 cs = some x) :
    ∃ A os c, cs = [.slice A os.length c] ∧ os.length ≤ c ∧ SgsAt w A os ∧ ∀ o : Sg, o ∈ os → (Lit.int .i64 o.hour).wf = true := by
  rcases open_slice Tryz.underlying25 h with ⟨rfl, _⟩ | ⟨a, len, cap, m, n, D, Pl, rfl, hb, hl, hm, hmm, hx, hi⟩
  · exact ⟨none, [], 0, rfl, Nat.le_refl _, fun h => absurd rfl h, fun o ho => by cases ho⟩
  · have hlm : len ≤ m := by rw [hmm]; split <;> omega
    have hel : ∀ i, i < len → ∃ o : Sg, SgAt w a.block (a.off + i * 4) o ∧ a.block < w.heap.size ∧ (Lit.int .i64 o.hour).wf = true := fun i hil => by
      obtain ⟨cs', hc, ht⟩ := hi i (by omega)
      rw [cellsSight] at hc
      obtain ⟨_, hl2, hat⟩ := World.cells?_some hc
      obtain ⟨o, rfl, hp⟩ := open_sight ht
      have hk : ∀ k v, ([.int .i64 o.hour, .int .i64 o.wind, .int .i64 o.rain, .int .i64 o.temp] : List Value)[k]? = some v → k < 4 → w.cell? ⟨a.block, a.off + i * 4 + k, none⟩ = some v ∧ a.block < w.heap.size := fun k v hv hk8 => by
        have h0 := (hat k hk8).trans hv
        rw [Go.Deep.add_add] at h0
        have h1 := add_cell h0
        exact ⟨by rw [Nat.add_assoc]; exact h1.1, h1.2⟩
      exact ⟨o, ⟨(hk 0 _ rfl (by omega)).1, (hk 1 _ rfl (by omega)).1, (hk 2 _ rfl (by omega)).1, (hk 3 _ rfl (by omega)).1⟩, (hk 0 _ rfl (by omega)).2, hp⟩
    obtain ⟨os, ho, hos⟩ := exists_list zeroSg _ len hel
    subst ho
    refine ⟨some a, os, cap, rfl, hl, fun hne => ?_, fun o ho => ?_⟩
    · have h0 : 0 < os.length := List.length_pos_iff.2 hne
      have hb0 := (hos 0 h0).2.1
      have hsp : a = ⟨a.block, a.off, none⟩ := by
        obtain ⟨cs', hc, ht⟩ := hi 0 (by omega)
        obtain ⟨_, hl2, hat⟩ := World.cells?_some hc
        rw [cellsSight] at hat hl2
        exact addr_plain hl2 (by omega) hat
      exact ⟨a.block, a.off, by rw [← hsp], hb0, fun k hk => (hos k hk).1⟩
    · obtain ⟨i, hi', rfl⟩ := List.getElem_of_mem ho
      have h9 := (hos i hi').2.2
      have e9 : os.getD i zeroSg = os[i] := by simp [List.getD, List.getElem?_eq_getElem hi']
      first | trivial | (rw [e9] at h9; exact h9)
set_option maxRecDepth 100000 in
theorem open_scen {fuel : Nat} {cs : List Value} {x : DataW H × List MemPlace} (h : DataW.trod enc Tryz.prog w base spare held fuel 92 cs = some x) : ∃ (o : List Hr) (A : Option Addr) (c : Nat), cs = [.slice A o.length c] ∧ o.length ≤ c ∧ HrsAt w A o := by
  obtain ⟨ys, n', hn', hy, hlen, hyl, hf⟩ := DataW.trod_struct Tryz.underlying92 h
  obtain ⟨y0, h0, _⟩ := field_of hyl hf 0 rfl (t := 90) (o := 0) rfl rfl cellsSlH
  rw [cellsScen] at hlen
  match cs, hlen with
  | [c0], _ =>
    simp only [List.drop_zero, List.take_succ_cons, List.take_zero] at h0
    obtain ⟨A, os, c, g0, hl, ho, -⟩ := open_hours h0
    exact ⟨os, A, c, g0, hl, ho⟩
set_option maxRecDepth 100000 in
theorem open_scens {fuel : Nat} {cs : List Value} {x : DataW H × List MemPlace} (h : DataW.trod enc Tryz.prog w base spare held fuel 22 cs = some x) :
    ∃ A os c, cs = [.slice A os.length c] ∧ ScsAt w A os := by
  rcases open_slice Tryz.underlying22 h with ⟨rfl, _⟩ | ⟨a, len, cap, m, n, D, Pl, rfl, hb, hl, hm, hmm, hx, hi⟩
  · exact ⟨none, [], 0, rfl, fun h => absurd rfl h⟩
  · have hlm : len ≤ m := by rw [hmm]; split <;> omega
    have hel : ∀ i, i < len → ∃ o : List Hr, ScAt w a.block (a.off + i) o ∧ a.block < w.heap.size := fun i hil => by
      obtain ⟨cs', hc, ht⟩ := hi i (by omega)
      rw [cellsScen] at hc
      obtain ⟨_, hl2, hat⟩ := World.cells?_some hc
      obtain ⟨o, A', c', rfl, hle, hho⟩ := open_scen ht
      have h0 := hat 0 (by omega)
      rw [Go.Deep.add_add] at h0
      have h1 := add_cell h0
      have e1 : a.off + (i * 1 + 0) = a.off + i := by omega
      rw [e1] at h1
      exact ⟨o, ⟨A', c', h1.1, hle, hho⟩, h1.2⟩
    obtain ⟨os, ho, hos⟩ := exists_list [] _ len hel
    subst ho
    refine ⟨some a, os, cap, rfl, fun hne => ?_⟩
    have h0 : 0 < os.length := List.length_pos_iff.2 hne
    have hb0 := (hos 0 h0).2
    have hsp : a = ⟨a.block, a.off, none⟩ := by
      obtain ⟨cs', hc, ht⟩ := hi 0 (by omega)
      obtain ⟨_, hl2, hat⟩ := World.cells?_some hc
      rw [cellsScen] at hat hl2
      exact addr_plain hl2 (by omega) hat
    exact ⟨a.block, a.off, by rw [← hsp], hb0, fun k hk => (hos k hk).1⟩
theorem array1 {α : Type} {cs : Array α} (h : cs.size = 1) : ∃ c0, cs = #[c0] := by
  obtain ⟨l⟩ := cs
  match l, h with
  | [c0], _ => exact ⟨c0, rfl⟩
theorem array7 {α : Type} {cs : Array α} (h : cs.size = 7) : ∃ c0 c1 c2 c3 c4 c5 c6, cs = #[c0, c1, c2, c3, c4, c5, c6] := by
  obtain ⟨l⟩ := cs
  match l, h with
  | [c0, c1, c2, c3, c4, c5, c6], _ => exact ⟨c0, c1, c2, c3, c4, c5, c6, rfl⟩
set_option maxRecDepth 100000 in
theorem open_forecast {r : Reach} {b0 : Nat} {v : Value} {d : DataW H} {p : List MemPlace} (hv : Value.okWide Tryz.prog w r b0 24 v) (h : DataW.Trod enc Tryz.prog w base spare held 24 v d p) :
    ∃ A f c, v = .agg #[.slice A (List.length f) c] ∧ ScsAt w A f := by
  obtain ⟨cs, rfl, hsz⟩ := okWide_struct Tryz.underlying24 hv
  obtain ⟨c0, rfl⟩ := array1 (hsz.trans cellsFore)
  obtain ⟨fuel, hf0⟩ := h
  obtain ⟨ys, n', hn', hy, hlen, hyl, hf⟩ := DataW.trod_struct Tryz.underlying24 hf0
  obtain ⟨y0, h0, _⟩ := field_of hyl hf 0 rfl (t := 22) (o := 0) rfl rfl cellsSlS
  have h0' : DataW.trod enc Tryz.prog w base spare held n' 22 [c0] = some y0 := h0
  obtain ⟨A, f, c, g0, hs⟩ := open_scens h0'
  simp only [List.cons.injEq, and_true] at g0
  subst g0
  exact ⟨A, f, c, rfl, hs⟩
theorem cellsReal : Tryz.prog.cellsOf 60 = 7 := by kernel_rfl
set_option maxRecDepth 100000 in
theorem open_real {r : Reach} {b0 : Nat} {v : Value} {d : DataW H} {p : List MemPlace} (hv : Value.okWide Tryz.prog w r b0 60 v) (h : DataW.Trod enc Tryz.prog w base spare held 60 v d p) :
    ∃ SA seen sc KA skies kc l len, v = .agg #[.slice SA (List.length seen) sc, .slice KA (List.length skies) kc, .int .i64 (Lm.wind l), .int .i64 l.rain, .int .i64 l.tl, .int .i64 l.th, .int .i64 len] ∧ SgsAt w SA seen ∧ (∀ s ∈ seen, (Lit.int .i64 (Sg.hour s)).wf = true) ∧ SksAt w KA skies := by
  obtain ⟨cs, rfl, hsz⟩ := okWide_struct Tryz.underlying60 hv
  obtain ⟨c0, c1, c2, c3, c4, c5, c6, rfl⟩ := array7 (hsz.trans cellsReal)
  obtain ⟨fuel, hf0⟩ := h
  obtain ⟨ys, n', hn', hy, hlen, hyl, hf⟩ := DataW.trod_struct Tryz.underlying60 hf0
  obtain ⟨y0, h0, _⟩ := field_of hyl hf 0 rfl (t := 25) (o := 0) rfl rfl cellsSlG
  obtain ⟨y1, h1, _⟩ := field_of hyl hf 1 rfl (t := 58) (o := 1) rfl rfl cellsSlK
  obtain ⟨y2, h2, _⟩ := field_of hyl hf 2 rfl (t := 29) (o := 2) rfl rfl cellsLim
  obtain ⟨y3, h3, _⟩ := field_of hyl hf 3 rfl (t := 3) (o := 6) rfl rfl cellsInt
  have h0' : DataW.trod enc Tryz.prog w base spare held n' 25 [c0] = some y0 := h0
  have h1' : DataW.trod enc Tryz.prog w base spare held n' 58 [c1] = some y1 := h1
  have h2' : DataW.trod enc Tryz.prog w base spare held n' 29 [c2, c3, c4, c5] = some y2 := h2
  have h3' : DataW.trod enc Tryz.prog w base spare held n' 3 [c6] = some y3 := h3
  obtain ⟨SA, seen, sc, g0, -, hs, hwf⟩ := open_sights h0'
  obtain ⟨KA, skies, kc, g1, -, hk, -⟩ := open_skies h1'
  obtain ⟨l, g2, -⟩ := open_limits h2'
  obtain ⟨len, g3, -, -⟩ := DataW.trod_int Tryz.underlying3 h3'
  simp only [List.cons.injEq, and_true] at g0 g1 g2 g3
  obtain ⟨g2, g4, g5, g6⟩ := g2
  subst g0 g1 g2 g3 g4 g5 g6
  exact ⟨SA, seen, sc, KA, skies, kc, l, len, rfl, hs, hwf, hk⟩
end
theorem gWide : Tryz.prog.globalNamed "bivouac/weather.widest" = some 0 := by kernel_rfl
theorem tWide : (Tryz.prog.globals[0]?).map (·.type) = some 29 := by kernel_rfl
def laid1 : List (String × DataW Unit) := [("bivouac/weather.widest", Rows.laid_bivouac_weather_widest)]
theorem widW_of {W : World} (h : laidMetH Tryz.prog laid1 W) : WidW W := by
  rw [MakeChecks.laidMetH_plain _ _ _ (by kernel_rfl)] at h
  obtain ⟨ps, ⟨g', t', cs, fuel, p, q, hg', ht', hvar, hd, _, _⟩, _⟩ := h
  obtain rfl := Option.some.inj (gWide.symm.trans hg')
  obtain rfl := Option.some.inj (tWide.symm.trans ht')
  obtain ⟨o, hc, hx⟩ := open_limits hd
  have hx' : (Rows.laid_bivouac_weather_widest : DataW Unit) = .agg [.lit (.int .i64 o.wind), .lit (.int .i64 o.rain), .agg [.lit (.int .i64 o.tl), .lit (.int .i64 o.th)]] := hx
  unfold Rows.laid_bivouac_weather_widest at hx'
  simp only [DataW.agg.injEq, List.cons.injEq, DataW.lit.injEq, Lit.int.injEq, true_and, and_true] at hx'
  obtain ⟨e1, e2, e3, e4⟩ := hx'
  have hcs : cs = #[.int .i64 200, .int .i64 100, .int .i64 (-50), .int .i64 50] := by
    rw [← e1, ← e2, ← e3, ← e4] at hc
    rw [← Array.toArray_toList (xs := cs), hc]
  subst hcs
  have c0 := World.var?_cell hg' hvar 0
  refine ⟨?_, c0, World.var?_cell hg' hvar 1, World.var?_cell hg' hvar 2, World.var?_cell hg' hvar 3⟩
  unfold World.cell? at c0
  split at c0
  · rename_i hh
    have := (Array.getElem?_eq_some_iff.1 hh).1
    dsimp only at this
    omega
  · simp at c0
end Go.Proofs.YtecamnhnjmldcaaGreatDoor
