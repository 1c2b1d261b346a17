/- Models, ropes and truths as arguments: opened to their cells. -/
import Derived.Test.YtggggnjibedgaaaGreatB01
import Derived.Deep.Slices
import Derived.Deep.Fields
import Derived.ChangeSame
import Derived.OpenShut
import Derived.Lib.SmallJoins
import Derived.ProofKit
set_option linter.unusedSimpArgs false
set_option linter.unusedVariables false
namespace Go.Proofs.YtggggnjibedgaaaGreat
open Go.RowKit
open Go.ChangeShapes Go.WideShapes Go.Deep Go.Joins
theorem exists_list {α : Type} (d : α) (P : Nat → α → Prop) : ∀ n, (∀ i, i < n → ∃ x, P i x) → ∃ xs : List α, xs.length = n ∧ ∀ i, i < n → P i (xs.getD i d)
  | 0, _ => ⟨[], rfl, fun i hi => by omega⟩
  | n + 1, h => by
    obtain ⟨xs, hl, hx⟩ := exists_list d P n (fun i hi => h i (by omega))
    obtain ⟨x, hp⟩ := h n (by omega)
    refine ⟨xs ++ [x], by simp [hl], fun i hi => ?_⟩
    by_cases hin : i < n
    · have := hx i hin
      rwa [List.getD_eq_getElem?_getD, List.getElem?_append_left (by omega), ← List.getD_eq_getElem?_getD]
    · obtain rfl : i = n := by omega
      rw [List.getD_eq_getElem?_getD, List.getElem?_append_right (by omega), hl, Nat.sub_self]
      exact hp
theorem add_cell {w : World} {a : Addr} {n : Nat} {v : Value} (h : w.cell? (a.add n) = some v) : w.cell? ⟨a.block, a.off + n, none⟩ = some v ∧ a.block < w.heap.size := by
  have hb : a.block < w.heap.size := by
    unfold World.cell? at h
    split at h
    · rename_i hh
      have := (Array.getElem?_eq_some_iff.1 hh).1
      rwa [show (a.add n).block = a.block by unfold Addr.add; split <;> rfl] at this
    · cases h
  refine ⟨?_, hb⟩
  unfold Addr.add at h
  split at h
  · rename_i hn
    subst hn
    obtain ⟨b, o, s⟩ := a
    cases s with
    | none => simpa using h
    | some s => unfold World.cell? at h; split at h <;> simp at h
  · exact h
theorem addr_plain {w : World} {a : Addr} {cs' : List Value} {e : Nat} {n : Nat} (hl : cs'.length = n) (hn : 0 < n) (hat : ∀ j, j < n → w.cell? ((a.add (0 * e)).add j) = cs'[j]?) : a = ⟨a.block, a.off, none⟩ := by
  have a0 := hat 0 hn
  obtain ⟨b, o, sp⟩ := a
  cases sp with
  | none => rfl
  | some sp =>
    exfalso
    have hn : cs'[0]? ≠ none := by rw [List.getElem?_eq_getElem (by omega)]; simp
    apply hn
    rw [← a0]
    simp only [Nat.zero_mul, Addr.add, if_true]
    unfold World.cell?
    split <;> simp
theorem cellsWear : Tryz.prog.cellsOf 148 = 2 := by kernel_rfl
theorem cellsFall : Tryz.prog.cellsOf 75 = 5 := by kernel_rfl
theorem cellsSpan : Tryz.prog.cellsOf 33 = 2 := by kernel_rfl
theorem cellsModel : Tryz.prog.cellsOf 24 = 4 := by kernel_rfl
theorem cellsRope : Tryz.prog.cellsOf 27 = 4 := by kernel_rfl
theorem cellsInt : Tryz.prog.cellsOf 3 = 1 := by kernel_rfl
theorem cellsSlW : Tryz.prog.cellsOf 22 = 1 := by kernel_rfl
theorem cellsSlF : Tryz.prog.cellsOf 25 = 1 := by kernel_rfl
theorem cellsSlI : Tryz.prog.cellsOf 45 = 1 := by kernel_rfl
theorem cellsTruth : Tryz.prog.cellsOf 66 = 2 := by kernel_rfl
theorem cellsReal : Tryz.prog.cellsOf 68 = 3 := by kernel_rfl
theorem some_of_len {α : Type} {xs : List α} {n : Nat} (h : xs.length = n) {k : Nat} (hk : k < n) : ∃ y, xs[k]? = some y := ⟨_, List.getElem?_eq_getElem (by omega)⟩
section
variable {H : Type} {enc : TypeId × Value → H} {w : World} {base : Nat} {spare : Nat → Bool} {held : Bool}
/-- A field of a struct that is opened. -/
theorem field_of {n' : Nat} {cs : List Value} {fs : Array Field} {ys : List (DataW H × List MemPlace)} (hyl : ys.length = fs.size) (hf : ∀ (i : Nat) (f : Field), fs[i]? = some f → DataW.trod enc Tryz.prog w base spare held n' f.type ((cs.drop f.offset).take (Tryz.prog.cellsOf f.type)) = ys[i]?)
    (i : Nat) {f : Field} (hi : fs[i]? = some f) {t o k : Nat} (ht : f.type = t) (ho : f.offset = o) (hk : Tryz.prog.cellsOf t = k) : ∃ y, DataW.trod enc Tryz.prog w base spare held n' t ((cs.drop o).take k) = some y ∧ ys[i]? = some y := by
  have hlt := (Array.getElem?_eq_some_iff.1 hi).1
  obtain ⟨y, hy⟩ := some_of_len hyl hlt
  have := hf i f hi
  rw [ht, ho, hk, hy] at this
  exact ⟨y, this, hy⟩
set_option maxRecDepth 100000 in
theorem open_wear {fuel : Nat} {cs : List Value} {x : DataW H × List MemPlace} (h : DataW.trod enc Tryz.prog w base spare held fuel 148 cs = some x) : ∃ o : Wr, cs = [.int .i64 o.fac, .int .i64 o.dmg] := by
  obtain ⟨ys, n', hn', hy, hlen, hyl, hf⟩ := DataW.trod_struct Tryz.underlying148 h
  obtain ⟨y0, h0, _⟩ := field_of hyl hf 0 rfl (t := 3) (o := 0) rfl rfl cellsInt
  obtain ⟨y1, h1, _⟩ := field_of hyl hf 1 rfl (t := 3) (o := 1) rfl rfl cellsInt
  rw [cellsWear] at hlen
  match cs, hlen with
  | [c0, c1], _ =>
    simp only [List.drop_zero, List.drop_succ_cons, List.take_succ_cons, List.take_zero] at h0 h1
    obtain ⟨a0, g0, _, _⟩ := DataW.trod_int Tryz.underlying3 h0
    obtain ⟨a1, g1, _, _⟩ := DataW.trod_int Tryz.underlying3 h1
    simp only [List.cons.injEq, and_true] at g0 g1
    subst g0 g1
    exact ⟨⟨a0, a1⟩, rfl⟩
set_option maxRecDepth 100000 in
theorem open_fall {fuel : Nat} {cs : List Value} {x : DataW H × List MemPlace} (h : DataW.trod enc Tryz.prog w base spare held fuel 75 cs = some x) : ∃ o : Fl, cs = [.int .i64 o.day, .int .i64 o.hl, .int .i64 o.hh, .int .i64 o.ol, .int .i64 o.oh] := by
  obtain ⟨ys, n', hn', hy, hlen, hyl, hf⟩ := DataW.trod_struct Tryz.underlying75 h
  obtain ⟨y0, h0, _⟩ := field_of hyl hf 0 rfl (t := 3) (o := 0) rfl rfl cellsInt
  obtain ⟨y1, h1, _⟩ := field_of hyl hf 1 rfl (t := 33) (o := 1) rfl rfl cellsSpan
  obtain ⟨y2, h2, _⟩ := field_of hyl hf 2 rfl (t := 33) (o := 3) rfl rfl cellsSpan
  rw [cellsFall] at hlen
  match cs, hlen with
  | [c0, c1, c2, c3, c4], _ =>
    simp only [List.drop_zero, List.drop_succ_cons, List.take_succ_cons, List.take_zero] at h0 h1 h2
    obtain ⟨a0, g0, _, _⟩ := DataW.trod_int Tryz.underlying3 h0
    obtain ⟨_, _, _, _, _, i1, j1⟩ := trod_struct2 Tryz.underlying33 h1
    obtain ⟨_, _, _, _, _, i2, j2⟩ := trod_struct2 Tryz.underlying33 h2
    rw [cellsInt] at i1 j1 i2 j2
    simp only [List.drop_zero, List.drop_succ_cons, List.take_succ_cons, List.take_zero] at i1 j1 i2 j2
    obtain ⟨a1, g1, _, _⟩ := DataW.trod_int Tryz.underlying3 i1
    obtain ⟨a2, g2, _, _⟩ := DataW.trod_int Tryz.underlying3 j1
    obtain ⟨a3, g3, _, _⟩ := DataW.trod_int Tryz.underlying3 i2
    obtain ⟨a4, g4, _, _⟩ := DataW.trod_int Tryz.underlying3 j2
    simp only [List.cons.injEq, and_true] at g0 g1 g2 g3 g4
    subst g0 g1 g2 g3 g4
    exact ⟨⟨a0, a1, a2, a3, a4⟩, rfl⟩
set_option maxRecDepth 100000 in
theorem open_wears {fuel : Nat} {cs : List Value} {x : DataW H × List MemPlace} (h : DataW.trod enc Tryz.prog w base spare held fuel 22 cs = some x) :
    ∃ A os c, cs = [.slice A os.length c] ∧ os.length ≤ c ∧ WrsAt w A os ∧ ∀ o : Wr, o ∈ os → True := by
  rcases open_slice Tryz.underlying22 h with ⟨rfl, _⟩ | ⟨a, len, cap, m, n, D, Pl, rfl, hb, hl, hm, hmm, hx, hi⟩
  · exact ⟨none, [], 0, rfl, Nat.le_refl _, fun h => absurd rfl h, fun o ho => by cases ho⟩
  · have hlm : len ≤ m := by rw [hmm]; split <;> omega
    have hel : ∀ i, i < len → ∃ o : Wr, WrAt w a.block (a.off + i * 2) o ∧ a.block < w.heap.size ∧ True := fun i hil => by
      obtain ⟨cs', hc, ht⟩ := hi i (by omega)
      rw [cellsWear] at hc
      obtain ⟨_, hl2, hat⟩ := World.cells?_some hc
      obtain ⟨o, rfl⟩ := open_wear ht
      have hk : ∀ k v, ([.int .i64 o.fac, .int .i64 o.dmg] : List Value)[k]? = some v → k < 2 → w.cell? ⟨a.block, a.off + i * 2 + k, none⟩ = some v ∧ a.block < w.heap.size := fun k v hv hk8 => by
        have h0 := (hat k hk8).trans hv
        rw [Go.Deep.add_add] at h0
        have h1 := add_cell h0
        exact ⟨by rw [Nat.add_assoc]; exact h1.1, h1.2⟩
      exact ⟨o, ⟨(hk 0 _ rfl (by omega)).1, (hk 1 _ rfl (by omega)).1⟩, (hk 0 _ rfl (by omega)).2, trivial⟩
    obtain ⟨os, ho, hos⟩ := exists_list zeroWr _ len hel
    subst ho
    refine ⟨some a, os, cap, rfl, hl, fun hne => ?_, fun o ho => ?_⟩
    · have h0 : 0 < os.length := List.length_pos_iff.2 hne
      have hb0 := (hos 0 h0).2.1
      have hsp : a = ⟨a.block, a.off, none⟩ := by
        obtain ⟨cs', hc, ht⟩ := hi 0 (by omega)
        obtain ⟨_, hl2, hat⟩ := World.cells?_some hc
        rw [cellsWear] at hat hl2
        exact addr_plain hl2 (by omega) hat
      exact ⟨a.block, a.off, by rw [← hsp], hb0, fun k hk => (hos k hk).1⟩
    · obtain ⟨i, hi', rfl⟩ := List.getElem_of_mem ho
      have h9 := (hos i hi').2.2
      have e9 : os.getD i zeroWr = os[i] := by simp [List.getD, List.getElem?_eq_getElem hi']
      first | trivial | (rw [e9] at h9; exact h9)
set_option maxRecDepth 100000 in
theorem open_falls {fuel : Nat} {cs : List Value} {x : DataW H × List MemPlace} (h : DataW.trod enc Tryz.prog w base spare held fuel 25 cs = some x) :
    ∃ A os c, cs = [.slice A os.length c] ∧ os.length ≤ c ∧ FlsAt w A os ∧ ∀ o : Fl, o ∈ os → True := by
  rcases open_slice Tryz.underlying25 h with ⟨rfl, _⟩ | ⟨a, len, cap, m, n, D, Pl, rfl, hb, hl, hm, hmm, hx, hi⟩
  · exact ⟨none, [], 0, rfl, Nat.le_refl _, fun h => absurd rfl h, fun o ho => by cases ho⟩
  · have hlm : len ≤ m := by rw [hmm]; split <;> omega
    have hel : ∀ i, i < len → ∃ o : Fl, FlAt w a.block (a.off + i * 5) o ∧ a.block < w.heap.size ∧ True := fun i hil => by
      obtain ⟨cs', hc, ht⟩ := hi i (by omega)
      rw [cellsFall] at hc
      obtain ⟨_, hl2, hat⟩ := World.cells?_some hc
      obtain ⟨o, rfl⟩ := open_fall ht
      have hk : ∀ k v, ([.int .i64 o.day, .int .i64 o.hl, .int .i64 o.hh, .int .i64 o.ol, .int .i64 o.oh] : List Value)[k]? = some v → k < 5 → w.cell? ⟨a.block, a.off + i * 5 + k, none⟩ = some v ∧ a.block < w.heap.size := fun k v hv hk8 => by
        have h0 := (hat k hk8).trans hv
        rw [Go.Deep.add_add] at h0
        have h1 := add_cell h0
        exact ⟨by rw [Nat.add_assoc]; exact h1.1, h1.2⟩
      exact ⟨o, ⟨(hk 0 _ rfl (by omega)).1, (hk 1 _ rfl (by omega)).1, (hk 2 _ rfl (by omega)).1, (hk 3 _ rfl (by omega)).1, (hk 4 _ rfl (by omega)).1⟩, (hk 0 _ rfl (by omega)).2, trivial⟩
    obtain ⟨os, ho, hos⟩ := exists_list zeroFl _ len hel
    subst ho
    refine ⟨some a, os, cap, rfl, hl, fun hne => ?_, fun o ho => ?_⟩
    · have h0 : 0 < os.length := List.length_pos_iff.2 hne
      have hb0 := (hos 0 h0).2.1
      have hsp : a = ⟨a.block, a.off, none⟩ := by
        obtain ⟨cs', hc, ht⟩ := hi 0 (by omega)
        obtain ⟨_, hl2, hat⟩ := World.cells?_some hc
        rw [cellsFall] at hat hl2
        exact addr_plain hl2 (by omega) hat
      exact ⟨a.block, a.off, by rw [← hsp], hb0, fun k hk => (hos k hk).1⟩
    · obtain ⟨i, hi', rfl⟩ := List.getElem_of_mem ho
      have h9 := (hos i hi').2.2
      have e9 : os.getD i zeroFl = os[i] := by simp [List.getD, List.getElem?_eq_getElem hi']
      first | trivial | (rw [e9] at h9; exact h9)
set_option maxRecDepth 100000 in
theorem open_ints {fuel : Nat} {cs : List Value} {x : DataW H × List MemPlace} (h : DataW.trod enc Tryz.prog w base spare held fuel 45 cs = some x) :
    ∃ A os c, cs = [.slice A (List.length os) c] ∧ IntsAt w A os := by
  rcases open_slice Tryz.underlying45 h with ⟨rfl, _⟩ | ⟨a, len, cap, m, n, D, Pl, rfl, hb, hl, hm, hmm, hx, hi⟩
  · exact ⟨none, [], 0, rfl, fun h => absurd rfl h⟩
  · have hlm : len ≤ m := by rw [hmm]; split <;> omega
    have hel : ∀ i, i < len → ∃ o : Int, w.cell? ⟨a.block, a.off + i, none⟩ = some (.int .i64 o) ∧ a.block < w.heap.size := fun i hil => by
      obtain ⟨cs', hc, ht⟩ := hi i (by omega)
      rw [cellsInt] at hc
      obtain ⟨_, hl2, hat⟩ := World.cells?_some hc
      obtain ⟨o, e0, _, _⟩ := DataW.trod_int Tryz.underlying3 ht
      subst e0
      have h0 := hat 0 (by omega)
      rw [Go.Deep.add_add] at h0
      have h1 := add_cell h0
      have e1 : a.off + (i * 1 + 0) = a.off + i := by omega
      rw [e1] at h1
      exact ⟨o, h1⟩
    obtain ⟨os, ho, hos⟩ := exists_list 0 _ len hel
    subst ho
    refine ⟨some a, os, cap, rfl, fun hne => ?_⟩
    have h0 : 0 < os.length := List.length_pos_iff.2 hne
    have hb0 := (hos 0 h0).2
    have hsp : a = ⟨a.block, a.off, none⟩ := by
      obtain ⟨cs', hc, ht⟩ := hi 0 (by omega)
      obtain ⟨_, hl2, hat⟩ := World.cells?_some hc
      rw [cellsInt] at hat hl2
      exact addr_plain hl2 (by omega) hat
    exact ⟨a.block, a.off, by rw [← hsp], hb0, fun k hk => (hos k hk).1⟩
theorem array3 {α : Type} {cs : Array α} (h : cs.size = 3) : ∃ c0 c1 c2, cs = #[c0, c1, c2] := by
  obtain ⟨l⟩ := cs
  match l, h with
  | [c0, c1, c2], _ => exact ⟨c0, c1, c2, rfl⟩
set_option maxRecDepth 100000 in
theorem open_model {r : Reach} {b0 : Nat} {v : Value} {d : DataW H} {p : List MemPlace} (hv : Value.okWide Tryz.prog w r b0 24 v) (h : DataW.Trod enc Tryz.prog w base spare held 24 v d p) :
    ∃ (m : Md) (A : Option Addr) (c : Nat), v = m.val A c ∧ WrsAt w A m.wears := by
  obtain ⟨cs, rfl, hsz⟩ := okWide_struct Tryz.underlying24 hv
  obtain ⟨c0, c1, c2, c3, rfl⟩ := array4 (hsz.trans cellsModel)
  obtain ⟨fuel, hf0⟩ := h
  obtain ⟨ys, n', hn', hy, hlen, hyl, hf⟩ := DataW.trod_struct Tryz.underlying24 hf0
  obtain ⟨y0, h0, _⟩ := field_of hyl hf 0 rfl (t := 3) (o := 0) rfl rfl cellsInt
  obtain ⟨y1, h1, _⟩ := field_of hyl hf 1 rfl (t := 3) (o := 1) rfl rfl cellsInt
  obtain ⟨y2, h2, _⟩ := field_of hyl hf 2 rfl (t := 3) (o := 2) rfl rfl cellsInt
  obtain ⟨y3, h3, _⟩ := field_of hyl hf 3 rfl (t := 22) (o := 3) rfl rfl cellsSlW
  have h0' : DataW.trod enc Tryz.prog w base spare held n' 3 [c0] = some y0 := h0
  have h1' : DataW.trod enc Tryz.prog w base spare held n' 3 [c1] = some y1 := h1
  have h2' : DataW.trod enc Tryz.prog w base spare held n' 3 [c2] = some y2 := h2
  have h3' : DataW.trod enc Tryz.prog w base spare held n' 22 [c3] = some y3 := h3
  obtain ⟨a0, g0, _, _⟩ := DataW.trod_int Tryz.underlying3 h0'
  obtain ⟨a1, g1, _, _⟩ := DataW.trod_int Tryz.underlying3 h1'
  obtain ⟨a2, g2, _, _⟩ := DataW.trod_int Tryz.underlying3 h2'
  obtain ⟨A, os, c, g3, _, hs, _⟩ := open_wears h3'
  simp only [List.cons.injEq, and_true] at g0 g1 g2 g3
  subst g0 g1 g2 g3
  exact ⟨⟨a0, a1, a2, os⟩, A, c, rfl, hs⟩
set_option maxRecDepth 100000 in
theorem open_rope {r : Reach} {b0 : Nat} {v : Value} {d : DataW H} {p : List MemPlace} (hv : Value.okWide Tryz.prog w r b0 27 v) (h : DataW.Trod enc Tryz.prog w base spare held 27 v d p) :
    ∃ (m : Ro) (A : Option Addr) (c : Nat), v = m.val A c ∧ m.falls.length ≤ c ∧ FlsAt w A m.falls := by
  obtain ⟨cs, rfl, hsz⟩ := okWide_struct Tryz.underlying27 hv
  obtain ⟨c0, c1, c2, c3, rfl⟩ := array4 (hsz.trans cellsRope)
  obtain ⟨fuel, hf0⟩ := h
  obtain ⟨ys, n', hn', hy, hlen, hyl, hf⟩ := DataW.trod_struct Tryz.underlying27 hf0
  obtain ⟨y0, h0, _⟩ := field_of hyl hf 0 rfl (t := 3) (o := 0) rfl rfl cellsInt
  obtain ⟨y1, h1, _⟩ := field_of hyl hf 1 rfl (t := 3) (o := 1) rfl rfl cellsInt
  obtain ⟨y2, h2, _⟩ := field_of hyl hf 2 rfl (t := 3) (o := 2) rfl rfl cellsInt
  obtain ⟨y3, h3, _⟩ := field_of hyl hf 3 rfl (t := 25) (o := 3) rfl rfl cellsSlF
  have h0' : DataW.trod enc Tryz.prog w base spare held n' 3 [c0] = some y0 := h0
  have h1' : DataW.trod enc Tryz.prog w base spare held n' 3 [c1] = some y1 := h1
  have h2' : DataW.trod enc Tryz.prog w base spare held n' 3 [c2] = some y2 := h2
  have h3' : DataW.trod enc Tryz.prog w base spare held n' 25 [c3] = some y3 := h3
  obtain ⟨a0, g0, _, _⟩ := DataW.trod_int Tryz.underlying3 h0'
  obtain ⟨a1, g1, _, _⟩ := DataW.trod_int Tryz.underlying3 h1'
  obtain ⟨a2, g2, _, _⟩ := DataW.trod_int Tryz.underlying3 h2'
  obtain ⟨A, os, c, g3, hle, hs, _⟩ := open_falls h3'
  simp only [List.cons.injEq, and_true] at g0 g1 g2 g3
  subst g0 g1 g2 g3
  exact ⟨⟨a0, a1, a2, os⟩, A, c, rfl, hle, hs⟩
set_option maxRecDepth 100000 in
theorem open_real {r : Reach} {b0 : Nat} {v : Value} {d : DataW H} {p : List MemPlace} (hv : Value.okWide Tryz.prog w r b0 68 v) (h : DataW.Trod enc Tryz.prog w base spare held 68 v d p) :
    ∃ D HA hs hc OA os oc, v = .agg #[.int .i64 D, .slice HA (List.length hs) hc, .slice OA (List.length os) oc] ∧ IntsAt w HA hs ∧ IntsAt w OA os := by
  obtain ⟨cs, rfl, hsz⟩ := okWide_struct Tryz.underlying68 hv
  obtain ⟨c0, c1, c2, rfl⟩ := array3 (hsz.trans cellsReal)
  obtain ⟨fuel, hf0⟩ := h
  obtain ⟨ys, n', hn', hy, hlen, hyl, hf⟩ := DataW.trod_struct Tryz.underlying68 hf0
  obtain ⟨y0, h0, _⟩ := field_of hyl hf 0 rfl (t := 3) (o := 0) rfl rfl cellsInt
  obtain ⟨y1, h1, _⟩ := field_of hyl hf 1 rfl (t := 66) (o := 1) rfl rfl cellsTruth
  have h0' : DataW.trod enc Tryz.prog w base spare held n' 3 [c0] = some y0 := h0
  have h1' : DataW.trod enc Tryz.prog w base spare held n' 66 [c1, c2] = some y1 := h1
  obtain ⟨a0, g0, _, _⟩ := DataW.trod_int Tryz.underlying3 h0'
  obtain ⟨zs, n2, hn2, hy2, hlen2, hyl2, hf2⟩ := DataW.trod_struct Tryz.underlying66 h1'
  obtain ⟨z0, k0, _⟩ := field_of hyl2 hf2 0 rfl (t := 45) (o := 0) rfl rfl cellsSlI
  obtain ⟨z1, k1, _⟩ := field_of hyl2 hf2 1 rfl (t := 45) (o := 1) rfl rfl cellsSlI
  have k0' : DataW.trod enc Tryz.prog w base spare held n2 45 [c1] = some z0 := k0
  have k1' : DataW.trod enc Tryz.prog w base spare held n2 45 [c2] = some z1 := k1
  obtain ⟨HA, hs, hc, g1, i1⟩ := open_ints k0'
  obtain ⟨OA, os, oc, g2, i2⟩ := open_ints k1'
  simp only [List.cons.injEq, and_true] at g0 g1 g2
  subst g0 g1 g2
  exact ⟨a0, HA, hs, hc, OA, os, oc, rfl, i1, i2⟩
end
end Go.Proofs.YtggggnjibedgaaaGreat
/- What each statement's proof about ropes begins with. -/
set_option linter.unusedSimpArgs false
set_option linter.unusedVariables false
namespace Go.Proofs.YtggggnjibedgaaaGreat
open Go.RowKit
theorem own : ownKnob Tryz.prog.godebug = none := by kernel_rfl
theorem laidOut : laidOutB Tryz.prog = true := by kernel_rfl
end Go.Proofs.YtggggnjibedgaaaGreat
