/- Memory that only grows (Ext), and how the data of layer 1 lie in memory. -/
import Derived.Test.YtndoghcglbpllaaRows
import Derived.WalkKit
import Derived.WalkSpells
import Derived.WalkLawsBesides
import Derived.Deep.Slices
import Derived.Deep.Fields
import Derived.ChangeSame
import Derived.Lib.SmallJoins
set_option linter.unusedSimpArgs false
set_option linter.unusedVariables false
namespace Go.Proofs.Ytndoghcglbpllaa
open Go.RowKit

/-- All that was there is as it was. -/
def Ext (w w' : World) : Prop := Below w.heap.size w w'
theorem Ext.refl (w : World) : Ext w w := Below.refl _ _
theorem Ext.size {a b : World} (h : Ext a b) : a.heap.size ≤ b.heap.size := Below.size h
theorem Ext.trans {a b c : World} (h : Ext a b) (k : Ext b c) : Ext a c := Below.trans h (Below.mono k h.size)
theorem Ext.alloc {a b : World} (h : Ext a b) (o : Obj) : Ext a (b.alloc o) := Below.alloc h h.size o
theorem Ext.set {a b : World} (h : Ext a b) {p : Addr} (hp : a.heap.size ≤ p.block) (u : Value) : Ext a (b.setCell p u) := Below.setCell h hp u
theorem Ext.drew {a b : World} (h : Ext a b) : Ext a b.drew := Below.drew h
theorem Ext.drewN {a b : World} (h : Ext a b) (n : Nat) : Ext a (b.drewN n) := by
  have h' : Below a.heap.size a b := h
  exact ⟨h'.os, h'.tape, h'.output, h'.size, h'.block⟩
theorem Ext.cell {a b : World} (h : Ext a b) {p : Addr} (hp : p.block < a.heap.size) : b.cell? p = a.cell? p := Below.cell h hp
theorem Ext.frozen {a b : World} (h : Ext a b) {p : Addr} (hp : p.block < a.heap.size) : b.frozen? p = a.frozen? p := Below.frozen h hp
theorem Ext.sizeLe {a b : World} {n : Nat} (h : Ext a b) (k : n ≤ a.heap.size) : n ≤ b.heap.size := Nat.le_trans k h.size
theorem ext_alloc1 (w : World) (o : Obj) : Ext w (w.alloc o) := (Ext.refl w).alloc o

/-- What a cell holds. -/
def heldAt (w : World) (a : Addr) : Value := (w.cell? a).getD undef
theorem held_of {w : World} {a : Addr} {v : Value} (h : w.cell? a = some v) : w.cell? a = some (heldAt w a) := by unfold heldAt; rw [h]; rfl
theorem held_some {w : World} {a : Addr} (h : (w.cell? a).isSome = true) : w.cell? a = some (heldAt w a) := by
  obtain ⟨v, hv⟩ := Option.isSome_iff_exists.1 h
  exact held_of hv
theorem held_ext {w w' : World} {a : Addr} (e : Ext w w') (hb : a.block < w.heap.size) (h : w.cell? a = some (heldAt w a)) : w'.cell? a = some (heldAt w' a) := held_of ((e.cell hb).trans h)
theorem held_set (w : World) (p : Addr) (u : Value) (a : Addr) (h : w.cell? a = some (heldAt w a)) : (w.setCell p u).cell? a = some (heldAt (w.setCell p u) a) := by
  by_cases hp : a = p
  · subst hp
    exact held_of (World.cell?_setCell_same' w a u (by rw [h]; rfl))
  · exact held_of ((World.cell?_setCell_other w p a u (by first | exact hp | exact fun e => hp e.symm)).trans h)
theorem cell_set_val {w : World} {p : Addr} {u x : Value} (h : (w.setCell p u).cell? p = some x) : (w.setCell p u).cell? p = some u := by
  cases hw : w.cell? p with
  | none =>
    exfalso
    revert h hw
    unfold World.cell? World.setCell
    simp only [Array.getElem?_modify]
    cases hh : w.heap[p.block]? with
    | none => simp
    | some o =>
      cases o with
      | cells c e f =>
        by_cases hs : p.spot.isSome = true
        · simp [hs]
        · simp only [Bool.not_eq_true] at hs
          simp only [hs, Option.map_some]
          intro hx h0
          have hlt := (Array.getElem?_eq_some_iff.1 (by simpa [hs] using hx)).1
          simp at hlt
          simp at h0
          omega
      | _ => simp
  | some y => exact World.cell?_setCell_same' w p u (by rw [hw]; rfl)

theorem cell_set_val2 {w : World} {p q : Addr} {u v x : Value} (hne : q ≠ p) (h : ((w.setCell p u).setCell q v).cell? p = some x) : ((w.setCell p u).setCell q v).cell? p = some u := by
  rw [World.cell?_setCell_other _ _ _ _ hne] at h ⊢
  exact cell_set_val h

/-- The world of a walk under a name of its own, with what is known of it. -/
theorem wp_abs {P : Program} {c : Code} {Q : Exit → Act → World → Prop} {a : Act} {w : World} (F : World → Prop) (hF : F w) (h : ∀ W, F W → Code.wp P c Q a W) : Code.wp P c Q a w := h w hF

/-- What lies below block n is as it was. -/
theorem kcell {w1 w2 W : World} {n : Nat} (h : ∀ b o, b < n → w1.cell? ⟨b, o, none⟩ = W.cell? ⟨b, o, none⟩) (hn : n ≤ w1.heap.size) (e : Ext w1 w2) : ∀ b o, b < n → w2.cell? ⟨b, o, none⟩ = W.cell? ⟨b, o, none⟩ :=
  fun b o hb => (e.cell (p := ⟨b, o, none⟩) (Nat.lt_of_lt_of_le hb hn)).trans (h b o hb)
theorem kcell_set {w1 W : World} {n : Nat} (h : ∀ b o, b < n → w1.cell? ⟨b, o, none⟩ = W.cell? ⟨b, o, none⟩) {p : Addr} (hp : n ≤ p.block) (u : Value) : ∀ b o, b < n → (w1.setCell p u).cell? ⟨b, o, none⟩ = W.cell? ⟨b, o, none⟩ :=
  fun b o hb => (World.cell?_setCell_other w1 p ⟨b, o, none⟩ u (fun e => by subst e; simp at hp; omega)).trans (h b o hb)
theorem kcell_refl (W : World) (n : Nat) : ∀ b o, b < n → W.drew.cell? ⟨b, o, none⟩ = W.cell? ⟨b, o, none⟩ := fun _ _ _ => rfl
theorem hfrozen_ext {w w' : World} {a : Addr} (e : Ext w w') (hb : a.block < w.heap.size) (h : w.frozen? a = false) : w'.frozen? a = false := (e.frozen hb).trans h
theorem hfrozen_set {w : World} {a : Addr} (p : Addr) (u : Value) (h : w.frozen? a = false) : (w.setCell p u).frozen? a = false := (World.frozen?_setCell ..).trans h
theorem hsize_set {w : World} {n : Nat} (p : Addr) (u : Value) (h : n ≤ w.heap.size) : n ≤ (w.setCell p u).heap.size := by simpa using h

theorem kfro {w1 w2 W : World} {n : Nat} (h : ∀ b o, b < n → w1.frozen? ⟨b, o, none⟩ = W.frozen? ⟨b, o, none⟩) (hn : n ≤ w1.heap.size) (e : Ext w1 w2) : ∀ b o, b < n → w2.frozen? ⟨b, o, none⟩ = W.frozen? ⟨b, o, none⟩ :=
  fun b o hb => (e.frozen (p := ⟨b, o, none⟩) (Nat.lt_of_lt_of_le hb hn)).trans (h b o hb)
/-- What lay below block n in W lies so in w'. -/
structure KC (n : Nat) (W w' : World) : Prop where
  cell : ∀ b o, b < n → w'.cell? ⟨b, o, none⟩ = W.cell? ⟨b, o, none⟩
  fro : ∀ b o, b < n → w'.frozen? ⟨b, o, none⟩ = W.frozen? ⟨b, o, none⟩
  size : n ≤ w'.heap.size
  ext : Ext W w'
theorem KC.refl {n : Nat} {W : World} (h : n ≤ W.heap.size) : KC n W W := ⟨fun _ _ _ => rfl, fun _ _ _ => rfl, h, Ext.refl W⟩
theorem KC.step {n : Nat} {W w1 w2 : World} (h : KC n W w1) (e : Ext w1 w2) : KC n W w2 := ⟨kcell h.cell h.size e, kfro h.fro h.size e, Ext.sizeLe e h.size, h.ext.trans e⟩

/-- A path as data. -/
structure Pt where
  frm : Int
  dst : Int
  grade : Int
  tl : Int
  th : Int
  sl : Int
  sh : Int
  opens : List (Int × Int)

def zeroPt : Pt := ⟨0, 0, 0, 0, 0, 0, 0, []⟩
def Pt.val (p : Pt) (A : Option Addr) (c : Nat) : Value :=
  .agg #[.int .i64 p.frm, .int .i64 p.dst, .int .i64 p.grade, .int .i64 p.tl, .int .i64 p.th, .int .i64 p.sl, .int .i64 p.sh, .slice A p.opens.length c]

/-- A list of pairs of numbers in memory. -/
def OpensAt (w : World) (A : Option Addr) (os : List (Int × Int)) : Prop :=
  os ≠ [] → ∃ b off, A = some ⟨b, off, none⟩ ∧ b < w.heap.size ∧ ∀ k, k < os.length →
    w.cell? ⟨b, off + k * 2, none⟩ = some (.int .i64 (os.getD k (0, 0)).1) ∧ w.cell? ⟨b, off + k * 2 + 1, none⟩ = some (.int .i64 (os.getD k (0, 0)).2)
theorem OpensAt.ext {w w' : World} {A : Option Addr} {os : List (Int × Int)} (h : OpensAt w A os) (e : Ext w w') : OpensAt w' A os := fun hne => by
  obtain ⟨b, off, hA, hb, hc⟩ := h hne
  refine ⟨b, off, hA, Nat.lt_of_lt_of_le hb e.size, fun k hk => ?_⟩
  rw [e.cell hb, e.cell hb]
  exact hc k hk

/-- The eight cells of a path in memory. -/
structure PtAt (w : World) (b off : Nat) (p : Pt) (A : Option Addr) (c : Nat) : Prop where
  c0 : w.cell? ⟨b, off, none⟩ = some (.int .i64 p.frm)
  c1 : w.cell? ⟨b, off + 1, none⟩ = some (.int .i64 p.dst)
  c2 : w.cell? ⟨b, off + 2, none⟩ = some (.int .i64 p.grade)
  c3 : w.cell? ⟨b, off + 3, none⟩ = some (.int .i64 p.tl)
  c4 : w.cell? ⟨b, off + 4, none⟩ = some (.int .i64 p.th)
  c5 : w.cell? ⟨b, off + 5, none⟩ = some (.int .i64 p.sl)
  c6 : w.cell? ⟨b, off + 6, none⟩ = some (.int .i64 p.sh)
  c7 : w.cell? ⟨b, off + 7, none⟩ = some (.slice A p.opens.length c)
  cap : p.opens.length ≤ c
  opens : OpensAt w A p.opens
theorem PtAt.ext {w w' : World} {b off : Nat} {p : Pt} {A : Option Addr} {c : Nat} (h : PtAt w b off p A c) (hb : b < w.heap.size) (e : Ext w w') : PtAt w' b off p A c :=
  ⟨(e.cell hb).trans h.c0, (e.cell hb).trans h.c1, (e.cell hb).trans h.c2, (e.cell hb).trans h.c3, (e.cell hb).trans h.c4, (e.cell hb).trans h.c5, (e.cell hb).trans h.c6, (e.cell hb).trans h.c7, h.cap, h.opens.ext e⟩

/-- A list of paths in memory. -/
def PathsAt (w : World) (A : Option Addr) (ps : List Pt) : Prop :=
  ps ≠ [] → ∃ b off, A = some ⟨b, off, none⟩ ∧ b < w.heap.size ∧ ∀ k, k < ps.length → ∃ A' c, PtAt w b (off + k * 8) (ps.getD k zeroPt) A' c
theorem PathsAt.ext {w w' : World} {A : Option Addr} {ps : List Pt} (h : PathsAt w A ps) (e : Ext w w') : PathsAt w' A ps := fun hne => by
  obtain ⟨b, off, hA, hb, hc⟩ := h hne
  refine ⟨b, off, hA, Nat.lt_of_lt_of_le hb e.size, fun k hk => ?_⟩
  obtain ⟨A', c, h⟩ := hc k hk
  exact ⟨A', c, h.ext hb e⟩

/-- A list of numbers in memory. -/
def IntsAt (w : World) (A : Option Addr) (xs : List Int) : Prop :=
  xs ≠ [] → ∃ b off, A = some ⟨b, off, none⟩ ∧ b < w.heap.size ∧ ∀ k, k < xs.length → w.cell? ⟨b, off + k, none⟩ = some (.int .i64 (xs.getD k 0))
theorem IntsAt.ext {w w' : World} {A : Option Addr} {xs : List Int} (h : IntsAt w A xs) (e : Ext w w') : IntsAt w' A xs := fun hne => by
  obtain ⟨b, off, hA, hb, hc⟩ := h hne
  exact ⟨b, off, hA, Nat.lt_of_lt_of_le hb e.size, fun k hk => (e.cell hb).trans (hc k hk)⟩

theorem hid {p : Prop} (h : p) : Hid p := h
theorem ret_bool {a b : Bool} (h : a = b) : Ending.returned (.bool a) = .returned (.bool b) := by rw [h]
theorem ret_int {k : IntKind} {a b : Int} (h : a = b) : Ending.returned (.int k a) = .returned (.int k b) := by rw [h]

end Go.Proofs.Ytndoghcglbpllaa
/- Nets as arguments: opened to their cells. -/
set_option linter.unusedSimpArgs false
set_option linter.unusedVariables false
namespace Go.Proofs.Ytndoghcglbpllaa
open Go.RowKit
open Go.ChangeShapes Go.WideShapes Go.Deep
theorem exists_list {α : Type} (d : α) (P : Nat → α → Prop) : ∀ n, (∀ i, i < n → ∃ x, P i x) → ∃ xs : List α, xs.length = n ∧ ∀ i, i < n → P i (xs.getD i d)
  | 0, _ => ⟨[], rfl, fun i hi => by omega⟩
  | n + 1, h => by
    obtain ⟨xs, hl, hx⟩ := exists_list d P n (fun i hi => h i (by omega))
    obtain ⟨x, hp⟩ := h n (by omega)
    refine ⟨xs ++ [x], by simp [hl], fun i hi => ?_⟩
    by_cases hin : i < n
    · have := hx i hin
      rwa [List.getD_eq_getElem?_getD, List.getElem?_append_left (by omega), ← List.getD_eq_getElem?_getD]
    · obtain rfl : i = n := by omega
      rw [List.getD_eq_getElem?_getD, List.getElem?_append_right (by omega), hl, Nat.sub_self]
      exact hp
theorem add_cell {w : World} {a : Addr} {n : Nat} {v : Value} (h : w.cell? (a.add n) = some v) : w.cell? ⟨a.block, a.off + n, none⟩ = some v ∧ a.block < w.heap.size := by
  have hb : a.block < w.heap.size := by
    unfold World.cell? at h
    split at h
    · rename_i hh
      have := (Array.getElem?_eq_some_iff.1 hh).1
      rwa [show (a.add n).block = a.block by unfold Addr.add; split <;> rfl] at this
    · cases h
  refine ⟨?_, hb⟩
  unfold Addr.add at h
  split at h
  · rename_i hn
    subst hn
    obtain ⟨b, o, s⟩ := a
    cases s with
    | none => simpa using h
    | some s => unfold World.cell? at h; split at h <;> simp at h
  · exact h
def pcellsL (p : Pt) (A : Option Addr) (c : Nat) : List Value := [.int .i64 p.frm, .int .i64 p.dst, .int .i64 p.grade, .int .i64 p.tl, .int .i64 p.th, .int .i64 p.sl, .int .i64 p.sh, .slice A p.opens.length c]
theorem cellsPath : Try.prog.cellsOf 56 = 8 := by kernel_rfl
theorem cellsOpens : Try.prog.cellsOf 54 = 1 := by kernel_rfl
theorem cellsSpan : Try.prog.cellsOf 26 = 2 := by kernel_rfl
theorem cellsInt : Try.prog.cellsOf 3 = 1 := by kernel_rfl
section
variable {H : Type} {enc : TypeId × Value → H} {w : World} {base : Nat} {spare : Nat → Bool} {held : Bool}
set_option maxRecDepth 100000 in
theorem open_spans {fuel : Nat} {cs : List Value} {x : DataW H × List MemPlace} (h : DataW.trod enc Try.prog w base spare held fuel 54 cs = some x) :
    ∃ A os c, cs = [.slice A os.length c] ∧ os.length ≤ c ∧ OpensAt w A os := by
  rcases open_slice Try.underlying54 h with ⟨rfl, _⟩ | ⟨a, len, cap, m, n, D, Pl, rfl, hb, hl, hm, hmm, hx, hi⟩
  · exact ⟨none, [], 0, rfl, Nat.le_refl _, fun h => absurd rfl h⟩
  · have hlm : len ≤ m := by rw [hmm]; split <;> omega
    have hel : ∀ i, i < len → ∃ o : Int × Int, (w.cell? ⟨a.block, a.off + i * 2, none⟩ = some (.int .i64 o.1) ∧ w.cell? ⟨a.block, a.off + i * 2 + 1, none⟩ = some (.int .i64 o.2)) ∧ a.block < w.heap.size := fun i hil => by
      obtain ⟨cs', hc, ht⟩ := hi i (by omega)
      rw [cellsSpan] at hc
      obtain ⟨_, hl2, hat⟩ := World.cells?_some hc
      obtain ⟨y0, y1, n', _, _, h0, h1⟩ := trod_struct2 Try.underlying26 ht
      obtain ⟨u, e0, _, _⟩ := DataW.trod_int Try.underlying3 h0
      obtain ⟨v, e1, _, _⟩ := DataW.trod_int Try.underlying3 h1
      rw [cellsInt] at e0 e1
      match cs', hl2 with
      | [p, q], _ =>
        simp at e0 e1
        subst e0 e1
        have a0 := hat 0 (by omega)
        have a1 := hat 1 (by omega)
        rw [Go.Deep.add_add] at a0 a1
        have b0 := add_cell a0
        have b1 := add_cell a1
        exact ⟨(u, v), ⟨b0.1, by rw [Nat.add_assoc]; exact b1.1⟩, b0.2⟩
    obtain ⟨os, ho, hos⟩ := exists_list ((0, 0) : Int × Int) _ len hel
    subst ho
    exact ⟨some a, os, cap, rfl, hl, fun hne => by
      have h0 : 0 < os.length := List.length_pos_iff.2 hne
      have hb0 := (hos 0 h0).2
      have hsp : a = ⟨a.block, a.off, none⟩ := by
        obtain ⟨cs', hc, ht⟩ := hi 0 (by omega)
        obtain ⟨_, hl2, hat⟩ := World.cells?_some hc
        rw [cellsSpan] at hat hl2
        have a0 := hat 0 (by omega)
        obtain ⟨b, o, sp⟩ := a
        cases sp with
        | none => rfl
        | some sp =>
          exfalso
          have hn : cs'[0]? ≠ none := by rw [List.getElem?_eq_getElem (by omega)]; simp
          apply hn
          rw [← a0]
          simp only [Nat.zero_mul, Addr.add, if_true]
          unfold World.cell?
          split <;> simp
      exact ⟨a.block, a.off, by rw [← hsp], hb0, fun k hk => (hos k hk).1⟩⟩
theorem some_of_len {α : Type} {xs : List α} {n : Nat} (h : xs.length = n) {k : Nat} (hk : k < n) : ∃ y, xs[k]? = some y := ⟨_, List.getElem?_eq_getElem (by omega)⟩
set_option maxRecDepth 100000 in
theorem open_path {fuel : Nat} {cs : List Value} {x : DataW H × List MemPlace} (h : DataW.trod enc Try.prog w base spare held fuel 56 cs = some x) :
    ∃ p A c, cs = (pcellsL p A c) ∧ p.opens.length ≤ c ∧ OpensAt w A p.opens := by
  obtain ⟨ys, n', hn', hy, hlen, hyl, hf⟩ := DataW.trod_struct Try.underlying56 h
  have h0 : DataW.trod enc Try.prog w base spare held n' 3 ((cs.drop 0).take (Try.prog.cellsOf 3)) = ys[0]? := hf 0 _ rfl
  obtain ⟨y0, e0⟩ := some_of_len hyl (k := 0) (by simp)
  rw [e0, cellsInt] at h0
  have h1 : DataW.trod enc Try.prog w base spare held n' 3 ((cs.drop 1).take (Try.prog.cellsOf 3)) = ys[1]? := hf 1 _ rfl
  obtain ⟨y1, e1⟩ := some_of_len hyl (k := 1) (by simp)
  rw [e1, cellsInt] at h1
  have h2 : DataW.trod enc Try.prog w base spare held n' 3 ((cs.drop 2).take (Try.prog.cellsOf 3)) = ys[2]? := hf 2 _ rfl
  obtain ⟨y2, e2⟩ := some_of_len hyl (k := 2) (by simp)
  rw [e2, cellsInt] at h2
  have h3 : DataW.trod enc Try.prog w base spare held n' 26 ((cs.drop 3).take (Try.prog.cellsOf 26)) = ys[3]? := hf 3 _ rfl
  obtain ⟨y3, e3⟩ := some_of_len hyl (k := 3) (by simp)
  rw [e3, cellsSpan] at h3
  have h4 : DataW.trod enc Try.prog w base spare held n' 26 ((cs.drop 5).take (Try.prog.cellsOf 26)) = ys[4]? := hf 4 _ rfl
  obtain ⟨y4, e4⟩ := some_of_len hyl (k := 4) (by simp)
  rw [e4, cellsSpan] at h4
  have h5 : DataW.trod enc Try.prog w base spare held n' 54 ((cs.drop 7).take (Try.prog.cellsOf 54)) = ys[5]? := hf 5 _ rfl
  obtain ⟨y5, e5⟩ := some_of_len hyl (k := 5) (by simp)
  rw [e5, cellsOpens] at h5
  rw [cellsPath] at hlen
  match cs, hlen with
  | [c0, c1, c2, c3, c4, c5, c6, c7], _ =>
    simp only [List.drop_zero, List.drop_succ_cons, List.take_succ_cons, List.take_zero] at h0 h1 h2 h3 h4 h5
    obtain ⟨f, g0, _, _⟩ := DataW.trod_int Try.underlying3 h0
    obtain ⟨d, g1, _, _⟩ := DataW.trod_int Try.underlying3 h1
    obtain ⟨g, g2, _, _⟩ := DataW.trod_int Try.underlying3 h2
    obtain ⟨a3, b3, _, _, _, i3, j3⟩ := trod_struct2 Try.underlying26 h3
    obtain ⟨a4, b4, _, _, _, i4, j4⟩ := trod_struct2 Try.underlying26 h4
    rw [cellsInt] at i3 j3 i4 j4
    simp only [List.drop_zero, List.drop_succ_cons, List.take_succ_cons, List.take_zero] at i3 j3 i4 j4
    obtain ⟨tl, g3, _, _⟩ := DataW.trod_int Try.underlying3 i3
    obtain ⟨th, g4, _, _⟩ := DataW.trod_int Try.underlying3 j3
    obtain ⟨sl, g5, _, _⟩ := DataW.trod_int Try.underlying3 i4
    obtain ⟨sh, g6, _, _⟩ := DataW.trod_int Try.underlying3 j4
    obtain ⟨A, os, c, g7, hle, hos⟩ := open_spans h5
    simp only [List.cons.injEq, and_true] at g0 g1 g2 g3 g4 g5 g6 g7
    subst g0 g1 g2 g3 g4 g5 g6 g7
    exact ⟨⟨f, d, g, tl, th, sl, sh, os⟩, A, c, rfl, hle, hos⟩
set_option maxRecDepth 100000 in
theorem open_paths {fuel : Nat} {cs : List Value} {x : DataW H × List MemPlace} (h : DataW.trod enc Try.prog w base spare held fuel 22 cs = some x) :
    ∃ A ps c, cs = [.slice A ps.length c] ∧ ps.length ≤ c ∧ PathsAt w A ps := by
  rcases open_slice Try.underlying22 h with ⟨rfl, _⟩ | ⟨a, len, cap, m, n, D, Pl, rfl, hb, hl, hm, hmm, hx, hi⟩
  · exact ⟨none, [], 0, rfl, Nat.le_refl _, fun h => absurd rfl h⟩
  · have hlm : len ≤ m := by rw [hmm]; split <;> omega
    have hel : ∀ i, i < len → ∃ p : Pt, (∃ A' c', PtAt w a.block (a.off + i * 8) p A' c') ∧ a.block < w.heap.size ∧ (i = 0 → a = ⟨a.block, a.off, none⟩) := fun i hil => by
      obtain ⟨cs', hc, ht⟩ := hi i (by omega)
      rw [cellsPath] at hc
      obtain ⟨_, hl2, hat⟩ := World.cells?_some hc
      obtain ⟨p, A', c', rfl, hle, hos⟩ := open_path ht
      have hk : ∀ k v, (pcellsL p A' c')[k]? = some v → k < 8 → w.cell? ⟨a.block, a.off + i * 8 + k, none⟩ = some v ∧ a.block < w.heap.size := fun k v hv hk8 => by
        have h0 := (hat k hk8).trans hv
        rw [Go.Deep.add_add] at h0
        have h1 := add_cell h0
        exact ⟨by rw [Nat.add_assoc]; exact h1.1, h1.2⟩
      refine ⟨p, ⟨A', c', (hk 0 _ rfl (by omega)).1, (hk 1 _ rfl (by omega)).1, (hk 2 _ rfl (by omega)).1, (hk 3 _ rfl (by omega)).1, (hk 4 _ rfl (by omega)).1, (hk 5 _ rfl (by omega)).1, (hk 6 _ rfl (by omega)).1, (hk 7 _ rfl (by omega)).1, hle, hos⟩, (hk 0 _ rfl (by omega)).2, fun hi0 => ?_⟩
      subst hi0
      have a0 : w.cell? ((a.add (0 * 8)).add 0) = some (.int .i64 p.frm) := hat 0 (by omega)
      obtain ⟨b, o, sp⟩ := a
      cases sp with
      | none => rfl
      | some sp =>
        exfalso
        simp only [Nat.zero_mul, Addr.add, if_true] at a0
        unfold World.cell? at a0
        split at a0 <;> simp at a0
    obtain ⟨ps, ho, hps⟩ := exists_list zeroPt _ len hel
    subst ho
    exact ⟨some a, ps, cap, rfl, hl, fun hne => by
      have h0 : 0 < ps.length := List.length_pos_iff.2 hne
      exact ⟨a.block, a.off, by rw [← (hps 0 h0).2.2 rfl], (hps 0 h0).2.1, fun k hk => (hps k hk).1⟩⟩
end
end Go.Proofs.Ytndoghcglbpllaa
/- A net, a party and a trip as arguments. -/
set_option linter.unusedSimpArgs false
set_option linter.unusedVariables false
namespace Go.Proofs.Ytndoghcglbpllaa
open Go.RowKit
open Go.ChangeShapes Go.WideShapes Go.Deep Go.Joins
theorem array6 {α : Type} {cs : Array α} (h : cs.size = 6) : ∃ c0 c1 c2 c3 c4 c5, cs = #[c0, c1, c2, c3, c4, c5] := by
  obtain ⟨l⟩ := cs
  match l, h with
  | [c0, c1, c2, c3, c4, c5], _ => exact ⟨c0, c1, c2, c3, c4, c5, rfl⟩
theorem cellsNet : Try.prog.cellsOf 24 = 2 := by kernel_rfl
theorem cellsParty : Try.prog.cellsOf 28 = 4 := by kernel_rfl
theorem cellsInts : Try.prog.cellsOf 29 = 1 := by kernel_rfl
theorem cellsTrip : Try.prog.cellsOf 31 = 6 := by kernel_rfl
section
variable {H : Type} {enc : TypeId × Value → H} {w : World} {base : Nat} {spare : Nat → Bool} {held : Bool}
set_option maxRecDepth 100000 in
theorem open_net {r : Reach} {b0 : Nat} {v : Value} {d : DataW H} {p : List MemPlace} (hv : Value.okWide Try.prog w r b0 24 v) (h : DataW.Trod enc Try.prog w base spare held 24 v d p) :
    ∃ m A ps c, v = .agg #[.int .i64 m, .slice A ps.length c] ∧ PathsAt w A ps := by
  obtain ⟨c0, c1, y0, y1, n, rfl, _, _, h0, h1⟩ := open_agg2 Try.underlying24 (by kernel_rfl) cellsNet hv h
  obtain ⟨m, e0, _, _⟩ := DataW.trod_int Try.underlying3 h0
  obtain ⟨A, ps, c, e1, _, hp⟩ := open_paths h1
  simp only [List.cons.injEq, and_true] at e0 e1
  subst e0 e1
  exact ⟨m, A, ps, c, rfl, hp⟩
set_option maxRecDepth 100000 in
theorem open_party {r : Reach} {b0 : Nat} {v : Value} {d : DataW H} {p : List MemPlace} (hv : Value.okWide Try.prog w r b0 28 v) (h : DataW.Trod enc Try.prog w base spare held 28 v d p) :
    ∃ g l pl ph, v = .agg #[.int .i64 g, .int .i64 l, .int .i64 pl, .int .i64 ph] := by
  obtain ⟨cs, rfl, hsz⟩ := okWide_struct Try.underlying28 hv
  obtain ⟨c0, c1, c2, c3, rfl⟩ := array4 (hsz.trans cellsParty)
  obtain ⟨fuel, hf0⟩ := h
  obtain ⟨ys, n', hn', hy, hlen, hyl, hf⟩ := DataW.trod_struct Try.underlying28 hf0
  have h0 : DataW.trod enc Try.prog w base spare held n' 3 (([c0, c1, c2, c3].drop 0).take (Try.prog.cellsOf 3)) = ys[0]? := hf 0 _ rfl
  have h1 : DataW.trod enc Try.prog w base spare held n' 3 (([c0, c1, c2, c3].drop 1).take (Try.prog.cellsOf 3)) = ys[1]? := hf 1 _ rfl
  have h2 : DataW.trod enc Try.prog w base spare held n' 26 (([c0, c1, c2, c3].drop 2).take (Try.prog.cellsOf 26)) = ys[2]? := hf 2 _ rfl
  obtain ⟨y0, e0⟩ := some_of_len hyl (k := 0) (by simp)
  obtain ⟨y1, e1⟩ := some_of_len hyl (k := 1) (by simp)
  obtain ⟨y2, e2⟩ := some_of_len hyl (k := 2) (by simp)
  rw [e0, cellsInt] at h0
  rw [e1, cellsInt] at h1
  rw [e2, cellsSpan] at h2
  simp only [List.drop_zero, List.drop_succ_cons, List.take_succ_cons, List.take_zero] at h0 h1 h2
  obtain ⟨g, g0, _, _⟩ := DataW.trod_int Try.underlying3 h0
  obtain ⟨l, g1, _, _⟩ := DataW.trod_int Try.underlying3 h1
  obtain ⟨a3, b3, _, _, _, i3, j3⟩ := trod_struct2 Try.underlying26 h2
  rw [cellsInt] at i3 j3
  simp only [List.drop_zero, List.drop_succ_cons, List.take_succ_cons, List.take_zero] at i3 j3
  obtain ⟨pl, g2, _, _⟩ := DataW.trod_int Try.underlying3 i3
  obtain ⟨ph, g3, _, _⟩ := DataW.trod_int Try.underlying3 j3
  simp only [List.cons.injEq, and_true] at g0 g1 g2 g3
  subst g0 g1 g2 g3
  exact ⟨g, l, pl, ph, rfl⟩
set_option maxRecDepth 100000 in
theorem open_trip {r : Reach} {b0 : Nat} {v : Value} {d : DataW H} {p : List MemPlace} (hv : Value.okWide Try.prog w r b0 31 v) (h : DataW.Trod enc Try.prog w base spare held 31 v d p) :
    ∃ f t s D RA rn rc q, v = .agg #[.int .i64 f, .int .i64 t, .int .i64 s, .int .i64 D, .slice RA rn rc, .int .i64 q] := by
  obtain ⟨cs, rfl, hsz⟩ := okWide_struct Try.underlying31 hv
  obtain ⟨c0, c1, c2, c3, c4, c5, rfl⟩ := array6 (hsz.trans cellsTrip)
  obtain ⟨fuel, hf0⟩ := h
  obtain ⟨ys, n', hn', hy, hlen, hyl, hf⟩ := DataW.trod_struct Try.underlying31 hf0
  have h0 : DataW.trod enc Try.prog w base spare held n' 3 (([c0, c1, c2, c3, c4, c5].drop 0).take (Try.prog.cellsOf 3)) = ys[0]? := hf 0 _ rfl
  obtain ⟨y0, e0⟩ := some_of_len hyl (k := 0) (by simp)
  rw [e0, cellsInt] at h0
  simp only [List.drop_zero, List.drop_succ_cons, List.take_succ_cons, List.take_zero] at h0
  obtain ⟨n0, g0, _, _⟩ := DataW.trod_int Try.underlying3 h0
  have h1 : DataW.trod enc Try.prog w base spare held n' 3 (([c0, c1, c2, c3, c4, c5].drop 1).take (Try.prog.cellsOf 3)) = ys[1]? := hf 1 _ rfl
  obtain ⟨y1, e1⟩ := some_of_len hyl (k := 1) (by simp)
  rw [e1, cellsInt] at h1
  simp only [List.drop_zero, List.drop_succ_cons, List.take_succ_cons, List.take_zero] at h1
  obtain ⟨n1, g1, _, _⟩ := DataW.trod_int Try.underlying3 h1
  have h2 : DataW.trod enc Try.prog w base spare held n' 3 (([c0, c1, c2, c3, c4, c5].drop 2).take (Try.prog.cellsOf 3)) = ys[2]? := hf 2 _ rfl
  obtain ⟨y2, e2⟩ := some_of_len hyl (k := 2) (by simp)
  rw [e2, cellsInt] at h2
  simp only [List.drop_zero, List.drop_succ_cons, List.take_succ_cons, List.take_zero] at h2
  obtain ⟨n2, g2, _, _⟩ := DataW.trod_int Try.underlying3 h2
  have h3 : DataW.trod enc Try.prog w base spare held n' 3 (([c0, c1, c2, c3, c4, c5].drop 3).take (Try.prog.cellsOf 3)) = ys[3]? := hf 3 _ rfl
  obtain ⟨y3, e3⟩ := some_of_len hyl (k := 3) (by simp)
  rw [e3, cellsInt] at h3
  simp only [List.drop_zero, List.drop_succ_cons, List.take_succ_cons, List.take_zero] at h3
  obtain ⟨n3, g3, _, _⟩ := DataW.trod_int Try.underlying3 h3
  have h5 : DataW.trod enc Try.prog w base spare held n' 3 (([c0, c1, c2, c3, c4, c5].drop 5).take (Try.prog.cellsOf 3)) = ys[5]? := hf 5 _ rfl
  obtain ⟨y5, e5⟩ := some_of_len hyl (k := 5) (by simp)
  rw [e5, cellsInt] at h5
  simp only [List.drop_zero, List.drop_succ_cons, List.take_succ_cons, List.take_zero] at h5
  obtain ⟨n5, g5, _, _⟩ := DataW.trod_int Try.underlying3 h5
  have h4 : DataW.trod enc Try.prog w base spare held n' 29 (([c0, c1, c2, c3, c4, c5].drop 4).take (Try.prog.cellsOf 29)) = ys[4]? := hf 4 _ rfl
  obtain ⟨y4, e4⟩ := some_of_len hyl (k := 4) (by simp)
  rw [e4, show Try.prog.cellsOf 29 = 1 from cellsInts] at h4
  simp only [List.drop_zero, List.drop_succ_cons, List.take_succ_cons, List.take_zero] at h4
  obtain ⟨RA, rn, rc, g4⟩ := slice_form Try.underlying29 h4
  simp only [List.cons.injEq, and_true] at g0 g1 g2 g3 g4 g5
  subst g0 g1 g2 g3 g4 g5
  exact ⟨_, _, _, _, _, _, _, _, rfl⟩
end
end Go.Proofs.Ytndoghcglbpllaa
