/- Memory that only grows (Ext), and how the data of layer 1 lie in memory. -/
import Derived.Test.YtndoghcglbpllaaRows
import Derived.WalkKit
import Derived.WalkSpells
import Derived.WalkLawsBesides
set_option linter.unusedSimpArgs false
set_option linter.unusedVariables false
namespace Go.Proofs.Ytndoghcglbpllaa
open Go.RowKit

/-- All that was there is as it was. -/
def Ext (w w' : World) : Prop := Below w.heap.size w w'
theorem Ext.refl (w : World) : Ext w w := Below.refl _ _
theorem Ext.size {a b : World} (h : Ext a b) : a.heap.size ≤ b.heap.size := Below.size h
theorem Ext.trans {a b c : World} (h : Ext a b) (k : Ext b c) : Ext a c := Below.trans h (Below.mono k h.size)
theorem Ext.alloc {a b : World} (h : Ext a b) (o : Obj) : Ext a (b.alloc o) := Below.alloc h h.size o
theorem Ext.set {a b : World} (h : Ext a b) {p : Addr} (hp : a.heap.size ≤ p.block) (u : Value) : Ext a (b.setCell p u) := Below.setCell h hp u
theorem Ext.drew {a b : World} (h : Ext a b) : Ext a b.drew := Below.drew h
theorem Ext.drewN {a b : World} (h : Ext a b) (n : Nat) : Ext a (b.drewN n) := by
  have h' : Below a.heap.size a b := h
  exact ⟨h'.os, h'.tape, h'.output, h'.size, h'.block⟩
theorem Ext.cell {a b : World} (h : Ext a b) {p : Addr} (hp : p.block < a.heap.size) : b.cell? p = a.cell? p := Below.cell h hp
theorem Ext.frozen {a b : World} (h : Ext a b) {p : Addr} (hp : p.block < a.heap.size) : b.frozen? p = a.frozen? p := Below.frozen h hp
theorem Ext.sizeLe {a b : World} {n : Nat} (h : Ext a b) (k : n ≤ a.heap.size) : n ≤ b.heap.size := Nat.le_trans k h.size
theorem ext_alloc1 (w : World) (o : Obj) : Ext w (w.alloc o) := (Ext.refl w).alloc o

/-- What a cell holds. -/
def heldAt (w : World) (a : Addr) : Value := (w.cell? a).getD undef
theorem held_of {w : World} {a : Addr} {v : Value} (h : w.cell? a = some v) : w.cell? a = some (heldAt w a) := by unfold heldAt; rw [h]; rfl
theorem held_some {w : World} {a : Addr} (h : (w.cell? a).isSome = true) : w.cell? a = some (heldAt w a) := by
  obtain ⟨v, hv⟩ := Option.isSome_iff_exists.1 h
  exact held_of hv
theorem held_ext {w w' : World} {a : Addr} (e : Ext w w') (hb : a.block < w.heap.size) (h : w.cell? a = some (heldAt w a)) : w'.cell? a = some (heldAt w' a) := held_of ((e.cell hb).trans h)
theorem held_set (w : World) (p : Addr) (u : Value) (a : Addr) (h : w.cell? a = some (heldAt w a)) : (w.setCell p u).cell? a = some (heldAt (w.setCell p u) a) := by
  by_cases hp : a = p
  · subst hp
    exact held_of (World.cell?_setCell_same' w a u (by rw [h]; rfl))
  · exact held_of ((World.cell?_setCell_other w p a u (by first | exact hp | exact fun e => hp e.symm)).trans h)
theorem cell_set_val {w : World} {p : Addr} {u x : Value} (h : (w.setCell p u).cell? p = some x) : (w.setCell p u).cell? p = some u := by
  cases hw : w.cell? p with
  | none =>
    exfalso
    revert h hw
    unfold World.cell? World.setCell
    simp only [Array.getElem?_modify]
    cases hh : w.heap[p.block]? with
    | none => simp
    | some o =>
      cases o with
      | cells c e f =>
        by_cases hs : p.spot.isSome = true
        · simp [hs]
        · simp only [Bool.not_eq_true] at hs
          simp only [hs, Option.map_some]
          intro hx h0
          have hlt := (Array.getElem?_eq_some_iff.1 (by simpa [hs] using hx)).1
          simp at hlt
          simp at h0
          omega
      | _ => simp
  | some y => exact World.cell?_setCell_same' w p u (by rw [hw]; rfl)

theorem cell_set_val2 {w : World} {p q : Addr} {u v x : Value} (hne : q ≠ p) (h : ((w.setCell p u).setCell q v).cell? p = some x) : ((w.setCell p u).setCell q v).cell? p = some u := by
  rw [World.cell?_setCell_other _ _ _ _ hne] at h ⊢
  exact cell_set_val h

/-- The world of a walk under a name of its own, with what is known of it. -/
theorem wp_abs {P : Program} {c : Code} {Q : Exit → Act → World → Prop} {a : Act} {w : World} (F : World → Prop) (hF : F w) (h : ∀ W, F W → Code.wp P c Q a W) : Code.wp P c Q a w := h w hF

/-- What lies below block n is as it was. -/
theorem kcell {w1 w2 W : World} {n : Nat} (h : ∀ b o, b < n → w1.cell? ⟨b, o, none⟩ = W.cell? ⟨b, o, none⟩) (hn : n ≤ w1.heap.size) (e : Ext w1 w2) : ∀ b o, b < n → w2.cell? ⟨b, o, none⟩ = W.cell? ⟨b, o, none⟩ :=
  fun b o hb => (e.cell (p := ⟨b, o, none⟩) (Nat.lt_of_lt_of_le hb hn)).trans (h b o hb)
theorem kcell_set {w1 W : World} {n : Nat} (h : ∀ b o, b < n → w1.cell? ⟨b, o, none⟩ = W.cell? ⟨b, o, none⟩) {p : Addr} (hp : n ≤ p.block) (u : Value) : ∀ b o, b < n → (w1.setCell p u).cell? ⟨b, o, none⟩ = W.cell? ⟨b, o, none⟩ :=
  fun b o hb => (World.cell?_setCell_other w1 p ⟨b, o, none⟩ u (fun e => by subst e; simp at hp; omega)).trans (h b o hb)
theorem kcell_refl (W : World) (n : Nat) : ∀ b o, b < n → W.drew.cell? ⟨b, o, none⟩ = W.cell? ⟨b, o, none⟩ := fun _ _ _ => rfl
theorem hfrozen_ext {w w' : World} {a : Addr} (e : Ext w w') (hb : a.block < w.heap.size) (h : w.frozen? a = false) : w'.frozen? a = false := (e.frozen hb).trans h
theorem hfrozen_set {w : World} {a : Addr} (p : Addr) (u : Value) (h : w.frozen? a = false) : (w.setCell p u).frozen? a = false := (World.frozen?_setCell ..).trans h
theorem hsize_set {w : World} {n : Nat} (p : Addr) (u : Value) (h : n ≤ w.heap.size) : n ≤ (w.setCell p u).heap.size := by simpa using h

theorem kfro {w1 w2 W : World} {n : Nat} (h : ∀ b o, b < n → w1.frozen? ⟨b, o, none⟩ = W.frozen? ⟨b, o, none⟩) (hn : n ≤ w1.heap.size) (e : Ext w1 w2) : ∀ b o, b < n → w2.frozen? ⟨b, o, none⟩ = W.frozen? ⟨b, o, none⟩ :=
  fun b o hb => (e.frozen (p := ⟨b, o, none⟩) (Nat.lt_of_lt_of_le hb hn)).trans (h b o hb)
/-- What lay below block n in W lies so in w'. -/
structure KC (n : Nat) (W w' : World) : Prop where
  cell : ∀ b o, b < n → w'.cell? ⟨b, o, none⟩ = W.cell? ⟨b, o, none⟩
  fro : ∀ b o, b < n → w'.frozen? ⟨b, o, none⟩ = W.frozen? ⟨b, o, none⟩
  size : n ≤ w'.heap.size
  ext : Ext W w'
theorem KC.refl {n : Nat} {W : World} (h : n ≤ W.heap.size) : KC n W W := ⟨fun _ _ _ => rfl, fun _ _ _ => rfl, h, Ext.refl W⟩
theorem KC.step {n : Nat} {W w1 w2 : World} (h : KC n W w1) (e : Ext w1 w2) : KC n W w2 := ⟨kcell h.cell h.size e, kfro h.fro h.size e, Ext.sizeLe e h.size, h.ext.trans e⟩

/-- A path as data. -/
structure Pt where
  frm : Int
  dst : Int
  grade : Int
  tl : Int
  th : Int
  sl : Int
  sh : Int
  opens : List (Int × Int)

def zeroPt : Pt := ⟨0, 0, 0, 0, 0, 0, 0, []⟩
def Pt.val (p : Pt) (A : Option Addr) (c : Nat) : Value :=
  .agg #[.int .i64 p.frm, .int .i64 p.dst, .int .i64 p.grade, .int .i64 p.tl, .int .i64 p.th, .int .i64 p.sl, .int .i64 p.sh, .slice A p.opens.length c]

/-- A list of pairs of numbers in memory. -/
def OpensAt (w : World) (A : Option Addr) (os : List (Int × Int)) : Prop :=
  os ≠ [] → ∃ b off, A = some ⟨b, off, none⟩ ∧ b < w.heap.size ∧ ∀ k, k < os.length →
    w.cell? ⟨b, off + k * 2, none⟩ = some (.int .i64 (os.getD k (0, 0)).1) ∧ w.cell? ⟨b, off + k * 2 + 1, none⟩ = some (.int .i64 (os.getD k (0, 0)).2)
theorem OpensAt.ext {w w' : World} {A : Option Addr} {os : List (Int × Int)} (h : OpensAt w A os) (e : Ext w w') : OpensAt w' A os := fun hne => by
  obtain ⟨b, off, hA, hb, hc⟩ := h hne
  refine ⟨b, off, hA, Nat.lt_of_lt_of_le hb e.size, fun k hk => ?_⟩
  rw [e.cell hb, e.cell hb]
  exact hc k hk

/-- The eight cells of a path in memory. -/
structure PtAt (w : World) (b off : Nat) (p : Pt) (A : Option Addr) (c : Nat) : Prop where
  c0 : w.cell? ⟨b, off, none⟩ = some (.int .i64 p.frm)
  c1 : w.cell? ⟨b, off + 1, none⟩ = some (.int .i64 p.dst)
  c2 : w.cell? ⟨b, off + 2, none⟩ = some (.int .i64 p.grade)
  c3 : w.cell? ⟨b, off + 3, none⟩ = some (.int .i64 p.tl)
  c4 : w.cell? ⟨b, off + 4, none⟩ = some (.int .i64 p.th)
  c5 : w.cell? ⟨b, off + 5, none⟩ = some (.int .i64 p.sl)
  c6 : w.cell? ⟨b, off + 6, none⟩ = some (.int .i64 p.sh)
  c7 : w.cell? ⟨b, off + 7, none⟩ = some (.slice A p.opens.length c)
  cap : p.opens.length ≤ c
  opens : OpensAt w A p.opens
theorem PtAt.ext {w w' : World} {b off : Nat} {p : Pt} {A : Option Addr} {c : Nat} (h : PtAt w b off p A c) (hb : b < w.heap.size) (e : Ext w w') : PtAt w' b off p A c :=
  ⟨(e.cell hb).trans h.c0, (e.cell hb).trans h.c1, (e.cell hb).trans h.c2, (e.cell hb).trans h.c3, (e.cell hb).trans h.c4, (e.cell hb).trans h.c5, (e.cell hb).trans h.c6, (e.cell hb).trans h.c7, h.cap, h.opens.ext e⟩

/-- A list of paths in memory. -/
def PathsAt (w : World) (A : Option Addr) (ps : List Pt) : Prop :=
  ps ≠ [] → ∃ b off, A = some ⟨b, off, none⟩ ∧ b < w.heap.size ∧ ∀ k, k < ps.length → ∃ A' c, PtAt w b (off + k * 8) (ps.getD k zeroPt) A' c
theorem PathsAt.ext {w w' : World} {A : Option Addr} {ps : List Pt} (h : PathsAt w A ps) (e : Ext w w') : PathsAt w' A ps := fun hne => by
  obtain ⟨b, off, hA, hb, hc⟩ := h hne
  refine ⟨b, off, hA, Nat.lt_of_lt_of_le hb e.size, fun k hk => ?_⟩
  obtain ⟨A', c, h⟩ := hc k hk
  exact ⟨A', c, h.ext hb e⟩

/-- A list of numbers in memory. -/
def IntsAt (w : World) (A : Option Addr) (xs : List Int) : Prop :=
  xs ≠ [] → ∃ b off, A = some ⟨b, off, none⟩ ∧ b < w.heap.size ∧ ∀ k, k < xs.length → w.cell? ⟨b, off + k, none⟩ = some (.int .i64 (xs.getD k 0))
theorem IntsAt.ext {w w' : World} {A : Option Addr} {xs : List Int} (h : IntsAt w A xs) (e : Ext w w') : IntsAt w' A xs := fun hne => by
  obtain ⟨b, off, hA, hb, hc⟩ := h hne
  exact ⟨b, off, hA, Nat.lt_of_lt_of_le hb e.size, fun k hk => (e.cell hb).trans (hc k hk)⟩

theorem hid {p : Prop} (h : p) : Hid p := h
theorem ret_bool {a b : Bool} (h : a = b) : Ending.returned (.bool a) = .returned (.bool b) := by rw [h]
theorem ret_int {k : IntKind} {a b : Int} (h : a = b) : Ending.returned (.int k a) = .returned (.int k b) := by rw [h]

end Go.Proofs.Ytndoghcglbpllaa
