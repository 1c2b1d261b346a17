/- Memory that only grows (Ext), and how water lies in memory. -/
import Derived.Test.YtcfijidlbimckaaDoorRows
import Derived.WalkKit
import Derived.WalkSpells
import Derived.WalkLawsBesides
import Derived.Test.YtcfijidlbimckaaDoorBm
import Derived.RangeFuncNested
import Derived.RangeFuncCalls
import Derived.RangeFuncLeaves
set_option linter.unusedSimpArgs false
set_option linter.unusedVariables false
namespace Go.Proofs.YtcfijidlbimckaaDoor
open Go.RowKit

/-- All that was there is as it was. -/
def Ext (w w' : World) : Prop := Below w.heap.size w w'
theorem Ext.refl (w : World) : Ext w w := Below.refl _ _
theorem Ext.size {a b : World} (h : Ext a b) : a.heap.size ≤ b.heap.size := Below.size h
theorem Ext.trans {a b c : World} (h : Ext a b) (k : Ext b c) : Ext a c := Below.trans h (Below.mono k h.size)
theorem Ext.alloc {a b : World} (h : Ext a b) (o : Obj) : Ext a (b.alloc o) := Below.alloc h h.size o
theorem Ext.set {a b : World} (h : Ext a b) {p : Addr} (hp : a.heap.size ≤ p.block) (u : Value) : Ext a (b.setCell p u) := Below.setCell h hp u
theorem Ext.drew {a b : World} (h : Ext a b) : Ext a b.drew := Below.drew h
theorem Ext.drewN {a b : World} (h : Ext a b) (n : Nat) : Ext a (b.drewN n) := by
  have h' : Below a.heap.size a b := h
  exact ⟨h'.os, h'.tape, h'.output, h'.size, h'.block⟩
theorem Ext.cell {a b : World} (h : Ext a b) {p : Addr} (hp : p.block < a.heap.size) : b.cell? p = a.cell? p := Below.cell h hp
theorem Ext.frozen {a b : World} (h : Ext a b) {p : Addr} (hp : p.block < a.heap.size) : b.frozen? p = a.frozen? p := Below.frozen h hp
theorem Ext.sizeLe {a b : World} {n : Nat} (h : Ext a b) (k : n ≤ a.heap.size) : n ≤ b.heap.size := Nat.le_trans k h.size
theorem ext_alloc1 (w : World) (o : Obj) : Ext w (w.alloc o) := (Ext.refl w).alloc o

/-- What a cell holds. -/
def heldAt (w : World) (a : Addr) : Value := (w.cell? a).getD undef
theorem held_of {w : World} {a : Addr} {v : Value} (h : w.cell? a = some v) : w.cell? a = some (heldAt w a) := by unfold heldAt; rw [h]; rfl
theorem held_some {w : World} {a : Addr} (h : (w.cell? a).isSome = true) : w.cell? a = some (heldAt w a) := by
  obtain ⟨v, hv⟩ := Option.isSome_iff_exists.1 h
  exact held_of hv
theorem held_ext {w w' : World} {a : Addr} (e : Ext w w') (hb : a.block < w.heap.size) (h : w.cell? a = some (heldAt w a)) : w'.cell? a = some (heldAt w' a) := held_of ((e.cell hb).trans h)
theorem held_set (w : World) (p : Addr) (u : Value) (a : Addr) (h : w.cell? a = some (heldAt w a)) : (w.setCell p u).cell? a = some (heldAt (w.setCell p u) a) := by
  by_cases hp : a = p
  · subst hp
    exact held_of (World.cell?_setCell_same' w a u (by rw [h]; rfl))
  · exact held_of ((World.cell?_setCell_other w p a u (by first | exact hp | exact fun e => hp e.symm)).trans h)
theorem cell_set_val {w : World} {p : Addr} {u x : Value} (h : (w.setCell p u).cell? p = some x) : (w.setCell p u).cell? p = some u := by
  cases hw : w.cell? p with
  | none =>
    exfalso
    revert h hw
    unfold World.cell? World.setCell
    simp only [Array.getElem?_modify]
    cases hh : w.heap[p.block]? with
    | none => simp
    | some o =>
      cases o with
      | cells c e f =>
        by_cases hs : p.spot.isSome = true
        · simp [hs]
        · simp only [Bool.not_eq_true] at hs
          simp only [hs, Option.map_some]
          intro hx h0
          have hlt := (Array.getElem?_eq_some_iff.1 (by simpa [hs] using hx)).1
          simp at hlt
          simp at h0
          omega
      | _ => simp
  | some y => exact World.cell?_setCell_same' w p u (by rw [hw]; rfl)

theorem cell_set_val2 {w : World} {p q : Addr} {u v x : Value} (hne : q ≠ p) (h : ((w.setCell p u).setCell q v).cell? p = some x) : ((w.setCell p u).setCell q v).cell? p = some u := by
  rw [World.cell?_setCell_other _ _ _ _ hne] at h ⊢
  exact cell_set_val h

/-- The world of a walk under a name of its own, with what is known of it. -/
theorem wp_abs {P : Program} {c : Code} {Q : Exit → Act → World → Prop} {a : Act} {w : World} (F : World → Prop) (hF : F w) (h : ∀ W, F W → Code.wp P c Q a W) : Code.wp P c Q a w := h w hF

/-- What lies below block n is as it was. -/
theorem kcell {w1 w2 W : World} {n : Nat} (h : ∀ b o, b < n → w1.cell? ⟨b, o, none⟩ = W.cell? ⟨b, o, none⟩) (hn : n ≤ w1.heap.size) (e : Ext w1 w2) : ∀ b o, b < n → w2.cell? ⟨b, o, none⟩ = W.cell? ⟨b, o, none⟩ :=
  fun b o hb => (e.cell (p := ⟨b, o, none⟩) (Nat.lt_of_lt_of_le hb hn)).trans (h b o hb)
theorem kcell_set {w1 W : World} {n : Nat} (h : ∀ b o, b < n → w1.cell? ⟨b, o, none⟩ = W.cell? ⟨b, o, none⟩) {p : Addr} (hp : n ≤ p.block) (u : Value) : ∀ b o, b < n → (w1.setCell p u).cell? ⟨b, o, none⟩ = W.cell? ⟨b, o, none⟩ :=
  fun b o hb => (World.cell?_setCell_other w1 p ⟨b, o, none⟩ u (fun e => by subst e; simp at hp; omega)).trans (h b o hb)
theorem kcell_refl (W : World) (n : Nat) : ∀ b o, b < n → W.drew.cell? ⟨b, o, none⟩ = W.cell? ⟨b, o, none⟩ := fun _ _ _ => rfl
theorem hfrozen_ext {w w' : World} {a : Addr} (e : Ext w w') (hb : a.block < w.heap.size) (h : w.frozen? a = false) : w'.frozen? a = false := (e.frozen hb).trans h
theorem hfrozen_set {w : World} {a : Addr} (p : Addr) (u : Value) (h : w.frozen? a = false) : (w.setCell p u).frozen? a = false := (World.frozen?_setCell ..).trans h
theorem hsize_set {w : World} {n : Nat} (p : Addr) (u : Value) (h : n ≤ w.heap.size) : n ≤ (w.setCell p u).heap.size := by simpa using h

theorem kfro {w1 w2 W : World} {n : Nat} (h : ∀ b o, b < n → w1.frozen? ⟨b, o, none⟩ = W.frozen? ⟨b, o, none⟩) (hn : n ≤ w1.heap.size) (e : Ext w1 w2) : ∀ b o, b < n → w2.frozen? ⟨b, o, none⟩ = W.frozen? ⟨b, o, none⟩ :=
  fun b o hb => (e.frozen (p := ⟨b, o, none⟩) (Nat.lt_of_lt_of_le hb hn)).trans (h b o hb)
/-- What lay below block n in W lies so in w'. -/
structure KC (n : Nat) (W w' : World) : Prop where
  cell : ∀ b o, b < n → w'.cell? ⟨b, o, none⟩ = W.cell? ⟨b, o, none⟩
  fro : ∀ b o, b < n → w'.frozen? ⟨b, o, none⟩ = W.frozen? ⟨b, o, none⟩
  size : n ≤ w'.heap.size
  ext : Ext W w'
theorem KC.refl {n : Nat} {W : World} (h : n ≤ W.heap.size) : KC n W W := ⟨fun _ _ _ => rfl, fun _ _ _ => rfl, h, Ext.refl W⟩
theorem KC.step {n : Nat} {W w1 w2 : World} (h : KC n W w1) (e : Ext w1 w2) : KC n W w2 := ⟨kcell h.cell h.size e, kfro h.fro h.size e, Ext.sizeLe e h.size, h.ext.trans e⟩

/-- A spring, a sample, water as data. -/
structure Spr where
  low : Int
  high : Int
  fuel : Int
structure Smp where
  mix : Int
  foul : Bool
def zeroSpr : Spr := ⟨0, 0, 0⟩
def zeroSmp : Smp := ⟨0, false⟩
structure Wat where
  spr : List Spr
  most : Int
  miss : Int
  al : Int
  smp : List Smp

def SprAt (w : World) (A : Option Addr) (xs : List Spr) : Prop :=
  xs ≠ [] → ∃ b off, A = some ⟨b, off, none⟩ ∧ b < w.heap.size ∧ ∀ k, k < xs.length →
    w.cell? ⟨b, off + k * 3, none⟩ = some (.int .i64 (xs.getD k zeroSpr).low) ∧ w.cell? ⟨b, off + k * 3 + 1, none⟩ = some (.int .i64 (xs.getD k zeroSpr).high) ∧ w.cell? ⟨b, off + k * 3 + 2, none⟩ = some (.int .i64 (xs.getD k zeroSpr).fuel)
theorem SprAt.ext {w w' : World} {A : Option Addr} {xs : List Spr} (h : SprAt w A xs) (e : Ext w w') : SprAt w' A xs := fun hne => by
  obtain ⟨b, off, hA, hb, hc⟩ := h hne
  refine ⟨b, off, hA, Nat.lt_of_lt_of_le hb e.size, fun k hk => ?_⟩
  rw [e.cell hb, e.cell hb, e.cell hb]
  exact hc k hk
theorem SprAt.at_ {w : World} {A : Option Addr} {xs : List Spr} (h : SprAt w A xs) {n k : Nat} (hn : xs.length = n) (hk : k < n) : ∃ b off, A = some ⟨b, off, none⟩ ∧ b < w.heap.size ∧
    w.cell? ⟨b, off + k * 3, none⟩ = some (.int .i64 (xs.getD k zeroSpr).low) ∧ w.cell? ⟨b, off + k * 3 + 1, none⟩ = some (.int .i64 (xs.getD k zeroSpr).high) ∧ w.cell? ⟨b, off + k * 3 + 2, none⟩ = some (.int .i64 (xs.getD k zeroSpr).fuel) := by
  obtain ⟨b, off, hA, hb, hc⟩ := h (by rintro rfl; simp at hn; omega)
  exact ⟨b, off, hA, hb, hc k (by omega)⟩
def SmpAt (w : World) (A : Option Addr) (xs : List Smp) : Prop :=
  xs ≠ [] → ∃ b off, A = some ⟨b, off, none⟩ ∧ b < w.heap.size ∧ ∀ k, k < xs.length →
    w.cell? ⟨b, off + k * 2, none⟩ = some (.int .i64 (xs.getD k zeroSmp).mix) ∧ w.cell? ⟨b, off + k * 2 + 1, none⟩ = some (.bool (xs.getD k zeroSmp).foul)
theorem SmpAt.ext {w w' : World} {A : Option Addr} {xs : List Smp} (h : SmpAt w A xs) (e : Ext w w') : SmpAt w' A xs := fun hne => by
  obtain ⟨b, off, hA, hb, hc⟩ := h hne
  refine ⟨b, off, hA, Nat.lt_of_lt_of_le hb e.size, fun k hk => ?_⟩
  rw [e.cell hb, e.cell hb]
  exact hc k hk
theorem SmpAt.at_ {w : World} {A : Option Addr} {xs : List Smp} (h : SmpAt w A xs) {n k : Nat} (hn : xs.length = n) (hk : k < n) : ∃ b off, A = some ⟨b, off, none⟩ ∧ b < w.heap.size ∧
    w.cell? ⟨b, off + k * 2, none⟩ = some (.int .i64 (xs.getD k zeroSmp).mix) ∧ w.cell? ⟨b, off + k * 2 + 1, none⟩ = some (.bool (xs.getD k zeroSmp).foul) := by
  obtain ⟨b, off, hA, hb, hc⟩ := h (by rintro rfl; simp at hn; omega)
  exact ⟨b, off, hA, hb, hc k (by omega)⟩

/-- Where the two slices of water lie. -/
structure WA where
  SA : Option Addr
  sc : Nat
  MA : Option Addr
  mc : Nat
/-- Water as a value: its cells. -/
def wcells (d : Wat) (A : WA) : Array Value := #[.slice A.SA d.spr.length A.sc, .int .i64 d.most, .int .i64 d.miss, .int .i64 d.al, .slice A.MA d.smp.length A.mc]
def wval (d : Wat) (A : WA) : Value := .agg (wcells d A)
/-- A field as a value: water, and the possible truths. -/
def fcells (d : Wat) (A : WA) (T : Value) : Array Value := #[.slice A.SA d.spr.length A.sc, .int .i64 d.most, .int .i64 d.miss, .int .i64 d.al, .slice A.MA d.smp.length A.mc, T]
def fval (d : Wat) (A : WA) (T : Value) : Value := .agg (fcells d A T)
structure WIn (w : World) (d : Wat) (A : WA) : Prop where
  spr : SprAt w A.SA d.spr
  smp : SmpAt w A.MA d.smp
theorem WIn.ext {w w' : World} {d : Wat} {A : WA} (h : WIn w d A) (e : Ext w w') : WIn w' d A := ⟨h.spr.ext e, h.smp.ext e⟩

/-- A list of numbers in memory. -/
def IntsAt (w : World) (A : Option Addr) (xs : List Int) : Prop :=
  xs ≠ [] → ∃ b off, A = some ⟨b, off, none⟩ ∧ b < w.heap.size ∧ ∀ k, k < xs.length → w.cell? ⟨b, off + k, none⟩ = some (.int .i64 (xs.getD k 0))
theorem IntsAt.ext {w w' : World} {A : Option Addr} {xs : List Int} (h : IntsAt w A xs) (e : Ext w w') : IntsAt w' A xs := fun hne => by
  obtain ⟨b, off, hA, hb, hc⟩ := h hne
  exact ⟨b, off, hA, Nat.lt_of_lt_of_le hb e.size, fun k hk => (e.cell hb).trans (hc k hk)⟩
/-- A list of sets in memory. -/
def SetsAt (w : World) (A : Option Addr) (xs : List Nat) : Prop :=
  xs ≠ [] → ∃ b off, A = some ⟨b, off, none⟩ ∧ b < w.heap.size ∧ ∀ k, k < xs.length → w.cell? ⟨b, off + k, none⟩ = some (.int .u64 (xs.getD k 0 : Nat))
theorem SetsAt.ext {w w' : World} {A : Option Addr} {xs : List Nat} (h : SetsAt w A xs) (e : Ext w w') : SetsAt w' A xs := fun hne => by
  obtain ⟨b, off, hA, hb, hc⟩ := h hne
  exact ⟨b, off, hA, Nat.lt_of_lt_of_le hb e.size, fun k hk => (e.cell hb).trans (hc k hk)⟩

/-- The library's table of the lowest bits lies in its variable. -/
structure TabW (w : World) : Prop where
  size : 2 ≤ w.heap.size
  at_ : ∀ j, j < 64 → w.cell? ⟨1, j, none⟩ = some (.int .u8 (Lib.deBruijn64tab.getD j 0 : Nat))
theorem TabW.ext {w w' : World} (h : TabW w) (e : Ext w w') : TabW w' := ⟨Nat.le_trans h.size e.size, fun j hj => (e.cell (p := ⟨1, j, none⟩) (by have := h.size; dsimp only; omega)).trans (h.at_ j hj)⟩

theorem hid {p : Prop} (h : p) : Hid p := h
theorem ret_bool {a b : Bool} (h : a = b) : Ending.returned (.bool a) = .returned (.bool b) := by rw [h]
theorem ret_int {k : IntKind} {a b : Int} (h : a = b) : Ending.returned (.int k a) = .returned (.int k b) := by rw [h]
theorem blk_cell {w : World} {g : Nat} {cs : Array Value} {t : TypeId} (h : w.heap[g]? = some (.cells cs t (0, 0))) (i : Nat) : w.cell? ⟨g, i, none⟩ = cs[i]? := cell_of_row w g i cs t (0, 0) h
theorem blk_ext {w w' : World} {g : Nat} {o : Obj} (h : w.heap[g]? = some o) (e : Ext w w') : w'.heap[g]? = some o := (Below.block e g (Array.getElem?_eq_some_iff.1 h).1).trans h

end Go.Proofs.YtcfijidlbimckaaDoor
