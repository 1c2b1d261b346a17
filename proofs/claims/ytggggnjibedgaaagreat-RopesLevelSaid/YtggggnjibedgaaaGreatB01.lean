/- Memory that only grows (Ext), and how the data of layer 1 lie in memory. -/
import Derived.Test.YtggggnjibedgaaaGreatRows
import Derived.WalkKit
import Derived.WalkSpells
import Derived.WalkLawsBesides
import Derived.OrdersHeld
import Derived.RangeFuncNested
import Derived.RangeFuncCalls
import Derived.RangeFuncLeaves
import Derived.Deep.RegionHeld3
import Derived.Sort.Defs
import Derived.Deep.MidRow
set_option linter.unusedSimpArgs false
set_option linter.unusedVariables false
namespace Go.Proofs.YtggggnjibedgaaaGreat
open Go.RowKit
/-- Short names of what each step of a region asks for. -/
theorem sq1 {α : Type} {xs : List α} {i : Nat} (h : i < xs.toArray.size) : xs.toArray[i] = xs[i]'h := rfl
theorem sq2 {α : Type} (a : α) (xs : List α) (h : 0 < (a :: xs).length) : (a :: xs)[0] = a := rfl
theorem sq3 {α : Type} (a : α) (xs : List α) (i : Nat) (h : i + 1 < (a :: xs).length) : (a :: xs)[i + 1] = xs[i]'(Nat.lt_of_succ_lt_succ h) := rfl
theorem sq4 {α : Type} (l : List α) (i : Nat) (a : α) : l.toArray.setIfInBounds i a = (l.set i a).toArray := List.setIfInBounds_toArray l i a
theorem sq5 {α : Type} {x : α} {xs : List α} {a : α} : (x :: xs).set 0 a = a :: xs := rfl
theorem sq6 {α : Type} {x : α} {xs : List α} {i : Nat} {a : α} : (x :: xs).set (i + 1) a = x :: xs.set i a := rfl
/-- Take number i first: it is wanted and yields v wherever S holds. -/
theorem tk1 {P : Program} {ops : Array Oper} {Q : Exit → Act → World → Prop} {md : Region.Mode} {S : World → Prop} {i : Nat} {oi : Oper} {v : Value} {fuel : Nat} {listed : Array Bool} {a : Act} {w : World} (hi : ops[i]? = some oi)
    (hy : ∀ w, S w → (execOp a.eval oi).run P w = .ok (.value v) w) (h : wpAnyH P md ops Q S fuel (listed.setIfInBounds i true) (a.put oi.dst v) w)
    (hs : Region.noSelect ops = true := by kernel_rfl) (hf : Region.free md ops listed i = true := by kernel_rfl) (hr : (Region.ready md ops listed).contains i = true := by kernel_rfl)
    (hQ : ∀ c a w, Q (.panic c) (a.put oi.dst v) w → Q (.panic c) a w := by exact fun _ _ _ h => h) (hw : Region.wanted oi (yielded ops a.tmps) = true := by rfl) (hS : S w := by assumption) : wpAnyH P md ops Q S (fuel + 1) listed a w :=
  wpAnyH_take hi hs hf hr hQ (Or.inl ⟨hw, hy⟩) hS h
/-- Pass over number i: it is not wanted. -/
theorem tku1 {P : Program} {ops : Array Oper} {Q : Exit → Act → World → Prop} {md : Region.Mode} {S : World → Prop} {i : Nat} {oi : Oper} {fuel : Nat} {listed : Array Bool} {a : Act} {w : World} (hi : ops[i]? = some oi)
    (h : wpAnyH P md ops Q S fuel (listed.setIfInBounds i true) (a.put oi.dst undef) w)
    (hs : Region.noSelect ops = true := by kernel_rfl) (hf : Region.free md ops listed i = true := by kernel_rfl) (hr : (Region.ready md ops listed).contains i = true := by kernel_rfl)
    (hQ : ∀ c a w, Q (.panic c) (a.put oi.dst undef) w → Q (.panic c) a w := by exact fun _ _ _ h => h) (hw : Region.wanted oi (yielded ops a.tmps) = false := by rfl) (hS : S w := by assumption) : wpAnyH P md ops Q S (fuel + 1) listed a w :=
  wpAnyH_take hi hs hf hr hQ (Or.inr ⟨hw, rfl⟩) hS h

/-- All that was there is as it was. -/
def Ext (w w' : World) : Prop := Below w.heap.size w w'
theorem Ext.refl (w : World) : Ext w w := Below.refl _ _
theorem Ext.size {a b : World} (h : Ext a b) : a.heap.size ≤ b.heap.size := Below.size h
theorem Ext.trans {a b c : World} (h : Ext a b) (k : Ext b c) : Ext a c := Below.trans h (Below.mono k h.size)
theorem Ext.alloc {a b : World} (h : Ext a b) (o : Obj) : Ext a (b.alloc o) := Below.alloc h h.size o
theorem Ext.set {a b : World} (h : Ext a b) {p : Addr} (hp : a.heap.size ≤ p.block) (u : Value) : Ext a (b.setCell p u) := Below.setCell h hp u
theorem Ext.drew {a b : World} (h : Ext a b) : Ext a b.drew := Below.drew h
theorem Ext.drewN {a b : World} (h : Ext a b) (n : Nat) : Ext a (b.drewN n) := by
  have h' : Below a.heap.size a b := h
  exact ⟨h'.os, h'.tape, h'.output, h'.size, h'.block⟩
theorem Ext.cell {a b : World} (h : Ext a b) {p : Addr} (hp : p.block < a.heap.size) : b.cell? p = a.cell? p := Below.cell h hp
theorem Ext.frozen {a b : World} (h : Ext a b) {p : Addr} (hp : p.block < a.heap.size) : b.frozen? p = a.frozen? p := Below.frozen h hp
theorem Ext.sizeLe {a b : World} {n : Nat} (h : Ext a b) (k : n ≤ a.heap.size) : n ≤ b.heap.size := Nat.le_trans k h.size
theorem ext_alloc1 (w : World) (o : Obj) : Ext w (w.alloc o) := (Ext.refl w).alloc o

/-- What a cell holds. -/
def heldAt (w : World) (a : Addr) : Value := (w.cell? a).getD undef
theorem held_of {w : World} {a : Addr} {v : Value} (h : w.cell? a = some v) : w.cell? a = some (heldAt w a) := by unfold heldAt; rw [h]; rfl
theorem held_some {w : World} {a : Addr} (h : (w.cell? a).isSome = true) : w.cell? a = some (heldAt w a) := by
  obtain ⟨v, hv⟩ := Option.isSome_iff_exists.1 h
  exact held_of hv
theorem held_ext {w w' : World} {a : Addr} (e : Ext w w') (hb : a.block < w.heap.size) (h : w.cell? a = some (heldAt w a)) : w'.cell? a = some (heldAt w' a) := held_of ((e.cell hb).trans h)
theorem held_set (w : World) (p : Addr) (u : Value) (a : Addr) (h : w.cell? a = some (heldAt w a)) : (w.setCell p u).cell? a = some (heldAt (w.setCell p u) a) := by
  by_cases hp : a = p
  · subst hp
    exact held_of (World.cell?_setCell_same' w a u (by rw [h]; rfl))
  · exact held_of ((World.cell?_setCell_other w p a u (by first | exact hp | exact fun e => hp e.symm)).trans h)
theorem cell_set_val {w : World} {p : Addr} {u x : Value} (h : (w.setCell p u).cell? p = some x) : (w.setCell p u).cell? p = some u := by
  cases hw : w.cell? p with
  | none =>
    exfalso
    revert h hw
    unfold World.cell? World.setCell
    simp only [Array.getElem?_modify]
    cases hh : w.heap[p.block]? with
    | none => simp
    | some o =>
      cases o with
      | cells c e f =>
        by_cases hs : p.spot.isSome = true
        · simp [hs]
        · simp only [Bool.not_eq_true] at hs
          simp only [hs, Option.map_some]
          intro hx h0
          have hlt := (Array.getElem?_eq_some_iff.1 (by simpa [hs] using hx)).1
          simp at hlt
          simp at h0
          omega
      | _ => simp
  | some y => exact World.cell?_setCell_same' w p u (by rw [hw]; rfl)

theorem cell_set_val2 {w : World} {p q : Addr} {u v x : Value} (hne : q ≠ p) (h : ((w.setCell p u).setCell q v).cell? p = some x) : ((w.setCell p u).setCell q v).cell? p = some u := by
  rw [World.cell?_setCell_other _ _ _ _ hne] at h ⊢
  exact cell_set_val h

/-- The world of a walk under a name of its own, with what is known of it. -/
theorem wp_abs {P : Program} {c : Code} {Q : Exit → Act → World → Prop} {a : Act} {w : World} (F : World → Prop) (hF : F w) (h : ∀ W, F W → Code.wp P c Q a W) : Code.wp P c Q a w := h w hF

/-- What lies below block n is as it was. -/
theorem kcell {w1 w2 W : World} {n : Nat} (h : ∀ b o, b < n → w1.cell? ⟨b, o, none⟩ = W.cell? ⟨b, o, none⟩) (hn : n ≤ w1.heap.size) (e : Ext w1 w2) : ∀ b o, b < n → w2.cell? ⟨b, o, none⟩ = W.cell? ⟨b, o, none⟩ :=
  fun b o hb => (e.cell (p := ⟨b, o, none⟩) (Nat.lt_of_lt_of_le hb hn)).trans (h b o hb)
theorem kcell_set {w1 W : World} {n : Nat} (h : ∀ b o, b < n → w1.cell? ⟨b, o, none⟩ = W.cell? ⟨b, o, none⟩) {p : Addr} (hp : n ≤ p.block) (u : Value) : ∀ b o, b < n → (w1.setCell p u).cell? ⟨b, o, none⟩ = W.cell? ⟨b, o, none⟩ :=
  fun b o hb => (World.cell?_setCell_other w1 p ⟨b, o, none⟩ u (fun e => by subst e; simp at hp; omega)).trans (h b o hb)
theorem kcell_refl (W : World) (n : Nat) : ∀ b o, b < n → W.drew.cell? ⟨b, o, none⟩ = W.cell? ⟨b, o, none⟩ := fun _ _ _ => rfl
theorem hfrozen_ext {w w' : World} {a : Addr} (e : Ext w w') (hb : a.block < w.heap.size) (h : w.frozen? a = false) : w'.frozen? a = false := (e.frozen hb).trans h
theorem hfrozen_set {w : World} {a : Addr} (p : Addr) (u : Value) (h : w.frozen? a = false) : (w.setCell p u).frozen? a = false := (World.frozen?_setCell ..).trans h
theorem hsize_set {w : World} {n : Nat} (p : Addr) (u : Value) (h : n ≤ w.heap.size) : n ≤ (w.setCell p u).heap.size := by simpa using h

theorem kfro {w1 w2 W : World} {n : Nat} (h : ∀ b o, b < n → w1.frozen? ⟨b, o, none⟩ = W.frozen? ⟨b, o, none⟩) (hn : n ≤ w1.heap.size) (e : Ext w1 w2) : ∀ b o, b < n → w2.frozen? ⟨b, o, none⟩ = W.frozen? ⟨b, o, none⟩ :=
  fun b o hb => (e.frozen (p := ⟨b, o, none⟩) (Nat.lt_of_lt_of_le hb hn)).trans (h b o hb)
/-- What lay below block n in W lies so in w'. -/
structure KC (n : Nat) (W w' : World) : Prop where
  cell : ∀ b o, b < n → w'.cell? ⟨b, o, none⟩ = W.cell? ⟨b, o, none⟩
  fro : ∀ b o, b < n → w'.frozen? ⟨b, o, none⟩ = W.frozen? ⟨b, o, none⟩
  size : n ≤ w'.heap.size
  ext : Ext W w'
theorem KC.refl {n : Nat} {W : World} (h : n ≤ W.heap.size) : KC n W W := ⟨fun _ _ _ => rfl, fun _ _ _ => rfl, h, Ext.refl W⟩
theorem KC.step {n : Nat} {W w1 w2 : World} (h : KC n W w1) (e : Ext w1 w2) : KC n W w2 := ⟨kcell h.cell h.size e, kfro h.fro h.size e, Ext.sizeLe e h.size, h.ext.trans e⟩

/-- A path as data. -/
structure Pt where
  frm : Int
  dst : Int
  grade : Int
  tl : Int
  th : Int
  sl : Int
  sh : Int
  opens : List (Int × Int)

def zeroPt : Pt := ⟨0, 0, 0, 0, 0, 0, 0, []⟩
def Pt.val (p : Pt) (A : Option Addr) (c : Nat) : Value :=
  .agg #[.int .i64 p.frm, .int .i64 p.dst, .int .i64 p.grade, .int .i64 p.tl, .int .i64 p.th, .int .i64 p.sl, .int .i64 p.sh, .slice A p.opens.length c]

/-- A list of pairs of numbers in memory. -/
def OpensAt (w : World) (A : Option Addr) (os : List (Int × Int)) : Prop :=
  os ≠ [] → ∃ b off, A = some ⟨b, off, none⟩ ∧ b < w.heap.size ∧ ∀ k, k < os.length →
    w.cell? ⟨b, off + k * 2, none⟩ = some (.int .i64 (os.getD k (0, 0)).1) ∧ w.cell? ⟨b, off + k * 2 + 1, none⟩ = some (.int .i64 (os.getD k (0, 0)).2)
theorem OpensAt.ext {w w' : World} {A : Option Addr} {os : List (Int × Int)} (h : OpensAt w A os) (e : Ext w w') : OpensAt w' A os := fun hne => by
  obtain ⟨b, off, hA, hb, hc⟩ := h hne
  refine ⟨b, off, hA, Nat.lt_of_lt_of_le hb e.size, fun k hk => ?_⟩
  rw [e.cell hb, e.cell hb]
  exact hc k hk

/-- The eight cells of a path in memory. -/
structure PtAt (w : World) (b off : Nat) (p : Pt) (A : Option Addr) (c : Nat) : Prop where
  c0 : w.cell? ⟨b, off, none⟩ = some (.int .i64 p.frm)
  c1 : w.cell? ⟨b, off + 1, none⟩ = some (.int .i64 p.dst)
  c2 : w.cell? ⟨b, off + 2, none⟩ = some (.int .i64 p.grade)
  c3 : w.cell? ⟨b, off + 3, none⟩ = some (.int .i64 p.tl)
  c4 : w.cell? ⟨b, off + 4, none⟩ = some (.int .i64 p.th)
  c5 : w.cell? ⟨b, off + 5, none⟩ = some (.int .i64 p.sl)
  c6 : w.cell? ⟨b, off + 6, none⟩ = some (.int .i64 p.sh)
  c7 : w.cell? ⟨b, off + 7, none⟩ = some (.slice A p.opens.length c)
  cap : p.opens.length ≤ c
  opens : OpensAt w A p.opens
theorem PtAt.ext {w w' : World} {b off : Nat} {p : Pt} {A : Option Addr} {c : Nat} (h : PtAt w b off p A c) (hb : b < w.heap.size) (e : Ext w w') : PtAt w' b off p A c :=
  ⟨(e.cell hb).trans h.c0, (e.cell hb).trans h.c1, (e.cell hb).trans h.c2, (e.cell hb).trans h.c3, (e.cell hb).trans h.c4, (e.cell hb).trans h.c5, (e.cell hb).trans h.c6, (e.cell hb).trans h.c7, h.cap, h.opens.ext e⟩

/-- A list of paths in memory. -/
def PathsAt (w : World) (A : Option Addr) (ps : List Pt) : Prop :=
  ps ≠ [] → ∃ b off, A = some ⟨b, off, none⟩ ∧ b < w.heap.size ∧ ∀ k, k < ps.length → ∃ A' c, PtAt w b (off + k * 8) (ps.getD k zeroPt) A' c
theorem PathsAt.ext {w w' : World} {A : Option Addr} {ps : List Pt} (h : PathsAt w A ps) (e : Ext w w') : PathsAt w' A ps := fun hne => by
  obtain ⟨b, off, hA, hb, hc⟩ := h hne
  refine ⟨b, off, hA, Nat.lt_of_lt_of_le hb e.size, fun k hk => ?_⟩
  obtain ⟨A', c, h⟩ := hc k hk
  exact ⟨A', c, h.ext hb e⟩

/-- A list of numbers in memory. -/
def IntsAt (w : World) (A : Option Addr) (xs : List Int) : Prop :=
  xs ≠ [] → ∃ b off, A = some ⟨b, off, none⟩ ∧ b < w.heap.size ∧ ∀ k, k < xs.length → w.cell? ⟨b, off + k, none⟩ = some (.int .i64 (xs.getD k 0))
theorem IntsAt.ext {w w' : World} {A : Option Addr} {xs : List Int} (h : IntsAt w A xs) (e : Ext w w') : IntsAt w' A xs := fun hne => by
  obtain ⟨b, off, hA, hb, hc⟩ := h hne
  exact ⟨b, off, hA, Nat.lt_of_lt_of_le hb e.size, fun k hk => (e.cell hb).trans (hc k hk)⟩

theorem hid {p : Prop} (h : p) : Hid p := h
theorem ret_bool {a b : Bool} (h : a = b) : Ending.returned (.bool a) = .returned (.bool b) := by rw [h]
theorem ret_int {k : IntKind} {a b : Int} (h : a = b) : Ending.returned (.int k a) = .returned (.int k b) := by rw [h]

end Go.Proofs.YtggggnjibedgaaaGreat
/- How models, ropes, points, outings and posts lie in memory. -/
set_option linter.unusedSimpArgs false
set_option linter.unusedVariables false
namespace Go.Proofs.YtggggnjibedgaaaGreat
open Go.RowKit
/-- A span. -/
structure Sp where
  lo : Int
  hi : Int
deriving DecidableEq
def zeroSp : Sp := ⟨0, 0⟩
def Sp.val (x : Sp) : Value := .agg #[.int .i64 x.lo, .int .i64 x.hi]
structure SpAt (w : World) (b off : Nat) (x : Sp) : Prop where
  c0 : w.cell? ⟨b, off, none⟩ = some (.int .i64 x.lo)
  c1 : w.cell? ⟨b, off + 1, none⟩ = some (.int .i64 x.hi)
theorem SpAt.ext {w w' : World} {b off : Nat} {x : Sp} (h : SpAt w b off x) (hb : b < w.heap.size) (e : Ext w w') : SpAt w' b off x :=
  ⟨(e.cell hb).trans h.c0, (e.cell hb).trans h.c1⟩
def SpsAt (w : World) (A : Option Addr) (xs : List Sp) : Prop :=
  xs ≠ [] → ∃ b off, A = some ⟨b, off, none⟩ ∧ b < w.heap.size ∧ ∀ k, k < xs.length → SpAt w b (off + k * 2) (xs.getD k zeroSp)
theorem SpsAt.ext {w w' : World} {A : Option Addr} {xs : List Sp} (h : SpsAt w A xs) (e : Ext w w') : SpsAt w' A xs := fun hne => by
  obtain ⟨b, off, hA, hb, hc⟩ := h hne
  exact ⟨b, off, hA, Nat.lt_of_lt_of_le hb e.size, fun k hk => (hc k hk).ext hb e⟩
theorem SpsAt.at_ {w : World} {A : Option Addr} {xs : List Sp} (h : SpsAt w A xs) {n k : Nat} (hn : xs.length = n) (hk : k < n) : ∃ b off, A = some ⟨b, off, none⟩ ∧ b < w.heap.size ∧ SpAt w b (off + k * 2) (xs.getD k zeroSp) := by
  obtain ⟨b, off, hA, hb, hc⟩ := h (by rintro rfl; simp at hn; omega)
  exact ⟨b, off, hA, hb, hc k (by omega)⟩
theorem SpsAt.nil (w : World) (A : Option Addr) : SpsAt w A [] := fun h => absurd rfl h
/-- What a fall does. -/
structure Wr where
  fac : Int
  dmg : Int
deriving DecidableEq
def zeroWr : Wr := ⟨0, 0⟩
def Wr.val (x : Wr) : Value := .agg #[.int .i64 x.fac, .int .i64 x.dmg]
structure WrAt (w : World) (b off : Nat) (x : Wr) : Prop where
  c0 : w.cell? ⟨b, off, none⟩ = some (.int .i64 x.fac)
  c1 : w.cell? ⟨b, off + 1, none⟩ = some (.int .i64 x.dmg)
theorem WrAt.ext {w w' : World} {b off : Nat} {x : Wr} (h : WrAt w b off x) (hb : b < w.heap.size) (e : Ext w w') : WrAt w' b off x :=
  ⟨(e.cell hb).trans h.c0, (e.cell hb).trans h.c1⟩
def WrsAt (w : World) (A : Option Addr) (xs : List Wr) : Prop :=
  xs ≠ [] → ∃ b off, A = some ⟨b, off, none⟩ ∧ b < w.heap.size ∧ ∀ k, k < xs.length → WrAt w b (off + k * 2) (xs.getD k zeroWr)
theorem WrsAt.ext {w w' : World} {A : Option Addr} {xs : List Wr} (h : WrsAt w A xs) (e : Ext w w') : WrsAt w' A xs := fun hne => by
  obtain ⟨b, off, hA, hb, hc⟩ := h hne
  exact ⟨b, off, hA, Nat.lt_of_lt_of_le hb e.size, fun k hk => (hc k hk).ext hb e⟩
theorem WrsAt.at_ {w : World} {A : Option Addr} {xs : List Wr} (h : WrsAt w A xs) {n k : Nat} (hn : xs.length = n) (hk : k < n) : ∃ b off, A = some ⟨b, off, none⟩ ∧ b < w.heap.size ∧ WrAt w b (off + k * 2) (xs.getD k zeroWr) := by
  obtain ⟨b, off, hA, hb, hc⟩ := h (by rintro rfl; simp at hn; omega)
  exact ⟨b, off, hA, hb, hc k (by omega)⟩
theorem WrsAt.nil (w : World) (A : Option Addr) : WrsAt w A [] := fun h => absurd rfl h
/-- A fall. -/
structure Fl where
  day : Int
  hl : Int
  hh : Int
  ol : Int
  oh : Int
deriving DecidableEq
def zeroFl : Fl := ⟨0, 0, 0, 0, 0⟩
def Fl.val (x : Fl) : Value := .agg #[.int .i64 x.day, .int .i64 x.hl, .int .i64 x.hh, .int .i64 x.ol, .int .i64 x.oh]
structure FlAt (w : World) (b off : Nat) (x : Fl) : Prop where
  c0 : w.cell? ⟨b, off, none⟩ = some (.int .i64 x.day)
  c1 : w.cell? ⟨b, off + 1, none⟩ = some (.int .i64 x.hl)
  c2 : w.cell? ⟨b, off + 2, none⟩ = some (.int .i64 x.hh)
  c3 : w.cell? ⟨b, off + 3, none⟩ = some (.int .i64 x.ol)
  c4 : w.cell? ⟨b, off + 4, none⟩ = some (.int .i64 x.oh)
theorem FlAt.ext {w w' : World} {b off : Nat} {x : Fl} (h : FlAt w b off x) (hb : b < w.heap.size) (e : Ext w w') : FlAt w' b off x :=
  ⟨(e.cell hb).trans h.c0, (e.cell hb).trans h.c1, (e.cell hb).trans h.c2, (e.cell hb).trans h.c3, (e.cell hb).trans h.c4⟩
def FlsAt (w : World) (A : Option Addr) (xs : List Fl) : Prop :=
  xs ≠ [] → ∃ b off, A = some ⟨b, off, none⟩ ∧ b < w.heap.size ∧ ∀ k, k < xs.length → FlAt w b (off + k * 5) (xs.getD k zeroFl)
theorem FlsAt.ext {w w' : World} {A : Option Addr} {xs : List Fl} (h : FlsAt w A xs) (e : Ext w w') : FlsAt w' A xs := fun hne => by
  obtain ⟨b, off, hA, hb, hc⟩ := h hne
  exact ⟨b, off, hA, Nat.lt_of_lt_of_le hb e.size, fun k hk => (hc k hk).ext hb e⟩
theorem FlsAt.at_ {w : World} {A : Option Addr} {xs : List Fl} (h : FlsAt w A xs) {n k : Nat} (hn : xs.length = n) (hk : k < n) : ∃ b off, A = some ⟨b, off, none⟩ ∧ b < w.heap.size ∧ FlAt w b (off + k * 5) (xs.getD k zeroFl) := by
  obtain ⟨b, off, hA, hb, hc⟩ := h (by rintro rfl; simp at hn; omega)
  exact ⟨b, off, hA, hb, hc k (by omega)⟩
theorem FlsAt.nil (w : World) (A : Option Addr) : FlsAt w A [] := fun h => absurd rfl h
/-- A guide. -/
structure Gd where
  grade : Int
  til : Int
  pts : Int
deriving DecidableEq
def zeroGd : Gd := ⟨0, 0, 0⟩
def Gd.val (x : Gd) : Value := .agg #[.int .i64 x.grade, .int .i64 x.til, .int .i64 x.pts]
structure GdAt (w : World) (b off : Nat) (x : Gd) : Prop where
  c0 : w.cell? ⟨b, off, none⟩ = some (.int .i64 x.grade)
  c1 : w.cell? ⟨b, off + 1, none⟩ = some (.int .i64 x.til)
  c2 : w.cell? ⟨b, off + 2, none⟩ = some (.int .i64 x.pts)
theorem GdAt.ext {w w' : World} {b off : Nat} {x : Gd} (h : GdAt w b off x) (hb : b < w.heap.size) (e : Ext w w') : GdAt w' b off x :=
  ⟨(e.cell hb).trans h.c0, (e.cell hb).trans h.c1, (e.cell hb).trans h.c2⟩
def GdsAt (w : World) (A : Option Addr) (xs : List Gd) : Prop :=
  xs ≠ [] → ∃ b off, A = some ⟨b, off, none⟩ ∧ b < w.heap.size ∧ ∀ k, k < xs.length → GdAt w b (off + k * 3) (xs.getD k zeroGd)
theorem GdsAt.ext {w w' : World} {A : Option Addr} {xs : List Gd} (h : GdsAt w A xs) (e : Ext w w') : GdsAt w' A xs := fun hne => by
  obtain ⟨b, off, hA, hb, hc⟩ := h hne
  exact ⟨b, off, hA, Nat.lt_of_lt_of_le hb e.size, fun k hk => (hc k hk).ext hb e⟩
theorem GdsAt.at_ {w : World} {A : Option Addr} {xs : List Gd} (h : GdsAt w A xs) {n k : Nat} (hn : xs.length = n) (hk : k < n) : ∃ b off, A = some ⟨b, off, none⟩ ∧ b < w.heap.size ∧ GdAt w b (off + k * 3) (xs.getD k zeroGd) := by
  obtain ⟨b, off, hA, hb, hc⟩ := h (by rintro rfl; simp at hn; omega)
  exact ⟨b, off, hA, hb, hc k (by omega)⟩
theorem GdsAt.nil (w : World) (A : Option Addr) : GdsAt w A [] := fun h => absurd rfl h
/-- A post. -/
structure Po where
  pos : Int
  sl : Int
  sh : Int
deriving DecidableEq
def zeroPo : Po := ⟨0, 0, 0⟩
def Po.val (x : Po) : Value := .agg #[.int .i64 x.pos, .int .i64 x.sl, .int .i64 x.sh]
structure PoAt (w : World) (b off : Nat) (x : Po) : Prop where
  c0 : w.cell? ⟨b, off, none⟩ = some (.int .i64 x.pos)
  c1 : w.cell? ⟨b, off + 1, none⟩ = some (.int .i64 x.sl)
  c2 : w.cell? ⟨b, off + 2, none⟩ = some (.int .i64 x.sh)
theorem PoAt.ext {w w' : World} {b off : Nat} {x : Po} (h : PoAt w b off x) (hb : b < w.heap.size) (e : Ext w w') : PoAt w' b off x :=
  ⟨(e.cell hb).trans h.c0, (e.cell hb).trans h.c1, (e.cell hb).trans h.c2⟩
def PosAt (w : World) (A : Option Addr) (xs : List Po) : Prop :=
  xs ≠ [] → ∃ b off, A = some ⟨b, off, none⟩ ∧ b < w.heap.size ∧ ∀ k, k < xs.length → PoAt w b (off + k * 3) (xs.getD k zeroPo)
theorem PosAt.ext {w w' : World} {A : Option Addr} {xs : List Po} (h : PosAt w A xs) (e : Ext w w') : PosAt w' A xs := fun hne => by
  obtain ⟨b, off, hA, hb, hc⟩ := h hne
  exact ⟨b, off, hA, Nat.lt_of_lt_of_le hb e.size, fun k hk => (hc k hk).ext hb e⟩
theorem PosAt.at_ {w : World} {A : Option Addr} {xs : List Po} (h : PosAt w A xs) {n k : Nat} (hn : xs.length = n) (hk : k < n) : ∃ b off, A = some ⟨b, off, none⟩ ∧ b < w.heap.size ∧ PoAt w b (off + k * 3) (xs.getD k zeroPo) := by
  obtain ⟨b, off, hA, hb, hc⟩ := h (by rintro rfl; simp at hn; omega)
  exact ⟨b, off, hA, hb, hc k (by omega)⟩
theorem PosAt.nil (w : World) (A : Option Addr) : PosAt w A [] := fun h => absurd rfl h
/-- A model of a rope. -/
structure Md where
  shelf : Int
  use : Int
  bears : Int
  wears : List Wr
deriving DecidableEq
def Md.val (m : Md) (A : Option Addr) (c : Nat) : Value := .agg #[.int .i64 m.shelf, .int .i64 m.use, .int .i64 m.bears, .slice A m.wears.length c]
/-- A rope. -/
structure Ro where
  made : Int
  first : Int
  len : Int
  falls : List Fl
deriving DecidableEq
def zeroRo : Ro := ⟨0, 0, 0, []⟩
def Ro.val (r : Ro) (A : Option Addr) (c : Nat) : Value := .agg #[.int .i64 r.made, .int .i64 r.first, .int .i64 r.len, .slice A r.falls.length c]
def RoAt (w : World) (b off : Nat) (r : Ro) : Prop :=
  ∃ A c, w.cell? ⟨b, off, none⟩ = some (.int .i64 r.made) ∧ w.cell? ⟨b, off + 1, none⟩ = some (.int .i64 r.first) ∧ w.cell? ⟨b, off + 2, none⟩ = some (.int .i64 r.len) ∧ w.cell? ⟨b, off + 3, none⟩ = some (.slice A r.falls.length c) ∧ r.falls.length ≤ c ∧ FlsAt w A r.falls
theorem RoAt.ext {w w' : World} {b off : Nat} {r : Ro} (x : RoAt w b off r) (hb : b < w.heap.size) (e : Ext w w') : RoAt w' b off r := by
  obtain ⟨A, c, h0, h1, h2, h3, h4, h5⟩ := x
  exact ⟨A, c, (e.cell hb).trans h0, (e.cell hb).trans h1, (e.cell hb).trans h2, (e.cell hb).trans h3, h4, h5.ext e⟩
def RosAt (w : World) (A : Option Addr) (xs : List Ro) : Prop :=
  xs ≠ [] → ∃ b off, A = some ⟨b, off, none⟩ ∧ b < w.heap.size ∧ ∀ k, k < xs.length → RoAt w b (off + k * 4) (xs.getD k zeroRo)
theorem RosAt.ext {w w' : World} {A : Option Addr} {xs : List Ro} (h : RosAt w A xs) (e : Ext w w') : RosAt w' A xs := fun hne => by
  obtain ⟨b, off, hA, hb, hc⟩ := h hne
  exact ⟨b, off, hA, Nat.lt_of_lt_of_le hb e.size, fun k hk => (hc k hk).ext hb e⟩
theorem RosAt.at_ {w : World} {A : Option Addr} {xs : List Ro} (h : RosAt w A xs) {n k : Nat} (hn : xs.length = n) (hk : k < n) : ∃ b off, A = some ⟨b, off, none⟩ ∧ b < w.heap.size ∧ RoAt w b (off + k * 4) (xs.getD k zeroRo) := by
  obtain ⟨b, off, hA, hb, hc⟩ := h (by rintro rfl; simp at hn; omega)
  exact ⟨b, off, hA, hb, hc k (by omega)⟩
theorem RosAt.nil (w : World) (A : Option Addr) : RosAt w A [] := fun h => absurd rfl h
theorem IntsAt.at_ {w : World} {A : Option Addr} {xs : List Int} (h : IntsAt w A xs) {n k : Nat} (hn : xs.length = n) (hk : k < n) : ∃ b off, A = some ⟨b, off, none⟩ ∧ b < w.heap.size ∧ w.cell? ⟨b, off + k, none⟩ = some (.int .i64 (xs.getD k 0)) := by
  obtain ⟨b, off, hA, hb, hc⟩ := h (by rintro rfl; simp at hn; omega)
  exact ⟨b, off, hA, hb, hc k (by omega)⟩
/-- An outing. -/
structure Ou where
  day : Int
  grade : Int
  spc : Int
  gds : List Gd
  cls : List Int
  md : Md
  ros : List Ro
/-- Where the slices of an outing lie. -/
structure OA where
  gA : Option Addr
  gc : Nat
  cA : Option Addr
  cc : Nat
  wA : Option Addr
  wc : Nat
  rA : Option Addr
  rc : Nat
def Ou.val (o : Ou) (A : OA) : Value := .agg #[.int .i64 o.day, .int .i64 o.grade, .int .i64 o.spc, .slice A.gA o.gds.length A.gc, .slice A.cA o.cls.length A.cc,
  .int .i64 o.md.shelf, .int .i64 o.md.use, .int .i64 o.md.bears, .slice A.wA o.md.wears.length A.wc, .slice A.rA o.ros.length A.rc]
structure OuAt (W : World) (o : Ou) (A : OA) : Prop where
  gs : GdsAt W A.gA o.gds
  cs : IntsAt W A.cA o.cls
  ws : WrsAt W A.wA o.md.wears
  rs : RosAt W A.rA o.ros
theorem OuAt.ext {w w' : World} {o : Ou} {A : OA} (h : OuAt w o A) (e : Ext w w') : OuAt w' o A := ⟨h.gs.ext e, h.cs.ext e, h.ws.ext e, h.rs.ext e⟩
/-- A mark at which a walk stands still. -/
def Halt (p : Prop) : Prop := p
theorem Halt.mk {p : Prop} (h : Halt p) : p := h
theorem blk_cell {w : World} {g : Nat} {cs : Array Value} {t : TypeId} (h : w.heap[g]? = some (.cells cs t (0, 0))) (i : Nat) : w.cell? ⟨g, i, none⟩ = cs[i]? := cell_of_row w g i cs t (0, 0) h
theorem blk_ext {w w' : World} {g : Nat} {o : Obj} (h : w.heap[g]? = some o) (e : Ext w w') : w'.heap[g]? = some o := (Below.block e g (Array.getElem?_eq_some_iff.1 h).1).trans h
/-- Block B holds just these cells. -/
def Blk (W : World) (B : Nat) (t : TypeId) (cs : Array Value) : Prop := W.heap[B]? = some (.cells cs t (0, 0))
theorem Blk.lt {W : World} {B : Nat} {t : TypeId} {cs : Array Value} (h : Blk W B t cs) : B < W.heap.size := (Array.getElem?_eq_some_iff.1 h).1
theorem Blk.cell {W : World} {B : Nat} {t : TypeId} {cs : Array Value} (h : Blk W B t cs) (i : Nat) : W.cell? ⟨B, i, none⟩ = cs[i]? := blk_cell h i
theorem Blk.fro {W : World} {B : Nat} {t : TypeId} {cs : Array Value} (h : Blk W B t cs) (i : Nat) : W.frozen? ⟨B, i, none⟩ = false := by
  have h' : W.heap[B]? = some (.cells cs t (0, 0)) := h
  simp [World.frozen?, h']
theorem Blk.ext {W W' : World} {B : Nat} {t : TypeId} {cs : Array Value} (h : Blk W B t cs) (e : Ext W W') : Blk W' B t cs := blk_ext h e
theorem Blk.alloc {W : World} {B : Nat} {t : TypeId} {cs : Array Value} (h : Blk W B t cs) (o : Obj) : Blk (W.alloc o) B t cs := blk_ext h (ext_alloc1 W o)
theorem Blk.new (W : World) (t : TypeId) (cs : Array Value) : Blk (W.alloc (.cells cs t)) W.heap.size t cs := World.alloc_heap_new W _
theorem Blk.other {W : World} {B : Nat} {t : TypeId} {cs : Array Value} (h : Blk W B t cs) {p : Addr} (hne : B ≠ p.block) (u : Value) : Blk (W.setCell p u) B t cs := (Below.heap_setCell W p u B hne).trans h
theorem Blk.set {W : World} {B : Nat} {t : TypeId} {v : Value} (h : Blk W B t #[v]) (u : Value) : Blk (W.setCell ⟨B, 0, none⟩ u) B t #[u] := Boxed.set u h
theorem Blk.setAt {W : World} {B : Nat} {t : TypeId} {cs : Array Value} (h : Blk W B t cs) (i : Nat) (u : Value) : Blk (W.setCell ⟨B, i, none⟩ u) B t (cs.setIfInBounds i u) := by
  have h' : W.heap[B]? = some (.cells cs t (0, 0)) := h
  unfold Blk World.setCell
  dsimp only
  rw [Array.getElem?_modify, if_pos rfl, h']
  simp
theorem Blk.putObj {W : World} {B D : Nat} {t : TypeId} {cs : Array Value} (h : Blk W B t cs) (hne : B ≠ D) (o : Obj) : Blk (W.putObj D o) B t cs := (World.putObj_heap_other hne).trans h
theorem blk_last (w : World) (o : Obj) : (w.alloc o).heap[w.heap.size]? = some o := World.alloc_heap_new w o
theorem blk_old {w : World} {k : Nat} {o : Obj} (h : w.heap[k]? = some o) (o' : Obj) : (w.alloc o').heap[k]? = some o := blk_ext h (ext_alloc1 w o')
theorem Blk.grown {k : Nat} {c : Array Value} {t : TypeId} {W W' : World} {row : Option Nat} (h : Blk W k t c) (hg : W.grownBy W' row) (hne : some k ≠ row) : Blk W' k t c := (hg.block k h.lt hne).trans h
theorem sK {W X : World} (e : Ext W X) : (∀ b o, b < W.heap.size → X.cell? ⟨b, o, none⟩ = W.cell? ⟨b, o, none⟩) ∧ W.heap.size ≤ X.heap.size ∧ Ext W X := ⟨kcell (w1 := W) (W := W) (fun _ _ _ => rfl) (Nat.le_refl _) e, e.size, e⟩
end Go.Proofs.YtggggnjibedgaaaGreat
/- What package ropes computes, as functions of data. -/
set_option linter.unusedSimpArgs false
set_option linter.unusedVariables false
namespace Go.Proofs.YtggggnjibedgaaaGreat
open Go.RowKit
def inI (a b c : Int) : Bool := decide (b ≤ a) && decide (a ≤ c)
def spB (l h b c : Int) : Bool := decide (b ≤ l) && decide (l ≤ h) && decide (h ≤ c)
/-- Whether each element but the first may follow the one before. -/
def ordB {α : Type} (r : α → α → Bool) (d : α) (xs : List α) : Bool := (List.range (xs.length - 1)).all fun i => r (xs.getD i d) (xs.getD (i + 1) d)
def wrB (x : Wr) : Bool := inI x.fac 1 200 && inI x.dmg 0 100
def wrO (a b : Wr) : Bool := decide (a.fac < b.fac) && decide (a.dmg ≤ b.dmg)
def mdB (m : Md) : Bool := inI m.shelf 1 10000 && inI m.use 1 10000 && inI m.bears 0 100 && decide (m.wears.length ≤ 6) && m.wears.all wrB && ordB wrO zeroWr m.wears
def flB (first : Int) (f : Fl) : Bool := !(first == -1) && inI f.day first 99999 && spB f.hl f.hh 1 1000 && spB f.ol f.oh 1 1000
def flO (a b : Fl) : Bool := decide (a.day ≤ b.day)
def roB (r : Ro) : Bool := inI r.made 0 99999 && (r.first == -1 || inI r.first r.made 99999) && inI r.len 1 100 && decide (r.falls.length ≤ 10) && r.falls.all (flB r.first) && ordB flO zeroFl r.falls
/-- The error of a model and a rope; of these and a day. -/
def takE (m : Md) (r : Ro) : Int := if mdB m then (if roB r then 0 else 91) else 90
def dayE (m : Md) (r : Ro) (d : Int) : Int := if mdB m then (if roB r then (if inI d r.made 99999 then 0 else 1) else 91) else 90
def facN (h o : Int) : Int := min ((100 * h + o - 1) / o) 200
def harmL (f : Int) : List Wr → Int → Int
  | [], d => d
  | w :: ws, d => harmL f ws (if w.fac ≤ f then w.dmg else d)
def harmN (ws : List Wr) (f : Int) : Int := harmL f ws 0
/-- The damage of falls up to a day. -/
def dmgL (ws : List Wr) (d : Int) (fs : List Fl) : Int × Int :=
  fs.foldl (fun s f => if f.day ≤ d then (s.1 + harmN ws (facN f.hl f.oh), s.2 + harmN ws (facN f.hh f.ol)) else s) (0, 0)
def expN (m : Md) (r : Ro) : Int := if r.first = -1 then r.made + m.shelf else min (r.made + m.shelf) (r.first + m.use)
def fitB (m : Md) (r : Ro) (d x : Int) : Bool := decide (d ≤ expN m r) && decide (x ≤ m.bears)
def sureB (m : Md) (r : Ro) (d : Int) : Bool := fitB m r d (dmgL m.wears d r.falls).2
def lateN (r : Ro) : Int := r.falls.foldl (fun n f => max n f.day) (max r.made r.first)
theorem all_take_snoc {α : Type} (xs : List α) (p : α → Bool) (d : α) (k : Nat) (h : k < xs.length) : (xs.take (k + 1)).all p = ((xs.take k).all p && p (xs.getD k d)) := by
  rw [List.take_succ_eq_append_getElem h, List.all_append]
  simp [List.getD, List.getElem?_eq_getElem h]
theorem mem_at {α : Type} (xs : List α) (d : α) (k : Nat) (h : k < xs.length) : xs.getD k d ∈ xs := by
  simp [List.getD, List.getElem?_eq_getElem h]
theorem all_of_at {α : Type} (xs : List α) (p : α → Bool) (d : α) (k : Nat) (h : k < xs.length) (hp : p (xs.getD k d) = false) : xs.all p = false := by
  rw [List.all_eq_false]
  exact ⟨_, mem_at xs d k h, by rw [hp]; decide⟩
theorem all_true_end {α : Type} {xs : List α} {p : α → Bool} {k : Nat} (h : (xs.take k).all p = true) (hk : xs.length ≤ k) : xs.all p = true := by rwa [List.take_of_length_le hk] at h
theorem foldl_take_snoc {α β : Type} (xs : List α) (f : β → α → β) (b : β) (d : α) (k : Nat) (h : k < xs.length) : (xs.take (k + 1)).foldl f b = f ((xs.take k).foldl f b) (xs.getD k d) := by
  rw [List.take_succ_eq_append_getElem h, List.foldl_append]
  simp [List.getD, List.getElem?_eq_getElem h]
/-- The first k pairs stand in order. -/
def ordK {α : Type} (r : α → α → Bool) (d : α) (xs : List α) (k : Nat) : Bool := (List.range k).all fun i => r (xs.getD i d) (xs.getD (i + 1) d)
theorem ordK_succ {α : Type} (r : α → α → Bool) (d : α) (xs : List α) (k : Nat) : ordK r d xs (k + 1) = (ordK r d xs k && r (xs.getD k d) (xs.getD (k + 1) d)) := by
  unfold ordK
  rw [List.range_succ, List.all_append]
  simp
theorem ordK_end {α : Type} (r : α → α → Bool) (d : α) (xs : List α) (k : Nat) (h : xs.length - 1 = k) (ho : ordK r d xs k = true) : ordB r d xs = true := by
  unfold ordB; rw [h]; exact ho
theorem ordK_bad {α : Type} (r : α → α → Bool) (d : α) (xs : List α) (k : Nat) (h : k + 1 < xs.length) (hr : r (xs.getD k d) (xs.getD (k + 1) d) = false) : ordB r d xs = false := by
  unfold ordB
  rw [List.all_eq_false]
  exact ⟨k, List.mem_range.2 (by omega), by rw [hr]; decide⟩
theorem harmL_append (f : Int) (a b : List Wr) (d : Int) : harmL f (a ++ b) d = harmL f b (harmL f a d) := by
  induction a generalizing d with
  | nil => rfl
  | cons x t ih => exact ih _
theorem harmL_snoc (f : Int) (xs : List Wr) (k : Nat) (h : k < xs.length) : harmL f (xs.take (k + 1)) 0 = if (xs.getD k zeroWr).fac ≤ f then (xs.getD k zeroWr).dmg else harmL f (xs.take k) 0 := by
  rw [List.take_succ_eq_append_getElem h, harmL_append]
  simp [List.getD, List.getElem?_eq_getElem h, harmL]
theorem harmL_end (f : Int) (xs : List Wr) (k : Nat) (h : xs.length ≤ k) : harmL f (xs.take k) 0 = harmN xs f := by
  rw [List.take_of_length_le h]; rfl
end Go.Proofs.YtggggnjibedgaaaGreat
/- What package ropes computes about anchors, posts, sets and teams, as functions of data. -/
set_option linter.unusedSimpArgs false
set_option linter.unusedVariables false
namespace Go.Proofs.YtggggnjibedgaaaGreat
open Go.RowKit
/-- Which points are left. -/
def keepStep (f : Sp → Int) (load : Int) (xs : List Sp) : List Sp := xs.filter fun p => decide (load ≤ (xs.length : Int) * f p)
def holdN (f : Sp → Int) (load : Int) : Nat → List Sp → Bool
  | 0, xs => decide (0 < xs.length)
  | k + 1, xs => if (keepStep f load xs).length = xs.length then decide (0 < xs.length) else holdN f load k (keepStep f load xs)
def holdB (f : Sp → Int) (load : Int) (xs : List Sp) : Bool := holdN f load xs.length xs
/-- The number of elements of a set below 256. -/
def pcN (x : Nat) : Nat := (List.range 8).foldl (fun a i => a + (x >>> i) % 2) 0
def hasB (x i : Nat) : Bool := (x >>> i) % 2 == 1
def elemsL (n x : Nat) : List Nat := (List.range n).filter fun i => hasB x i
def othersL (n x : Nat) : List Nat := (List.range n).filter fun i => !hasB x i
def choL {α : Type} (d : α) (xs : List α) (s : Nat) : List α := (elemsL xs.length s).map fun i => xs.getD i d
def othL {α : Type} (d : α) (xs : List α) (s : Nat) : List α := (othersL xs.length s).map fun i => xs.getD i d
def xorN (s t : Nat) : Nat := s ^^^ t
def lowN (d : Nat) : Nat := d &&& (256 - d)
/-- Fewer elements, or as many and the lower one where they differ first. -/
def befB (s t : Nat) : Bool := if pcN s = pcN t then !((s &&& lowN (s ^^^ t)) == 0) else decide (pcN s < pcN t)
/-- The first set, by befB, that is enough. -/
def firstO (s : Nat) : Option Nat → Bool
  | none => true
  | some b => befB s b
def fewS (P : Nat → Bool) (o : Option Nat) (s : Nat) : Option Nat := if firstO s o && P s then some s else o
def fewN (P : Nat → Bool) (k : Nat) : Option Nat := (List.range k).foldl (fewS P) none
theorem fewN_succ (P : Nat → Bool) (k : Nat) : fewN P (k + 1) = fewS P (fewN P k) k := by
  unfold fewN; rw [List.range_succ, List.foldl_append]; rfl
def apartN (a b : Po) : Int := max (a.sh - b.sl) (b.sh - a.sl)
def tiltB (lim yrs : Int) (l r : Po) : Bool := decide (1000 * yrs * apartN l r > lim * (r.pos - l.pos))
/-- No two posts can tilt too much. -/
def levB (ps : List Po) (lim yrs : Int) : Bool := (List.range ps.length).all fun i => (List.range i).all fun j => !tiltB lim yrs (ps.getD j zeroPo) (ps.getD i zeroPo)
def poB (p : Po) : Bool := inI p.pos 0 100000 && spB p.sl p.sh 0 100
def poO (a b : Po) : Bool := decide (a.pos < b.pos)
def posB (ps : List Po) : Bool := decide (ps.length ≤ 8) && ps.all poB && ordB poO zeroPo ps
def posE (ps : List Po) (lim yrs : Int) : Int := if posB ps then (if inI lim 0 1000 && inI yrs 0 100 then 0 else 1) else 94
def propN (ps : List Po) (lim yrs : Int) : Option Nat := fewN (fun s => levB (othL zeroPo ps s) lim yrs) (2 ^ ps.length)
def propL (ps : List Po) (lim yrs : Int) : List Int := (elemsL 8 ((propN ps lim yrs).getD 0)).map fun (i : Nat) => (i : Int)
/-- Outings. -/
def gdB (g : Gd) : Bool := inI g.grade 1 6 && inI g.til 0 99999 && inI g.pts 0 20
def clB (c : Int) : Bool := inI c 1 20
def ouB (o : Ou) : Bool := inI o.day 0 99999 && inI o.grade 1 6 && inI o.spc 1 100 && decide (o.gds.length ≤ 4) && o.gds.all gdB && decide (o.cls.length ≤ 6) && o.cls.all clB && decide (o.ros.length ≤ 6) && o.ros.all fun r => decide (r.made ≤ o.day)
def outE (o : Ou) : Int := if mdB o.md then (if o.ros.all roB then (if ouB o then 0 else 93) else 91) else 90
def fitL (o : Ou) : List Nat := (List.range o.ros.length).filter fun i => sureB o.md (o.ros.getD i zeroRo) o.day
def lenR (o : Ou) (i : Nat) : Int := (o.ros.getD i zeroRo).len
/-- The numbers of a list, taken within bounds, by a measure, the greater one first. -/
def gtM (f : Nat → Int) (m : Nat) (x y : Nat) : Int := f (y % m) - f (x % m)
def sortM (f : Nat → Int) (m : Nat) (xs : List Nat) : List Nat := (Go.Sort.insertionSort (fun x y => decide (gtM f m x y < 0)) xs.toArray 0 xs.length).toList
def fitS (o : Ou) : List Nat := sortM (lenR o) o.ros.length (fitL o)
def cntN (gs : List Nat) (g : Nat) : Int := ((gs.count g : Nat) : Int)
def ordG (n : Nat) (gs : List Nat) : List Nat := sortM (cntN gs) n ((List.range n).filter fun g => gs.contains g)
def ptsN (o : Ou) (g : Nat) (gs : List Nat) : Int := (List.range gs.length).foldl (fun a i => if gs.getD i 0 = g then a + o.cls.getD i 0 else a) 0
def mayB (o : Ou) (g : Nat) (gs : List Nat) : Bool :=
  decide (o.grade ≤ (o.gds.getD g zeroGd).grade) && decide (o.day ≤ (o.gds.getD g zeroGd).til) && decide (ptsN o g gs ≤ (o.gds.getD g zeroGd).pts)
/-- All ways to lead. -/
def ledL (o : Ou) : Nat → List Nat → List (List Nat)
  | 0, gs => [gs]
  | k + 1, gs => (List.range o.gds.length).flatMap fun g => if mayB o g (gs ++ [g]) then ledL o k (gs ++ [g]) else []
/-- The rope of each guide, as the guides get them in their order. -/
def tieL (o : Ou) (gs : List Nat) : Option (List Int) :=
  let or := ordG o.gds.length gs
  let ft := fitS o
  if or.length ≤ ft.length ∧ (List.range or.length).all (fun i => decide (o.spc * cntN gs (or.getD i 0) ≤ lenR o (ft.getD i 0))) then
    some ((List.range o.gds.length).map fun g => if or.contains g then ((ft.getD (or.idxOf g) 0 : Nat) : Int) else -1)
  else none
def tmsL (o : Ou) : List (List Nat × List Int) := (ledL o o.cls.length []).filterMap fun gs => (tieL o gs).map fun r => (gs, r)
def leadN (rs : List Int) : Int := ((rs.filter fun r => !(r == -1)).length : Nat)
def gdsN (o : Ou) : Int := (tmsL o).foldl (fun a t => min a (leadN t.2)) (o.gds.length : Nat)
def gdsE (o : Ou) : Int := if outE o = 0 then (if tmsL o = [] then 3 else 0) else outE o
/-- The example. -/
def exM : Md := ⟨3650, 1825, 10, [⟨30, 1⟩, ⟨100, 4⟩, ⟨170, 10⟩]⟩
def exR : Ro := ⟨0, 100, 50, [⟨200, 20, 30, 100, 100⟩, ⟨300, 40, 60, 40, 50⟩]⟩
def exO : Ou := ⟨400, 3, 10, [⟨4, 500, 6⟩, ⟨3, 399, 9⟩, ⟨3, 400, 4⟩], [3, 2, 4], exM, [exR, ⟨300, -1, 20, []⟩]⟩
def exP : List Po := [⟨0, 0, 2⟩, ⟨4000, 1, 3⟩, ⟨6000, 5, 9⟩]
theorem ex_dmg : dmgL exM.wears 300 exR.falls = (1, 5) := by kernel_rfl
theorem ex_prop : propL exP 10 20 = [0, 1] := by kernel_rfl
theorem ex_gds : gdsN exO = 2 := by kernel_rfl
theorem ex_gdsE : gdsE exO = 0 := by kernel_rfl
theorem ex_posE : posE exP 10 20 = 0 := by kernel_rfl
theorem ex_dayE : dayE exM exR 300 = 0 := by kernel_rfl
end Go.Proofs.YtggggnjibedgaaaGreat
/- How a function ends whose result lies in a box. -/
set_option linter.unusedSimpArgs false
set_option linter.unusedVariables false
namespace Go.Proofs.YtggggnjibedgaaaGreat
open Go.RowKit
theorem body_abs {P : Program} {f : Func} {Q : Ending → World → Prop} {x : Exit} {a : Act} {w : World} (F : World → Prop) (hF : F w) (h : ∀ W, F W → bodyPost P f Q x a W) : bodyPost P f Q x a w := h w hF
theorem wp_absW {P : Program} {c : Code} {Q : Exit → Act → World → Prop} {a : Act} {w : World} (F : World → Prop) (hF : F w) (h : ∀ W, F W → Code.wp P c Q a W) : Code.wp P c Q a w := h w hF
theorem Blk.st2 {W : World} {b : Nat} {t : TypeId} {x0 x1 : Value} (h : Blk W b t #[x0, x1]) (y0 y1 : Value) : Blk ((W.setCell ⟨b, 0, none⟩ y0).setCell ⟨b, 1, none⟩ y1) b t #[y0, y1] := by
  have h3 := (h.setAt 0 y0).setAt 1 y1
  simp only [List.setIfInBounds_toArray, List.set_cons_zero, List.set_cons_succ] at h3
  exact h3
theorem Blk.st8 {W : World} {b : Nat} {t : TypeId} {x0 x1 x2 x3 x4 x5 x6 x7 : Value} (h : Blk W b t #[x0, x1, x2, x3, x4, x5, x6, x7]) (y0 y1 y2 y3 y4 y5 y6 y7 : Value) :
    Blk ((((((((W.setCell ⟨b, 0, none⟩ y0).setCell ⟨b, 1, none⟩ y1).setCell ⟨b, 2, none⟩ y2).setCell ⟨b, 3, none⟩ y3).setCell ⟨b, 4, none⟩ y4).setCell ⟨b, 5, none⟩ y5).setCell ⟨b, 6, none⟩ y6).setCell ⟨b, 7, none⟩ y7) b t #[y0, y1, y2, y3, y4, y5, y6, y7] := by
  have h3 := (((((((h.setAt 0 y0).setAt 1 y1).setAt 2 y2).setAt 3 y3).setAt 4 y4).setAt 5 y5).setAt 6 y6).setAt 7 y7
  simp only [List.setIfInBounds_toArray, List.set_cons_zero, List.set_cons_succ] at h3
  exact h3
def fillA : Array Value → Nat → List Value → Array Value
  | cs, _, [] => cs
  | cs, o, v :: r => fillA (cs.setIfInBounds o v) (o + 1) r
theorem Blk.fill {w : World} {b : Nat} {t : TypeId} {cs : Array Value} (h : Blk w b t cs) : ∀ (vs : List Value) (o : Nat), Blk (w.setCells b o vs) b t (fillA cs o vs) := by
  intro vs
  induction vs generalizing w cs with
  | nil => intro o; exact h
  | cons v r ih => intro o; exact ih (h.setAt o v) (o + 1)
theorem one_of {vs : List Value} (h : ∀ v ∈ vs, v.oneCell' = true) : vs.toArray.all (·.oneCell') = true := all_oneCell_toArray h
theorem blk_there {w : World} {b : Nat} {t : TypeId} {cs : Array Value} (h : Blk w b t cs) {n : Nat} (hn : cs.size = n) : w.there b 0 n := fun j hj => by
  refine ⟨?_, h.fro _⟩
  rw [h.cell, Nat.zero_add, Array.getElem?_eq_getElem (by omega)]
  rfl
theorem ext_setCells {a w : World} (h : Ext a w) {b : Nat} (hb : a.heap.size ≤ b) : ∀ (vs : List Value) (o : Nat), Ext a (w.setCells b o vs) := by
  intro vs
  induction vs generalizing w with
  | nil => intro o; exact h
  | cons v r ih => intro o; exact ih (h.set (p := ⟨b, o, none⟩) hb v) (o + 1)
theorem infoCord : (Tryz.prog.info? 102).map (·.size) = some 8 := by kernel_rfl
theorem blks2 (w : World) (o1 o2 : Obj) : ((w.alloc o1).alloc o2).heap[w.heap.size]? = some o1 ∧ ((w.alloc o1).alloc o2).heap[w.heap.size + 1]? = some o2 :=
  ⟨blk_old (blk_last w o1) o2, by have := blk_last (w.alloc o1) o2; rwa [World.size_alloc] at this⟩
theorem blks3 (w : World) (o1 o2 o3 : Obj) : (((w.alloc o1).alloc o2).alloc o3).heap[w.heap.size]? = some o1 ∧ (((w.alloc o1).alloc o2).alloc o3).heap[w.heap.size + 1]? = some o2 ∧ (((w.alloc o1).alloc o2).alloc o3).heap[w.heap.size + 1 + 1]? = some o3 :=
  ⟨blk_old (blks2 w o1 o2).1 o3, blk_old (blks2 w o1 o2).2 o3, by have := blk_last ((w.alloc o1).alloc o2) o3; rwa [World.size_alloc, World.size_alloc] at this⟩
end Go.Proofs.YtggggnjibedgaaaGreat
