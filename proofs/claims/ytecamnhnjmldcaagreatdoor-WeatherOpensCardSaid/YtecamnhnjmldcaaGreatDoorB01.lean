/- Memory that only grows (Ext), and how the data of layer 1 lie in memory. -/
import Derived.Test.YtecamnhnjmldcaaGreatDoorRows
import Derived.WalkKit
import Derived.WalkSpells
import Derived.WalkLawsBesides
import Derived.OrdersHeld
import Derived.RangeFuncNested
import Derived.RangeFuncCalls
import Derived.RangeFuncLeaves
import Derived.Deep.RegionHeld3
set_option linter.unusedSimpArgs false
set_option linter.unusedVariables false
namespace Go.Proofs.YtecamnhnjmldcaaGreatDoor
open Go.RowKit
/-- Short names of what each step of a region asks for. -/
theorem sq1 {α : Type} {xs : List α} {i : Nat} (h : i < xs.toArray.size) : xs.toArray[i] = xs[i]'h := rfl
theorem sq2 {α : Type} (a : α) (xs : List α) (h : 0 < (a :: xs).length) : (a :: xs)[0] = a := rfl
theorem sq3 {α : Type} (a : α) (xs : List α) (i : Nat) (h : i + 1 < (a :: xs).length) : (a :: xs)[i + 1] = xs[i]'(Nat.lt_of_succ_lt_succ h) := rfl
theorem sq4 {α : Type} (l : List α) (i : Nat) (a : α) : l.toArray.setIfInBounds i a = (l.set i a).toArray := List.setIfInBounds_toArray l i a
theorem sq5 {α : Type} {x : α} {xs : List α} {a : α} : (x :: xs).set 0 a = a :: xs := rfl
theorem sq6 {α : Type} {x : α} {xs : List α} {i : Nat} {a : α} : (x :: xs).set (i + 1) a = x :: xs.set i a := rfl
/-- Take number i first: it is wanted and yields v wherever S holds. -/
theorem tk1 {P : Program} {ops : Array Oper} {Q : Exit → Act → World → Prop} {md : Region.Mode} {S : World → Prop} {i : Nat} {oi : Oper} {v : Value} {fuel : Nat} {listed : Array Bool} {a : Act} {w : World} (hi : ops[i]? = some oi)
    (hy : ∀ w, S w → (execOp a.eval oi).run P w = .ok (.value v) w) (h : wpAnyH P md ops Q S fuel (listed.setIfInBounds i true) (a.put oi.dst v) w)
    (hs : Region.noSelect ops = true := by kernel_rfl) (hf : Region.free md ops listed i = true := by kernel_rfl) (hr : (Region.ready md ops listed).contains i = true := by kernel_rfl)
    (hQ : ∀ c a w, Q (.panic c) (a.put oi.dst v) w → Q (.panic c) a w := by exact fun _ _ _ h => h) (hw : Region.wanted oi (yielded ops a.tmps) = true := by rfl) (hS : S w := by assumption) : wpAnyH P md ops Q S (fuel + 1) listed a w :=
  wpAnyH_take hi hs hf hr hQ (Or.inl ⟨hw, hy⟩) hS h
/-- Pass over number i: it is not wanted. -/
theorem tku1 {P : Program} {ops : Array Oper} {Q : Exit → Act → World → Prop} {md : Region.Mode} {S : World → Prop} {i : Nat} {oi : Oper} {fuel : Nat} {listed : Array Bool} {a : Act} {w : World} (hi : ops[i]? = some oi)
    (h : wpAnyH P md ops Q S fuel (listed.setIfInBounds i true) (a.put oi.dst undef) w)
    (hs : Region.noSelect ops = true := by kernel_rfl) (hf : Region.free md ops listed i = true := by kernel_rfl) (hr : (Region.ready md ops listed).contains i = true := by kernel_rfl)
    (hQ : ∀ c a w, Q (.panic c) (a.put oi.dst undef) w → Q (.panic c) a w := by exact fun _ _ _ h => h) (hw : Region.wanted oi (yielded ops a.tmps) = false := by rfl) (hS : S w := by assumption) : wpAnyH P md ops Q S (fuel + 1) listed a w :=
  wpAnyH_take hi hs hf hr hQ (Or.inr ⟨hw, rfl⟩) hS h

/-- All that was there is as it was. -/
def Ext (w w' : World) : Prop := Below w.heap.size w w'
theorem Ext.refl (w : World) : Ext w w := Below.refl _ _
theorem Ext.size {a b : World} (h : Ext a b) : a.heap.size ≤ b.heap.size := Below.size h
theorem Ext.trans {a b c : World} (h : Ext a b) (k : Ext b c) : Ext a c := Below.trans h (Below.mono k h.size)
theorem Ext.alloc {a b : World} (h : Ext a b) (o : Obj) : Ext a (b.alloc o) := Below.alloc h h.size o
theorem Ext.set {a b : World} (h : Ext a b) {p : Addr} (hp : a.heap.size ≤ p.block) (u : Value) : Ext a (b.setCell p u) := Below.setCell h hp u
theorem Ext.drew {a b : World} (h : Ext a b) : Ext a b.drew := Below.drew h
theorem Ext.drewN {a b : World} (h : Ext a b) (n : Nat) : Ext a (b.drewN n) := by
  have h' : Below a.heap.size a b := h
  exact ⟨h'.os, h'.tape, h'.output, h'.size, h'.block⟩
theorem Ext.cell {a b : World} (h : Ext a b) {p : Addr} (hp : p.block < a.heap.size) : b.cell? p = a.cell? p := Below.cell h hp
theorem Ext.frozen {a b : World} (h : Ext a b) {p : Addr} (hp : p.block < a.heap.size) : b.frozen? p = a.frozen? p := Below.frozen h hp
theorem Ext.sizeLe {a b : World} {n : Nat} (h : Ext a b) (k : n ≤ a.heap.size) : n ≤ b.heap.size := Nat.le_trans k h.size
theorem ext_alloc1 (w : World) (o : Obj) : Ext w (w.alloc o) := (Ext.refl w).alloc o

/-- What a cell holds. -/
def heldAt (w : World) (a : Addr) : Value := (w.cell? a).getD undef
theorem held_of {w : World} {a : Addr} {v : Value} (h : w.cell? a = some v) : w.cell? a = some (heldAt w a) := by unfold heldAt; rw [h]; rfl
theorem held_some {w : World} {a : Addr} (h : (w.cell? a).isSome = true) : w.cell? a = some (heldAt w a) := by
  obtain ⟨v, hv⟩ := Option.isSome_iff_exists.1 h
  exact held_of hv
theorem held_ext {w w' : World} {a : Addr} (e : Ext w w') (hb : a.block < w.heap.size) (h : w.cell? a = some (heldAt w a)) : w'.cell? a = some (heldAt w' a) := held_of ((e.cell hb).trans h)
theorem held_set (w : World) (p : Addr) (u : Value) (a : Addr) (h : w.cell? a = some (heldAt w a)) : (w.setCell p u).cell? a = some (heldAt (w.setCell p u) a) := by
  by_cases hp : a = p
  · subst hp
    exact held_of (World.cell?_setCell_same' w a u (by rw [h]; rfl))
  · exact held_of ((World.cell?_setCell_other w p a u (by first | exact hp | exact fun e => hp e.symm)).trans h)
theorem cell_set_val {w : World} {p : Addr} {u x : Value} (h : (w.setCell p u).cell? p = some x) : (w.setCell p u).cell? p = some u := by
  cases hw : w.cell? p with
  | none =>
    exfalso
    revert h hw
    unfold World.cell? World.setCell
    simp only [Array.getElem?_modify]
    cases hh : w.heap[p.block]? with
    | none => simp
    | some o =>
      cases o with
      | cells c e f =>
        by_cases hs : p.spot.isSome = true
        · simp [hs]
        · simp only [Bool.not_eq_true] at hs
          simp only [hs, Option.map_some]
          intro hx h0
          have hlt := (Array.getElem?_eq_some_iff.1 (by simpa [hs] using hx)).1
          simp at hlt
          simp at h0
          omega
      | _ => simp
  | some y => exact World.cell?_setCell_same' w p u (by rw [hw]; rfl)

theorem cell_set_val2 {w : World} {p q : Addr} {u v x : Value} (hne : q ≠ p) (h : ((w.setCell p u).setCell q v).cell? p = some x) : ((w.setCell p u).setCell q v).cell? p = some u := by
  rw [World.cell?_setCell_other _ _ _ _ hne] at h ⊢
  exact cell_set_val h

/-- The world of a walk under a name of its own, with what is known of it. -/
theorem wp_abs {P : Program} {c : Code} {Q : Exit → Act → World → Prop} {a : Act} {w : World} (F : World → Prop) (hF : F w) (h : ∀ W, F W → Code.wp P c Q a W) : Code.wp P c Q a w := h w hF

/-- What lies below block n is as it was. -/
theorem kcell {w1 w2 W : World} {n : Nat} (h : ∀ b o, b < n → w1.cell? ⟨b, o, none⟩ = W.cell? ⟨b, o, none⟩) (hn : n ≤ w1.heap.size) (e : Ext w1 w2) : ∀ b o, b < n → w2.cell? ⟨b, o, none⟩ = W.cell? ⟨b, o, none⟩ :=
  fun b o hb => (e.cell (p := ⟨b, o, none⟩) (Nat.lt_of_lt_of_le hb hn)).trans (h b o hb)
theorem kcell_set {w1 W : World} {n : Nat} (h : ∀ b o, b < n → w1.cell? ⟨b, o, none⟩ = W.cell? ⟨b, o, none⟩) {p : Addr} (hp : n ≤ p.block) (u : Value) : ∀ b o, b < n → (w1.setCell p u).cell? ⟨b, o, none⟩ = W.cell? ⟨b, o, none⟩ :=
  fun b o hb => (World.cell?_setCell_other w1 p ⟨b, o, none⟩ u (fun e => by subst e; simp at hp; omega)).trans (h b o hb)
theorem kcell_refl (W : World) (n : Nat) : ∀ b o, b < n → W.drew.cell? ⟨b, o, none⟩ = W.cell? ⟨b, o, none⟩ := fun _ _ _ => rfl
theorem hfrozen_ext {w w' : World} {a : Addr} (e : Ext w w') (hb : a.block < w.heap.size) (h : w.frozen? a = false) : w'.frozen? a = false := (e.frozen hb).trans h
theorem hfrozen_set {w : World} {a : Addr} (p : Addr) (u : Value) (h : w.frozen? a = false) : (w.setCell p u).frozen? a = false := (World.frozen?_setCell ..).trans h
theorem hsize_set {w : World} {n : Nat} (p : Addr) (u : Value) (h : n ≤ w.heap.size) : n ≤ (w.setCell p u).heap.size := by simpa using h

theorem kfro {w1 w2 W : World} {n : Nat} (h : ∀ b o, b < n → w1.frozen? ⟨b, o, none⟩ = W.frozen? ⟨b, o, none⟩) (hn : n ≤ w1.heap.size) (e : Ext w1 w2) : ∀ b o, b < n → w2.frozen? ⟨b, o, none⟩ = W.frozen? ⟨b, o, none⟩ :=
  fun b o hb => (e.frozen (p := ⟨b, o, none⟩) (Nat.lt_of_lt_of_le hb hn)).trans (h b o hb)
/-- What lay below block n in W lies so in w'. -/
structure KC (n : Nat) (W w' : World) : Prop where
  cell : ∀ b o, b < n → w'.cell? ⟨b, o, none⟩ = W.cell? ⟨b, o, none⟩
  fro : ∀ b o, b < n → w'.frozen? ⟨b, o, none⟩ = W.frozen? ⟨b, o, none⟩
  size : n ≤ w'.heap.size
  ext : Ext W w'
theorem KC.refl {n : Nat} {W : World} (h : n ≤ W.heap.size) : KC n W W := ⟨fun _ _ _ => rfl, fun _ _ _ => rfl, h, Ext.refl W⟩
theorem KC.step {n : Nat} {W w1 w2 : World} (h : KC n W w1) (e : Ext w1 w2) : KC n W w2 := ⟨kcell h.cell h.size e, kfro h.fro h.size e, Ext.sizeLe e h.size, h.ext.trans e⟩

/-- A path as data. -/
structure Pt where
  frm : Int
  dst : Int
  grade : Int
  tl : Int
  th : Int
  sl : Int
  sh : Int
  opens : List (Int × Int)

def zeroPt : Pt := ⟨0, 0, 0, 0, 0, 0, 0, []⟩
def Pt.val (p : Pt) (A : Option Addr) (c : Nat) : Value :=
  .agg #[.int .i64 p.frm, .int .i64 p.dst, .int .i64 p.grade, .int .i64 p.tl, .int .i64 p.th, .int .i64 p.sl, .int .i64 p.sh, .slice A p.opens.length c]

/-- A list of pairs of numbers in memory. -/
def OpensAt (w : World) (A : Option Addr) (os : List (Int × Int)) : Prop :=
  os ≠ [] → ∃ b off, A = some ⟨b, off, none⟩ ∧ b < w.heap.size ∧ ∀ k, k < os.length →
    w.cell? ⟨b, off + k * 2, none⟩ = some (.int .i64 (os.getD k (0, 0)).1) ∧ w.cell? ⟨b, off + k * 2 + 1, none⟩ = some (.int .i64 (os.getD k (0, 0)).2)
theorem OpensAt.ext {w w' : World} {A : Option Addr} {os : List (Int × Int)} (h : OpensAt w A os) (e : Ext w w') : OpensAt w' A os := fun hne => by
  obtain ⟨b, off, hA, hb, hc⟩ := h hne
  refine ⟨b, off, hA, Nat.lt_of_lt_of_le hb e.size, fun k hk => ?_⟩
  rw [e.cell hb, e.cell hb]
  exact hc k hk

/-- The eight cells of a path in memory. -/
structure PtAt (w : World) (b off : Nat) (p : Pt) (A : Option Addr) (c : Nat) : Prop where
  c0 : w.cell? ⟨b, off, none⟩ = some (.int .i64 p.frm)
  c1 : w.cell? ⟨b, off + 1, none⟩ = some (.int .i64 p.dst)
  c2 : w.cell? ⟨b, off + 2, none⟩ = some (.int .i64 p.grade)
  c3 : w.cell? ⟨b, off + 3, none⟩ = some (.int .i64 p.tl)
  c4 : w.cell? ⟨b, off + 4, none⟩ = some (.int .i64 p.th)
  c5 : w.cell? ⟨b, off + 5, none⟩ = some (.int .i64 p.sl)
  c6 : w.cell? ⟨b, off + 6, none⟩ = some (.int .i64 p.sh)
  c7 : w.cell? ⟨b, off + 7, none⟩ = some (.slice A p.opens.length c)
  cap : p.opens.length ≤ c
  opens : OpensAt w A p.opens
theorem PtAt.ext {w w' : World} {b off : Nat} {p : Pt} {A : Option Addr} {c : Nat} (h : PtAt w b off p A c) (hb : b < w.heap.size) (e : Ext w w') : PtAt w' b off p A c :=
  ⟨(e.cell hb).trans h.c0, (e.cell hb).trans h.c1, (e.cell hb).trans h.c2, (e.cell hb).trans h.c3, (e.cell hb).trans h.c4, (e.cell hb).trans h.c5, (e.cell hb).trans h.c6, (e.cell hb).trans h.c7, h.cap, h.opens.ext e⟩

/-- A list of paths in memory. -/
def PathsAt (w : World) (A : Option Addr) (ps : List Pt) : Prop :=
  ps ≠ [] → ∃ b off, A = some ⟨b, off, none⟩ ∧ b < w.heap.size ∧ ∀ k, k < ps.length → ∃ A' c, PtAt w b (off + k * 8) (ps.getD k zeroPt) A' c
theorem PathsAt.ext {w w' : World} {A : Option Addr} {ps : List Pt} (h : PathsAt w A ps) (e : Ext w w') : PathsAt w' A ps := fun hne => by
  obtain ⟨b, off, hA, hb, hc⟩ := h hne
  refine ⟨b, off, hA, Nat.lt_of_lt_of_le hb e.size, fun k hk => ?_⟩
  obtain ⟨A', c, h⟩ := hc k hk
  exact ⟨A', c, h.ext hb e⟩

/-- A list of numbers in memory. -/
def IntsAt (w : World) (A : Option Addr) (xs : List Int) : Prop :=
  xs ≠ [] → ∃ b off, A = some ⟨b, off, none⟩ ∧ b < w.heap.size ∧ ∀ k, k < xs.length → w.cell? ⟨b, off + k, none⟩ = some (.int .i64 (xs.getD k 0))
theorem IntsAt.ext {w w' : World} {A : Option Addr} {xs : List Int} (h : IntsAt w A xs) (e : Ext w w') : IntsAt w' A xs := fun hne => by
  obtain ⟨b, off, hA, hb, hc⟩ := h hne
  exact ⟨b, off, hA, Nat.lt_of_lt_of_le hb e.size, fun k hk => (e.cell hb).trans (hc k hk)⟩

theorem hid {p : Prop} (h : p) : Hid p := h
theorem ret_bool {a b : Bool} (h : a = b) : Ending.returned (.bool a) = .returned (.bool b) := by rw [h]
theorem ret_int {k : IntKind} {a b : Int} (h : a = b) : Ending.returned (.int k a) = .returned (.int k b) := by rw [h]

end Go.Proofs.YtecamnhnjmldcaaGreatDoor
/- How forecasts, observations, limits and rules lie in memory. -/
set_option linter.unusedSimpArgs false
set_option linter.unusedVariables false
namespace Go.Proofs.YtecamnhnjmldcaaGreatDoor
open Go.RowKit
/-- What the weather can be in an hour. -/
structure Hr where
  wl : Int
  wh : Int
  rl : Int
  rh : Int
  tl : Int
  th : Int
deriving DecidableEq
def zeroHr : Hr := ⟨0, 0, 0, 0, 0, 0⟩
def Hr.val (h : Hr) : Value := .agg #[.int .i64 h.wl, .int .i64 h.wh, .int .i64 h.rl, .int .i64 h.rh, .int .i64 h.tl, .int .i64 h.th]
structure HrAt (w : World) (b off : Nat) (h : Hr) : Prop where
  c0 : w.cell? ⟨b, off, none⟩ = some (.int .i64 h.wl)
  c1 : w.cell? ⟨b, off + 1, none⟩ = some (.int .i64 h.wh)
  c2 : w.cell? ⟨b, off + 2, none⟩ = some (.int .i64 h.rl)
  c3 : w.cell? ⟨b, off + 3, none⟩ = some (.int .i64 h.rh)
  c4 : w.cell? ⟨b, off + 4, none⟩ = some (.int .i64 h.tl)
  c5 : w.cell? ⟨b, off + 5, none⟩ = some (.int .i64 h.th)
theorem HrAt.ext {w w' : World} {b off : Nat} {h : Hr} (x : HrAt w b off h) (hb : b < w.heap.size) (e : Ext w w') : HrAt w' b off h :=
  ⟨(e.cell hb).trans x.c0, (e.cell hb).trans x.c1, (e.cell hb).trans x.c2, (e.cell hb).trans x.c3, (e.cell hb).trans x.c4, (e.cell hb).trans x.c5⟩
def HrsAt (w : World) (A : Option Addr) (xs : List Hr) : Prop :=
  xs ≠ [] → ∃ b off, A = some ⟨b, off, none⟩ ∧ b < w.heap.size ∧ ∀ k, k < xs.length → HrAt w b (off + k * 6) (xs.getD k zeroHr)
theorem HrsAt.ext {w w' : World} {A : Option Addr} {xs : List Hr} (h : HrsAt w A xs) (e : Ext w w') : HrsAt w' A xs := fun hne => by
  obtain ⟨b, off, hA, hb, hc⟩ := h hne
  exact ⟨b, off, hA, Nat.lt_of_lt_of_le hb e.size, fun k hk => (hc k hk).ext hb e⟩
theorem HrsAt.at_ {w : World} {A : Option Addr} {xs : List Hr} (h : HrsAt w A xs) {n k : Nat} (hn : xs.length = n) (hk : k < n) : ∃ b off, A = some ⟨b, off, none⟩ ∧ b < w.heap.size ∧ HrAt w b (off + k * 6) (xs.getD k zeroHr) := by
  obtain ⟨b, off, hA, hb, hc⟩ := h (by rintro rfl; simp at hn; omega)
  exact ⟨b, off, hA, hb, hc k (by omega)⟩
theorem HrsAt.nil (w : World) (A : Option Addr) : HrsAt w A [] := fun h => absurd rfl h
/-- A scenario: a slice of hours. -/
def ScAt (w : World) (b off : Nat) (hs : List Hr) : Prop := ∃ A c, w.cell? ⟨b, off, none⟩ = some (.slice A hs.length c) ∧ hs.length ≤ c ∧ HrsAt w A hs
theorem ScAt.ext {w w' : World} {b off : Nat} {hs : List Hr} (x : ScAt w b off hs) (hb : b < w.heap.size) (e : Ext w w') : ScAt w' b off hs := by
  obtain ⟨A, c, h1, h2, h3⟩ := x
  exact ⟨A, c, (e.cell hb).trans h1, h2, h3.ext e⟩
def ScsAt (w : World) (A : Option Addr) (xs : List (List Hr)) : Prop :=
  xs ≠ [] → ∃ b off, A = some ⟨b, off, none⟩ ∧ b < w.heap.size ∧ ∀ k, k < xs.length → ScAt w b (off + k) (xs.getD k [])
theorem ScsAt.ext {w w' : World} {A : Option Addr} {xs : List (List Hr)} (h : ScsAt w A xs) (e : Ext w w') : ScsAt w' A xs := fun hne => by
  obtain ⟨b, off, hA, hb, hc⟩ := h hne
  exact ⟨b, off, hA, Nat.lt_of_lt_of_le hb e.size, fun k hk => (hc k hk).ext hb e⟩
theorem ScsAt.at_ {w : World} {A : Option Addr} {xs : List (List Hr)} (h : ScsAt w A xs) {n k : Nat} (hn : xs.length = n) (hk : k < n) : ∃ b off, A = some ⟨b, off, none⟩ ∧ b < w.heap.size ∧ ScAt w b (off + k) (xs.getD k []) := by
  obtain ⟨b, off, hA, hb, hc⟩ := h (by rintro rfl; simp at hn; omega)
  exact ⟨b, off, hA, hb, hc k (by omega)⟩
theorem ScsAt.nil (w : World) (A : Option Addr) : ScsAt w A [] := fun h => absurd rfl h
/-- An observation. -/
structure Sg where
  hour : Int
  wind : Int
  rain : Int
  temp : Int
deriving DecidableEq
def zeroSg : Sg := ⟨0, 0, 0, 0⟩
def Sg.val (s : Sg) : Value := .agg #[.int .i64 s.hour, .int .i64 s.wind, .int .i64 s.rain, .int .i64 s.temp]
structure SgAt (w : World) (b off : Nat) (s : Sg) : Prop where
  c0 : w.cell? ⟨b, off, none⟩ = some (.int .i64 s.hour)
  c1 : w.cell? ⟨b, off + 1, none⟩ = some (.int .i64 s.wind)
  c2 : w.cell? ⟨b, off + 2, none⟩ = some (.int .i64 s.rain)
  c3 : w.cell? ⟨b, off + 3, none⟩ = some (.int .i64 s.temp)
theorem SgAt.ext {w w' : World} {b off : Nat} {h : Sg} (x : SgAt w b off h) (hb : b < w.heap.size) (e : Ext w w') : SgAt w' b off h :=
  ⟨(e.cell hb).trans x.c0, (e.cell hb).trans x.c1, (e.cell hb).trans x.c2, (e.cell hb).trans x.c3⟩
def SgsAt (w : World) (A : Option Addr) (xs : List Sg) : Prop :=
  xs ≠ [] → ∃ b off, A = some ⟨b, off, none⟩ ∧ b < w.heap.size ∧ ∀ k, k < xs.length → SgAt w b (off + k * 4) (xs.getD k zeroSg)
theorem SgsAt.ext {w w' : World} {A : Option Addr} {xs : List Sg} (h : SgsAt w A xs) (e : Ext w w') : SgsAt w' A xs := fun hne => by
  obtain ⟨b, off, hA, hb, hc⟩ := h hne
  exact ⟨b, off, hA, Nat.lt_of_lt_of_le hb e.size, fun k hk => (hc k hk).ext hb e⟩
theorem SgsAt.at_ {w : World} {A : Option Addr} {xs : List Sg} (h : SgsAt w A xs) {n k : Nat} (hn : xs.length = n) (hk : k < n) : ∃ b off, A = some ⟨b, off, none⟩ ∧ b < w.heap.size ∧ SgAt w b (off + k * 4) (xs.getD k zeroSg) := by
  obtain ⟨b, off, hA, hb, hc⟩ := h (by rintro rfl; simp at hn; omega)
  exact ⟨b, off, hA, hb, hc k (by omega)⟩
theorem SgsAt.nil (w : World) (A : Option Addr) : SgsAt w A [] := fun h => absurd rfl h
/-- Limits. -/
structure Lm where
  wind : Int
  rain : Int
  tl : Int
  th : Int
deriving DecidableEq
def Lm.val (l : Lm) : Value := .agg #[.int .i64 l.wind, .int .i64 l.rain, .int .i64 l.tl, .int .i64 l.th]
def zeroLm : Lm := ⟨0, 0, 0, 0⟩
/-- A rule. -/
structure Rl where
  path : Int
  after : Int
  lim : Lm
deriving DecidableEq
def zeroRl : Rl := ⟨0, 0, zeroLm⟩
def Rl.val (r : Rl) : Value := .agg #[.int .i64 r.path, .int .i64 r.after, .int .i64 r.lim.wind, .int .i64 r.lim.rain, .int .i64 r.lim.tl, .int .i64 r.lim.th]
structure RlAt (w : World) (b off : Nat) (r : Rl) : Prop where
  c0 : w.cell? ⟨b, off, none⟩ = some (.int .i64 r.path)
  c1 : w.cell? ⟨b, off + 1, none⟩ = some (.int .i64 r.after)
  c2 : w.cell? ⟨b, off + 2, none⟩ = some (.int .i64 r.lim.wind)
  c3 : w.cell? ⟨b, off + 3, none⟩ = some (.int .i64 r.lim.rain)
  c4 : w.cell? ⟨b, off + 4, none⟩ = some (.int .i64 r.lim.tl)
  c5 : w.cell? ⟨b, off + 5, none⟩ = some (.int .i64 r.lim.th)
theorem RlAt.ext {w w' : World} {b off : Nat} {r : Rl} (x : RlAt w b off r) (hb : b < w.heap.size) (e : Ext w w') : RlAt w' b off r :=
  ⟨(e.cell hb).trans x.c0, (e.cell hb).trans x.c1, (e.cell hb).trans x.c2, (e.cell hb).trans x.c3, (e.cell hb).trans x.c4, (e.cell hb).trans x.c5⟩
def RlsAt (w : World) (A : Option Addr) (xs : List Rl) : Prop :=
  xs ≠ [] → ∃ b off, A = some ⟨b, off, none⟩ ∧ b < w.heap.size ∧ ∀ k, k < xs.length → RlAt w b (off + k * 6) (xs.getD k zeroRl)
theorem RlsAt.ext {w w' : World} {A : Option Addr} {xs : List Rl} (h : RlsAt w A xs) (e : Ext w w') : RlsAt w' A xs := fun hne => by
  obtain ⟨b, off, hA, hb, hc⟩ := h hne
  exact ⟨b, off, hA, Nat.lt_of_lt_of_le hb e.size, fun k hk => (hc k hk).ext hb e⟩
theorem RlsAt.at_ {w : World} {A : Option Addr} {xs : List Rl} (h : RlsAt w A xs) {n k : Nat} (hn : xs.length = n) (hk : k < n) : ∃ b off, A = some ⟨b, off, none⟩ ∧ b < w.heap.size ∧ RlAt w b (off + k * 6) (xs.getD k zeroRl) := by
  obtain ⟨b, off, hA, hb, hc⟩ := h (by rintro rfl; simp at hn; omega)
  exact ⟨b, off, hA, hb, hc k (by omega)⟩
theorem RlsAt.nil (w : World) (A : Option Addr) : RlsAt w A [] := fun h => absurd rfl h

/-- The variable of the widest limits. -/
structure WidW (w : World) : Prop where
  size : 1 ≤ w.heap.size
  c0 : w.cell? ⟨0, 0, none⟩ = some (.int .i64 200)
  c1 : w.cell? ⟨0, 1, none⟩ = some (.int .i64 100)
  c2 : w.cell? ⟨0, 2, none⟩ = some (.int .i64 (-50))
  c3 : w.cell? ⟨0, 3, none⟩ = some (.int .i64 50)
theorem WidW.ext {w w' : World} (h : WidW w) (e : Ext w w') : WidW w' :=
  have hs : (0 : Nat) < w.heap.size := h.size
  ⟨e.sizeLe h.size, (e.cell hs).trans h.c0, (e.cell hs).trans h.c1, (e.cell hs).trans h.c2, (e.cell hs).trans h.c3⟩
/-- A mark at which a walk stands still. -/
def Halt (p : Prop) : Prop := p
theorem Halt.mk {p : Prop} (h : Halt p) : p := h
theorem blk_cell {w : World} {g : Nat} {cs : Array Value} {t : TypeId} (h : w.heap[g]? = some (.cells cs t (0, 0))) (i : Nat) : w.cell? ⟨g, i, none⟩ = cs[i]? := cell_of_row w g i cs t (0, 0) h
theorem blk_ext {w w' : World} {g : Nat} {o : Obj} (h : w.heap[g]? = some o) (e : Ext w w') : w'.heap[g]? = some o := (Below.block e g (Array.getElem?_eq_some_iff.1 h).1).trans h
/-- Block B holds just these cells. -/
def Blk (W : World) (B : Nat) (t : TypeId) (cs : Array Value) : Prop := W.heap[B]? = some (.cells cs t (0, 0))
theorem Blk.lt {W : World} {B : Nat} {t : TypeId} {cs : Array Value} (h : Blk W B t cs) : B < W.heap.size := (Array.getElem?_eq_some_iff.1 h).1
theorem Blk.cell {W : World} {B : Nat} {t : TypeId} {cs : Array Value} (h : Blk W B t cs) (i : Nat) : W.cell? ⟨B, i, none⟩ = cs[i]? := blk_cell h i
theorem Blk.fro {W : World} {B : Nat} {t : TypeId} {cs : Array Value} (h : Blk W B t cs) (i : Nat) : W.frozen? ⟨B, i, none⟩ = false := by
  have h' : W.heap[B]? = some (.cells cs t (0, 0)) := h
  simp [World.frozen?, h']
theorem Blk.ext {W W' : World} {B : Nat} {t : TypeId} {cs : Array Value} (h : Blk W B t cs) (e : Ext W W') : Blk W' B t cs := blk_ext h e
theorem Blk.alloc {W : World} {B : Nat} {t : TypeId} {cs : Array Value} (h : Blk W B t cs) (o : Obj) : Blk (W.alloc o) B t cs := blk_ext h (ext_alloc1 W o)
theorem Blk.new (W : World) (t : TypeId) (cs : Array Value) : Blk (W.alloc (.cells cs t)) W.heap.size t cs := World.alloc_heap_new W _
theorem Blk.other {W : World} {B : Nat} {t : TypeId} {cs : Array Value} (h : Blk W B t cs) {p : Addr} (hne : B ≠ p.block) (u : Value) : Blk (W.setCell p u) B t cs := (Below.heap_setCell W p u B hne).trans h
theorem Blk.set {W : World} {B : Nat} {t : TypeId} {v : Value} (h : Blk W B t #[v]) (u : Value) : Blk (W.setCell ⟨B, 0, none⟩ u) B t #[u] := Boxed.set u h
theorem Blk.setAt {W : World} {B : Nat} {t : TypeId} {cs : Array Value} (h : Blk W B t cs) (i : Nat) (u : Value) : Blk (W.setCell ⟨B, i, none⟩ u) B t (cs.setIfInBounds i u) := by
  have h' : W.heap[B]? = some (.cells cs t (0, 0)) := h
  unfold Blk World.setCell
  dsimp only
  rw [Array.getElem?_modify, if_pos rfl, h']
  simp
theorem Blk.putObj {W : World} {B D : Nat} {t : TypeId} {cs : Array Value} (h : Blk W B t cs) (hne : B ≠ D) (o : Obj) : Blk (W.putObj D o) B t cs := (World.putObj_heap_other hne).trans h
theorem blk_last (w : World) (o : Obj) : (w.alloc o).heap[w.heap.size]? = some o := World.alloc_heap_new w o
theorem blk_old {w : World} {k : Nat} {o : Obj} (h : w.heap[k]? = some o) (o' : Obj) : (w.alloc o').heap[k]? = some o := blk_ext h (ext_alloc1 w o')
theorem Blk.grown {k : Nat} {c : Array Value} {t : TypeId} {W W' : World} {row : Option Nat} (h : Blk W k t c) (hg : W.grownBy W' row) (hne : some k ≠ row) : Blk W' k t c := (hg.block k h.lt hne).trans h
theorem sK {W X : World} (e : Ext W X) : (∀ b o, b < W.heap.size → X.cell? ⟨b, o, none⟩ = W.cell? ⟨b, o, none⟩) ∧ W.heap.size ≤ X.heap.size ∧ Ext W X := ⟨kcell (w1 := W) (W := W) (fun _ _ _ => rfl) (Nat.le_refl _) e, e.size, e⟩
end Go.Proofs.YtecamnhnjmldcaaGreatDoor
/- What the functions of package weather compute, as functions of Lean. -/
set_option linter.unusedSimpArgs false
set_option linter.unusedVariables false
namespace Go.Proofs.YtecamnhnjmldcaaGreatDoor
open Go.RowKit
def spB (l h b c : Int) : Bool := decide (b ≤ l) && (decide (l ≤ h) && decide (h ≤ c))
def inI (x l h : Int) : Bool := decide (l ≤ x) && decide (x ≤ h)
def hrB (h : Hr) : Bool := spB h.wl h.wh 0 200 && (spB h.rl h.rh 0 100 && spB h.tl h.th (-50) 50)
def hoursN (f : List (List Hr)) : Nat := (f.headD []).length
def scB (n : Nat) (hs : List Hr) : Bool := decide (hs.length = n) && hs.all hrB
def fcB (f : List (List Hr)) : Bool := inI f.length 1 6 && (inI (hoursN f) 1 48 && f.all (scB (hoursN f)))
def justM (s : Sg) : Hr := ⟨s.wind, s.wind, s.rain, s.rain, s.temp, s.temp⟩
def cntM (seen : List Sg) (h : Int) : Nat := seen.countP fun s => decide (s.hour = h)
def sgB (n : Nat) (seen : List Sg) (s : Sg) : Bool := decide (cntM seen s.hour = 1) && (inI s.hour 0 (n - 1) && hrB (justM s))
def sgsB (n : Nat) (seen : List Sg) : Bool := decide (seen.length ≤ 20) && seen.all (sgB n seen)
def inB (s : Sg) (h : Hr) : Bool := spB s.wind s.wind h.wl h.wh && (spB s.rain s.rain h.rl h.rh && spB s.temp s.temp h.tl h.th)
def allowB (seen : List Sg) (hs : List Hr) : Bool := seen.all fun x => inB x (hs.getD x.hour.toNat zeroHr)
def obsM (seen : List Sg) (hs : List Hr) : List Hr := seen.foldl (fun hs x => hs.set x.hour.toNat (justM x)) hs
def numsM (seen : List Sg) (f : List (List Hr)) : List Int := ((List.range f.length).filter fun i => allowB seen (f.getD i [])).map Int.ofNat
def scsM (seen : List Sg) (f : List (List Hr)) : List (List Hr) := (f.filter (allowB seen)).map (obsM seen)
def lmB (l : Lm) : Bool := inI l.wind 0 200 && (inI l.rain 0 100 && spB l.tl l.th (-50) 50)
def surB (l : Lm) (h : Hr) : Bool := decide (h.wh ≤ l.wind) && (decide (h.rh ≤ l.rain) && spB h.tl h.th l.tl l.th)
def mayB (l : Lm) (h : Hr) : Bool := decide (h.wl ≤ l.wind) && (decide (h.rl ≤ l.rain) && decide (max h.tl l.tl ≤ min h.th l.th))
def andL (l o : Lm) : Lm := ⟨min l.wind o.wind, min l.rain o.rain, max l.tl o.tl, min l.th o.th⟩
def wideL : Lm := ⟨200, 100, -50, 50⟩
/-- The first number that is not 0. -/
def orM : List Int → Int
  | [] => 0
  | x :: xs => if x = 0 then orM xs else x
def unlessM (b : Bool) (e : Int) : Int := if b then 0 else e
def begM (es : List Int) (seen : List Sg) (f : List (List Hr)) : Int := if orM es = 0 then (if numsM seen f = [] then 3 else 0) else orM es
/-- The first hour from h on at which a window begins, n if there is none. -/
def nextM (kept : Hr → Bool) (len n : Nat) (hs : List Hr) : Nat → Nat → Nat
  | 0, _ => n
  | k + 1, h => if n < h + len then n else if ((hs.drop h).take len).all kept then h else nextM kept len n hs k (h + 1)
def nxtM (kept : Hr → Bool) (len n : Nat) (hs : List Hr) (h : Nat) : Nat := nextM kept len n hs (n + 1 - h) h
def soonM (kept : Hr → Bool) (len n : Nat) (ss : List (List Hr)) : Nat := ss.foldl (fun h hs => min h (nxtM kept len n hs 0)) n
def lateM (kept : Hr → Bool) (len n : Nat) (ss : List (List Hr)) : Nat := ss.foldl (fun h hs => max h (nxtM kept len n hs 0)) 0
def gap1M (kept : Hr → Bool) (len n : Nat) (hs : List Hr) (m : Nat) : Nat := (List.range n).foldl (fun m h => max m (min (nxtM kept len n hs h + len - 1) n - h)) m
def gapM (kept : Hr → Bool) (len n : Nat) (ss : List (List Hr)) : Nat := ss.foldl (fun m hs => gap1M kept len n hs m) 0
def orNoneM (n h : Nat) : Int := if h = n then -1 else h
/-- One more number i in a list of spans. -/
def spStep (acc : List (Int × Int)) (i : Nat) : List (Int × Int) :=
  match acc.getLast? with
  | some (l, h) => if h = (i : Int) - 1 then acc.dropLast ++ [(l, (i : Int))] else acc ++ [((i : Int), (i : Int))]
  | none => [((i : Int), (i : Int))]
def spansM (is : Nat → Bool) (n : Nat) : List (Int × Int) := (List.range n).foldl (fun acc i => if is i then spStep acc i else acc) []
def isInM (x : Int) (l : List (Int × Int)) : Bool := l.any fun s => inI x s.1 s.2
def askM (rs : List Rl) (hour op : Int) : Lm := rs.foldl (fun l r => if op - r.after ≤ hour then andL l r.lim else l) wideL
def isOpenM (kept : Lm → Hr → Bool) (rs : List Rl) (hs : List Hr) (op : Nat) : Bool := (List.range (op + 1)).all fun h => kept (askM rs h op) (hs.getD h zeroHr)
def sureM (rs : List Rl) (ss : List (List Hr)) (n : Nat) : List (Int × Int) := spansM (fun h => ss.all fun hs => isOpenM surB rs hs h) n
def mayM (rs : List Rl) (ss : List (List Hr)) (n : Nat) : List (Int × Int) := spansM (fun h => ss.any fun hs => isOpenM mayB rs hs h) n
def safeM (rs : List Rl) (ss : List (List Hr)) (n : Nat) (os : List (Int × Int)) : List (Int × Int) :=
  if rs = [] then os else (spansM (fun t => isInM t os && isInM (t / 60 : Nat) (sureM rs ss n)) (n * 60)).take 6
def hullM (a b : Hr) : Hr := ⟨min a.wl b.wl, max a.wh b.wh, min a.rl b.rl, max a.rh b.rh, min a.tl b.tl, max a.th b.th⟩
def wholeM (ss : List (List Hr)) (h : Nat) : Hr := ss.foldl (fun a hs => hullM a (hs.getD h zeroHr)) ((ss.headD []).getD h zeroHr)
def rlB (n : Int) (r : Rl) : Bool := inI r.path 0 (n - 1) && (lmB r.lim && inI r.after 0 48)
def rlsB (n : Int) (rs : List Rl) : Bool := decide (rs.length ≤ 12) && rs.all (rlB n)
end Go.Proofs.YtecamnhnjmldcaaGreatDoor
