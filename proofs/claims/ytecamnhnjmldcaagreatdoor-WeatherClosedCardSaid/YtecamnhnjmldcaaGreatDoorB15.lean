/- What the specification of layer 5 computes, as functions of Lean; skies and truth values in memory. -/
import Derived.Test.YtecamnhnjmldcaaGreatDoorB08
import Derived.Test.YtecamnhnjmldcaaGreatDoorB05
set_option linter.unusedSimpArgs false
set_option linter.unusedVariables false
namespace Go.Proofs.YtecamnhnjmldcaaGreatDoor
open Go.RowKit
structure Sk where
  wind : Int
  rain : Int
  temp : Int
deriving DecidableEq
def zeroSk : Sk := ⟨0, 0, 0⟩
def Sk.val (s : Sk) : Value := .agg #[.int .i64 s.wind, .int .i64 s.rain, .int .i64 s.temp]
structure SkAt (w : World) (b off : Nat) (s : Sk) : Prop where
  c0 : w.cell? ⟨b, off, none⟩ = some (.int .i64 s.wind)
  c1 : w.cell? ⟨b, off + 1, none⟩ = some (.int .i64 s.rain)
  c2 : w.cell? ⟨b, off + 2, none⟩ = some (.int .i64 s.temp)
theorem SkAt.ext {w w' : World} {b off : Nat} {h : Sk} (x : SkAt w b off h) (hb : b < w.heap.size) (e : Ext w w') : SkAt w' b off h :=
  ⟨(e.cell hb).trans x.c0, (e.cell hb).trans x.c1, (e.cell hb).trans x.c2⟩
def SksAt (w : World) (A : Option Addr) (xs : List Sk) : Prop :=
  xs ≠ [] → ∃ b off, A = some ⟨b, off, none⟩ ∧ b < w.heap.size ∧ ∀ k, k < xs.length → SkAt w b (off + k * 3) (xs.getD k zeroSk)
theorem SksAt.ext {w w' : World} {A : Option Addr} {xs : List Sk} (h : SksAt w A xs) (e : Ext w w') : SksAt w' A xs := fun hne => by
  obtain ⟨b, off, hA, hb, hc⟩ := h hne
  exact ⟨b, off, hA, Nat.lt_of_lt_of_le hb e.size, fun k hk => (hc k hk).ext hb e⟩
theorem SksAt.at_ {w : World} {A : Option Addr} {xs : List Sk} (h : SksAt w A xs) {n k : Nat} (hn : xs.length = n) (hk : k < n) : ∃ b off, A = some ⟨b, off, none⟩ ∧ b < w.heap.size ∧ SkAt w b (off + k * 3) (xs.getD k zeroSk) := by
  obtain ⟨b, off, hA, hb, hc⟩ := h (by rintro rfl; simp at hn; omega)
  exact ⟨b, off, hA, hb, hc k (by omega)⟩
theorem SksAt.nil (w : World) (A : Option Addr) : SksAt w A [] := fun h => absurd rfl h
/-- A truth value in memory. -/
def BoAt (w : World) (b off : Nat) (x : Bool) : Prop := w.cell? ⟨b, off, none⟩ = some (.bool x)
theorem BoAt.ext {w w' : World} {b off : Nat} {x : Bool} (h : BoAt w b off x) (hb : b < w.heap.size) (e : Ext w w') : BoAt w' b off x := (e.cell hb).trans h
def BosAt (w : World) (A : Option Addr) (xs : List Bool) : Prop :=
  xs ≠ [] → ∃ b off, A = some ⟨b, off, none⟩ ∧ b < w.heap.size ∧ ∀ k, k < xs.length → BoAt w b (off + k) (xs.getD k false)
theorem BosAt.ext {w w' : World} {A : Option Addr} {xs : List Bool} (h : BosAt w A xs) (e : Ext w w') : BosAt w' A xs := fun hne => by
  obtain ⟨b, off, hA, hb, hc⟩ := h hne
  exact ⟨b, off, hA, Nat.lt_of_lt_of_le hb e.size, fun k hk => (hc k hk).ext hb e⟩
theorem BosAt.at_ {w : World} {A : Option Addr} {xs : List Bool} (h : BosAt w A xs) {n k : Nat} (hn : xs.length = n) (hk : k < n) : ∃ b off, A = some ⟨b, off, none⟩ ∧ b < w.heap.size ∧ BoAt w b (off + k) (xs.getD k false) := by
  obtain ⟨b, off, hA, hb, hc⟩ := h (by rintro rfl; simp at hn; omega)
  exact ⟨b, off, hA, hb, hc k (by omega)⟩
theorem BosAt.nil (w : World) (A : Option Addr) : BosAt w A [] := fun h => absurd rfl h
def Sg.sky (s : Sg) : Sk := ⟨s.wind, s.rain, s.temp⟩
/-- A sky is in the spans of an hour. -/
def insB (s : Sk) (h : Hr) : Bool := inI s.wind h.wl h.wh && (inI s.rain h.rl h.rh && inI s.temp h.tl h.th)
/-- A sky keeps limits. -/
def keptB (s : Sk) (l : Lm) : Bool := decide (s.wind ≤ l.wind) && (decide (s.rain ≤ l.rain) && inI s.temp l.tl l.th)
theorem insB_sg (s : Sg) (h : Hr) : insB s.sky h = inB s h := by
  unfold insB inB Sg.sky inI spB
  dsimp only
  rw [Bool.eq_iff_iff]
  simp only [Bool.and_eq_true, decide_eq_true_eq]
  omega
/-- The observation i, with those before it, is valid. -/
def okAt (n : Nat) (seen : List Sg) (i : Nat) : Bool :=
  (inI (seen.getD i zeroSg).hour 0 ((n : Int) - 1) && (inI (seen.getD i zeroSg).wind 0 200 && (inI (seen.getD i zeroSg).rain 0 100 && inI (seen.getD i zeroSg).temp (-50) 50))) && (List.range i).all fun k => !decide ((seen.getD k zeroSg).hour = (seen.getD i zeroSg).hour)
def okAll (n : Nat) (seen : List Sg) : Bool := decide (seen.length ≤ 20) && (List.range seen.length).all (okAt n seen)
theorem cnt_one : ∀ (seen : List Sg), seen.Pairwise (fun a b => a.hour ≠ b.hour) → ∀ s ∈ seen, cntM seen s.hour = 1
  | [], _, s, h => by simp at h
  | x :: xs, hp, s, hs => by
    obtain ⟨h1, h2⟩ := List.pairwise_cons.1 hp
    have ih := cnt_one xs h2
    unfold cntM at *
    rw [List.countP_cons]
    rcases List.mem_cons.1 hs with rfl | hm
    · have h0 : xs.countP (fun y => decide (y.hour = s.hour)) = 0 := List.countP_eq_zero.2 (fun y hy => by have := h1 y hy; simp; omega)
      rw [h0]; simp
    · have := h1 s hm
      rw [ih s hm]
      simp [this]
theorem pair_cnt : ∀ (seen : List Sg), (∀ s ∈ seen, cntM seen s.hour = 1) → seen.Pairwise (fun a b => a.hour ≠ b.hour)
  | [], _ => List.Pairwise.nil
  | x :: xs, h => by
    have hx := h x (by simp)
    unfold cntM at hx
    rw [List.countP_cons] at hx
    simp only [decide_true, if_true] at hx
    have h0 : xs.countP (fun y => decide (y.hour = x.hour)) = 0 := by omega
    have hne : ∀ y ∈ xs, x.hour ≠ y.hour := fun y hy e => by
      have := List.countP_eq_zero.1 h0 y hy
      simp [e] at this
    refine List.pairwise_cons.2 ⟨hne, pair_cnt xs fun s hs => ?_⟩
    have hs1 := h s (by simp [hs])
    unfold cntM at hs1 ⊢
    rw [List.countP_cons] at hs1
    have := hne s hs
    simpa [this] using hs1
theorem pair_at (seen : List Sg) : seen.Pairwise (fun a b => a.hour ≠ b.hour) ↔ ∀ i, i < seen.length → ∀ k, k < i → (seen.getD k zeroSg).hour ≠ (seen.getD i zeroSg).hour := by
  rw [List.pairwise_iff_getElem]
  constructor
  · intro h i hi k hk
    have := h k i (by omega) hi hk
    simpa [List.getD, List.getElem?_eq_getElem hi, List.getElem?_eq_getElem (show k < seen.length by omega)] using this
  · intro h k i hk hi hki
    have := h i hi k hki
    simpa [List.getD, List.getElem?_eq_getElem hi, List.getElem?_eq_getElem hk] using this
theorem all_range_at {α : Type} (xs : List α) (d : α) (p : α → Bool) : (List.range xs.length).all (fun i => p (xs.getD i d)) = xs.all p := by
  rw [Bool.eq_iff_iff, List.all_eq_true, List.all_eq_true]
  constructor
  · intro h x hx
    obtain ⟨i, hi, rfl⟩ := List.getElem_of_mem hx
    have := h i (List.mem_range.2 hi)
    simpa [List.getD, List.getElem?_eq_getElem hi] using this
  · intro h i hi
    exact h _ (mem_at xs d i (List.mem_range.1 hi))
theorem okAll_sgs (n : Nat) (seen : List Sg) : okAll n seen = sgsB n seen := by
  unfold okAll sgsB
  congr 1
  rw [Bool.eq_iff_iff, List.all_eq_true, List.all_eq_true]
  have hx : ∀ s : Sg, (inI s.hour 0 ((n : Int) - 1) && (inI s.wind 0 200 && (inI s.rain 0 100 && inI s.temp (-50) 50))) = (inI s.hour 0 ((n : Int) - 1) && hrB (justM s)) := by
    intro s
    unfold hrB justM inI spB
    dsimp only
    rw [Bool.eq_iff_iff]
    simp only [Bool.and_eq_true, decide_eq_true_eq]
    omega
  constructor
  · intro h
    have hp : seen.Pairwise (fun a b => a.hour ≠ b.hour) := (pair_at seen).2 fun i hi k hk => by
      have := h i (List.mem_range.2 hi)
      unfold okAt at this
      rw [Bool.and_eq_true, List.all_eq_true] at this
      have h2 := this.2 k (List.mem_range.2 hk)
      simpa using h2
    intro s hs
    unfold sgB
    rw [cnt_one seen hp s hs, ← hx s]
    obtain ⟨i, hi, rfl⟩ := List.getElem_of_mem hs
    have := h i (List.mem_range.2 hi)
    unfold okAt at this
    rw [Bool.and_eq_true] at this
    have e : seen.getD i zeroSg = seen[i] := by simp [List.getD, List.getElem?_eq_getElem hi]
    rw [e] at this
    simpa using this.1
  · intro h i hi
    have hi := List.mem_range.1 hi
    have hp := pair_cnt seen (fun s hs => by have := h s hs; unfold sgB at this; rw [Bool.and_eq_true] at this; simpa using this.1)
    have h1 := h _ (mem_at seen zeroSg i hi)
    unfold sgB at h1
    rw [← hx] at h1
    rw [Bool.and_eq_true] at h1
    unfold okAt
    rw [Bool.and_eq_true]
    refine ⟨h1.2, List.all_eq_true.2 fun k hk => ?_⟩
    have := (pair_at seen).1 hp i hi k (List.mem_range.1 hk)
    simpa using this
/-- Skies are a possible weather. -/
def weaB (f : List (List Hr)) (seen : List Sg) (skies : List Sk) : Bool :=
  decide (skies.length = hoursN f) && (seen.all (fun s => decide (skies.getD s.hour.toNat zeroSk = s.sky)) && ((List.range f.length).filter fun i => allowB seen (f.getD i [])).any fun i => (List.range skies.length).all fun h => insB (skies.getD h zeroSk) ((f.getD i []).getD h zeroHr))
/-- The first hour, from h on, at which so many hours begin that are all true, or -1. -/
def begF (l : List Bool) (len : Nat) : Nat → Nat → Int
  | 0, _ => -1
  | k + 1, h => if l.length < h + len then -1 else if ((l.drop h).take len).all id then (h : Int) else begF l len k (h + 1)
def begV (l : List Bool) (len : Nat) : Int := begF l len (l.length + 1) 0
def lack1 (l : List Bool) (len a k m : Nat) : Nat := (List.range k).foldl (fun m d => if begV ((l.drop a).take (d + 1)) len < 0 then max m (d + 1) else m) m
def lackK (l : List Bool) (len k : Nat) : Nat := (List.range k).foldl (fun m a => lack1 l len a (l.length - a) m) 0
def lackV (l : List Bool) (len : Nat) : Nat := lackK l len l.length
def keptL (skies : List Sk) (l : Lm) : List Bool := skies.map fun s => keptB s l
end Go.Proofs.YtecamnhnjmldcaaGreatDoor
/- The small functions of the specification. -/
set_option linter.unusedSimpArgs false
set_option linter.unusedVariables false
namespace Go.Proofs.YtecamnhnjmldcaaGreatDoor
open Go.RowKit
theorem rWithin_any (a b c : Int) (w : World) :
    Calls Tryz.prog 53 #[.int .i64 a, .int .i64 b, .int .i64 c] w fun e w' => e = .returned (.bool (inI a b c)) ∧ w' = w := by
  unfold inI
  go_enter Tryz.func53, Tryz.ntmps53
  go_wp2
  all_goals (go_ret; exact ⟨ret_bool (by first | (simp [*]; done) | (simp [*]; omega)), rfl⟩)
theorem rSpan_any (l h b c : Int) (w : World) :
    Calls Tryz.prog 80 #[.agg #[.int .i64 l, .int .i64 h], .int .i64 b, .int .i64 c] w fun e w' => e = .returned (.bool (spB l h b c)) ∧ Ext w w' := by
  unfold spB
  go_enter Tryz.func80, Tryz.ntmps80
  go_wp2
  all_goals (go_ret; exact ⟨ret_bool (by first | (simp [*]; done) | (simp [*]; omega)), by (repeat' (first | with_reducible assumption | with_reducible exact Ext.refl _ | with_reducible refine Ext.alloc ?_ _ | with_reducible refine Ext.set ?_ ?_ _ | with_reducible refine Ext.drew ?_ | with_reducible refine Ext.drewN ?_ _ | with_reducible refine Ext.trans ?_ (by assumption) | (dsimp only; omega)))⟩)
theorem rIn_any (n l h : Int) (w : World) :
    Calls Tryz.prog 114 #[.int .i64 n, .agg #[.int .i64 l, .int .i64 h]] w fun e w' => e = .returned (.bool (inI n l h)) ∧ Ext w w' := by
  have HW := hid (fun W => rWithin_any n l h W)
  generalize inI n l h = B at *
  go_enter Tryz.func114, Tryz.ntmps114
  go_wp2_with (go_at_call 53; refine (HW.out _).mono ?_; rintro e w2 ⟨rfl, rfl⟩)
  go_ret
  exact ⟨rfl, by (repeat' (first | with_reducible assumption | with_reducible exact Ext.refl _ | with_reducible refine Ext.alloc ?_ _ | with_reducible refine Ext.set ?_ ?_ _ | with_reducible refine Ext.drew ?_ | with_reducible refine Ext.drewN ?_ _ | with_reducible refine Ext.trans ?_ (by assumption) | (dsimp only; omega)))⟩
theorem rHours_any (A : Option Addr) (n c : Nat) (f : List (List Hr)) (hn : f.length = n) (hn0 : 0 < n) (w : World) (hf : ScsAt w A f) :
    Calls Tryz.prog 30 #[.agg #[.slice A n c]] w fun e w' => e = .returned (.int .i64 (hoursN f)) ∧ Ext w w' := by
  cases f with
  | nil => simp at hn; omega
  | cons h t =>
    obtain ⟨b, off, rfl, hb, A', c', hc, hl, hh⟩ := hf.at_ rfl (k := 0) (by simp)
    have e : hoursN (h :: t) = ((h :: t).getD 0 []).length := rfl
    rw [e]
    generalize (h :: t).getD 0 [] = y at *
    have HL := hid hl
    rw [Nat.add_zero] at hc
    clear hl hh hf hn
    generalize y.length = m at *
    go_enter Tryz.func30, Tryz.ntmps30
    go_wp2
    go_ret
    exact ⟨rfl, by (repeat' (first | with_reducible assumption | with_reducible exact Ext.refl _ | with_reducible refine Ext.alloc ?_ _ | with_reducible refine Ext.set ?_ ?_ _ | with_reducible refine Ext.drew ?_ | with_reducible refine Ext.drewN ?_ _ | with_reducible refine Ext.trans ?_ (by assumption) | (dsimp only; omega)))⟩
theorem rIsHour_any (A : Option Addr) (n c : Nat) (f : List (List Hr)) (hn : f.length = n) (hn0 : 0 < n) (hN : hoursN f ≤ 10000) (x : Int) (w : World) (hf : ScsAt w A f) :
    Calls Tryz.prog 115 #[.agg #[.slice A n c], .int .i64 x] w fun e w' => e = .returned (.bool (inI x 0 ((hoursN f : Int) - 1))) ∧ Ext w w' := by
  have HH := hid (fun (W : World) (hW : Ext w W) => rHours_any A n c f hn hn0 W (hf.ext hW))
  clear hn hf
  generalize hoursN f = N at *
  have HW := hid (fun W => rWithin_any x 0 ((N : Int) - 1) W)
  have hw1 : IntKind.i64.wrap ((N : Int) - 1) = (N : Int) - 1 := IntWalk.i64_in _ (by omega)
  generalize inI x 0 ((N : Int) - 1) = B at *
  go_enter Tryz.func115, Tryz.ntmps115
  go_wp2_with (first
    | (go_at_call 30; refine (HH.out _ (by (repeat' (first | with_reducible assumption | with_reducible exact Ext.refl _ | with_reducible refine Ext.alloc ?_ _ | with_reducible refine Ext.set ?_ ?_ _ | with_reducible refine Ext.drew ?_ | with_reducible refine Ext.drewN ?_ _ | with_reducible refine Ext.trans ?_ (by assumption) | (dsimp only; omega))))).mono ?_; rintro e w2 ⟨rfl, hE⟩)
    | (go_at_call 53; refine (HW.out _).mono ?_; rintro e w3 ⟨rfl, rfl⟩))
  go_ret
  exact ⟨rfl, by (repeat' (first | with_reducible assumption | with_reducible exact Ext.refl _ | with_reducible refine Ext.alloc ?_ _ | with_reducible refine Ext.set ?_ ?_ _ | with_reducible refine Ext.drew ?_ | with_reducible refine Ext.drewN ?_ _ | with_reducible refine Ext.trans ?_ (by assumption) | (dsimp only; omega)))⟩
set_option maxHeartbeats 1000000 in
theorem rInside_any (s : Sk) (h : Hr) (w : World) :
    Calls Tryz.prog 100 #[s.val, h.val] w fun e w' => e = .returned (.bool (insB s h)) ∧ Ext w w' := by
  unfold insB Sk.val Hr.val
  obtain ⟨wi, ra, te⟩ := s
  obtain ⟨wl, wh, rl, rh, tl, th⟩ := h
  dsimp only
  have H1 := hid (fun W => rIn_any wi wl wh W)
  have H2 := hid (fun W => rIn_any ra rl rh W)
  have H3 := hid (fun W => rIn_any te tl th W)
  generalize inI wi wl wh = b1 at *
  generalize inI ra rl rh = b2 at *
  generalize inI te tl th = b3 at *
  cases b1
  · go_enter Tryz.func100, Tryz.ntmps100
    go_wp2_with (first
      | (go_at_call 114; refine (H1.out _).mono ?_; rintro e w2 ⟨rfl, hE⟩; (first | (have hK := KC.step (n := w.heap.size + 2) (by with_reducible assumption) hE) | (have hK := KC.step (KC.step (n := w.heap.size + 2) (by with_reducible assumption) (ext_alloc1 _ _)) hE) | (have hK := KC.step (KC.refl (n := w.heap.size + 2) (by simp)) hE)); have hC := hK.cell; have hF := hK.fro; have hX := hK.ext; clear H1)
      | (go_at_call 114; refine (H2.out _).mono ?_; rintro e w3 ⟨rfl, hE⟩; (first | (have hK := KC.step (n := w.heap.size + 2) (by with_reducible assumption) hE) | (have hK := KC.step (KC.step (n := w.heap.size + 2) (by with_reducible assumption) (ext_alloc1 _ _)) hE) | (have hK := KC.step (KC.refl (n := w.heap.size + 2) (by simp)) hE)); have hC := hK.cell; have hF := hK.fro; have hX := hK.ext; clear H2)
      | (go_at_call 114; refine (H3.out _).mono ?_; rintro e w4 ⟨rfl, hE⟩; (first | (have hK := KC.step (n := w.heap.size + 2) (by with_reducible assumption) hE) | (have hK := KC.step (KC.step (n := w.heap.size + 2) (by with_reducible assumption) (ext_alloc1 _ _)) hE) | (have hK := KC.step (KC.refl (n := w.heap.size + 2) (by simp)) hE)); have hC := hK.cell; have hF := hK.fro; have hX := hK.ext))
    go_ret
    exact ⟨ret_bool (by first | rfl | (simp; done)), by (repeat' (first | with_reducible assumption | with_reducible exact Ext.refl _ | with_reducible refine Ext.alloc ?_ _ | with_reducible refine Ext.set ?_ ?_ _ | with_reducible refine Ext.drew ?_ | with_reducible refine Ext.drewN ?_ _ | with_reducible refine Ext.trans ?_ (by assumption) | (dsimp only; omega)))⟩
  cases b2
  · go_enter Tryz.func100, Tryz.ntmps100
    go_wp2_with (first
      | (go_at_call 114; refine (H1.out _).mono ?_; rintro e w2 ⟨rfl, hE⟩; (first | (have hK := KC.step (n := w.heap.size + 2) (by with_reducible assumption) hE) | (have hK := KC.step (KC.step (n := w.heap.size + 2) (by with_reducible assumption) (ext_alloc1 _ _)) hE) | (have hK := KC.step (KC.refl (n := w.heap.size + 2) (by simp)) hE)); have hC := hK.cell; have hF := hK.fro; have hX := hK.ext; clear H1)
      | (go_at_call 114; refine (H2.out _).mono ?_; rintro e w3 ⟨rfl, hE⟩; (first | (have hK := KC.step (n := w.heap.size + 2) (by with_reducible assumption) hE) | (have hK := KC.step (KC.step (n := w.heap.size + 2) (by with_reducible assumption) (ext_alloc1 _ _)) hE) | (have hK := KC.step (KC.refl (n := w.heap.size + 2) (by simp)) hE)); have hC := hK.cell; have hF := hK.fro; have hX := hK.ext; clear H2)
      | (go_at_call 114; refine (H3.out _).mono ?_; rintro e w4 ⟨rfl, hE⟩; (first | (have hK := KC.step (n := w.heap.size + 2) (by with_reducible assumption) hE) | (have hK := KC.step (KC.step (n := w.heap.size + 2) (by with_reducible assumption) (ext_alloc1 _ _)) hE) | (have hK := KC.step (KC.refl (n := w.heap.size + 2) (by simp)) hE)); have hC := hK.cell; have hF := hK.fro; have hX := hK.ext))
    go_ret
    exact ⟨ret_bool (by first | rfl | (simp; done)), by (repeat' (first | with_reducible assumption | with_reducible exact Ext.refl _ | with_reducible refine Ext.alloc ?_ _ | with_reducible refine Ext.set ?_ ?_ _ | with_reducible refine Ext.drew ?_ | with_reducible refine Ext.drewN ?_ _ | with_reducible refine Ext.trans ?_ (by assumption) | (dsimp only; omega)))⟩
  go_enter Tryz.func100, Tryz.ntmps100
  go_wp2_with (first
    | (go_at_call 114; refine (H1.out _).mono ?_; rintro e w2 ⟨rfl, hE⟩; (first | (have hK := KC.step (n := w.heap.size + 2) (by with_reducible assumption) hE) | (have hK := KC.step (KC.step (n := w.heap.size + 2) (by with_reducible assumption) (ext_alloc1 _ _)) hE) | (have hK := KC.step (KC.refl (n := w.heap.size + 2) (by simp)) hE)); have hC := hK.cell; have hF := hK.fro; have hX := hK.ext; clear H1)
    | (go_at_call 114; refine (H2.out _).mono ?_; rintro e w3 ⟨rfl, hE⟩; (first | (have hK := KC.step (n := w.heap.size + 2) (by with_reducible assumption) hE) | (have hK := KC.step (KC.step (n := w.heap.size + 2) (by with_reducible assumption) (ext_alloc1 _ _)) hE) | (have hK := KC.step (KC.refl (n := w.heap.size + 2) (by simp)) hE)); have hC := hK.cell; have hF := hK.fro; have hX := hK.ext; clear H2)
    | (go_at_call 114; refine (H3.out _).mono ?_; rintro e w4 ⟨rfl, hE⟩; (first | (have hK := KC.step (n := w.heap.size + 2) (by with_reducible assumption) hE) | (have hK := KC.step (KC.step (n := w.heap.size + 2) (by with_reducible assumption) (ext_alloc1 _ _)) hE) | (have hK := KC.step (KC.refl (n := w.heap.size + 2) (by simp)) hE)); have hC := hK.cell; have hF := hK.fro; have hX := hK.ext))
  go_ret
  exact ⟨ret_bool (by first | rfl | (simp; done)), by (repeat' (first | with_reducible assumption | with_reducible exact Ext.refl _ | with_reducible refine Ext.alloc ?_ _ | with_reducible refine Ext.set ?_ ?_ _ | with_reducible refine Ext.drew ?_ | with_reducible refine Ext.drewN ?_ _ | with_reducible refine Ext.trans ?_ (by assumption) | (dsimp only; omega)))⟩
set_option maxHeartbeats 1000000 in
theorem rLimits_any (l : Lm) (w : World) : Calls Tryz.prog 99 #[l.val] w fun e w' => e = .returned (.bool (lmB l)) ∧ Ext w w' := by
  unfold lmB Lm.val
  obtain ⟨wi, ra, tl, th⟩ := l
  dsimp only
  have H1 := hid (fun W => rWithin_any wi 0 200 W)
  have H2 := hid (fun W => rWithin_any ra 0 100 W)
  have H3 := hid (fun W => rSpan_any tl th (-50) 50 W)
  generalize inI wi 0 200 = b1 at *
  generalize inI ra 0 100 = b2 at *
  generalize spB tl th (-50) 50 = b3 at *
  cases b1
  · go_enter Tryz.func99, Tryz.ntmps99
    go_wp2_with (first
      | (go_at_call 53; refine (H1.out _).mono ?_; rintro e w2 ⟨rfl, rfl⟩; clear H1)
      | (go_at_call 53; refine (H2.out _).mono ?_; rintro e w3 ⟨rfl, rfl⟩; clear H2)
      | (go_at_call 80; refine (H3.out _).mono ?_; rintro e w4 ⟨rfl, hE⟩))
    go_ret
    exact ⟨ret_bool (by first | rfl | (simp; done)), by (repeat' (first | with_reducible assumption | with_reducible exact Ext.refl _ | with_reducible refine Ext.alloc ?_ _ | with_reducible refine Ext.set ?_ ?_ _ | with_reducible refine Ext.drew ?_ | with_reducible refine Ext.drewN ?_ _ | with_reducible refine Ext.trans ?_ (by assumption) | (dsimp only; omega)))⟩
  cases b2
  · go_enter Tryz.func99, Tryz.ntmps99
    go_wp2_with (first
      | (go_at_call 53; refine (H1.out _).mono ?_; rintro e w2 ⟨rfl, rfl⟩; clear H1)
      | (go_at_call 53; refine (H2.out _).mono ?_; rintro e w3 ⟨rfl, rfl⟩; clear H2)
      | (go_at_call 80; refine (H3.out _).mono ?_; rintro e w4 ⟨rfl, hE⟩))
    go_ret
    exact ⟨ret_bool (by first | rfl | (simp; done)), by (repeat' (first | with_reducible assumption | with_reducible exact Ext.refl _ | with_reducible refine Ext.alloc ?_ _ | with_reducible refine Ext.set ?_ ?_ _ | with_reducible refine Ext.drew ?_ | with_reducible refine Ext.drewN ?_ _ | with_reducible refine Ext.trans ?_ (by assumption) | (dsimp only; omega)))⟩
  go_enter Tryz.func99, Tryz.ntmps99
  go_wp2_with (first
    | (go_at_call 53; refine (H1.out _).mono ?_; rintro e w2 ⟨rfl, rfl⟩; clear H1)
    | (go_at_call 53; refine (H2.out _).mono ?_; rintro e w3 ⟨rfl, rfl⟩; clear H2)
    | (go_at_call 80; refine (H3.out _).mono ?_; rintro e w4 ⟨rfl, hE⟩))
  go_ret
  exact ⟨ret_bool (by first | rfl | (simp; done)), by (repeat' (first | with_reducible assumption | with_reducible exact Ext.refl _ | with_reducible refine Ext.alloc ?_ _ | with_reducible refine Ext.set ?_ ?_ _ | with_reducible refine Ext.drew ?_ | with_reducible refine Ext.drewN ?_ _ | with_reducible refine Ext.trans ?_ (by assumption) | (dsimp only; omega)))⟩
set_option maxHeartbeats 1000000 in
theorem rKept_any (s : Sk) (l : Lm) (w : World) : Calls Tryz.prog 73 #[s.val, l.val] w fun e w' => e = .returned (.bool (keptB s l)) ∧ Ext w w' := by
  unfold keptB Sk.val Lm.val
  obtain ⟨sw, sr, st⟩ := s
  obtain ⟨wi, ra, tl, th⟩ := l
  dsimp only
  have H3 := hid (fun W => rIn_any st tl th W)
  generalize inI st tl th = b3 at *
  by_cases h1 : sw ≤ wi
  case neg => go_enter Tryz.func73, Tryz.ntmps73
              go_wp2_with (go_at_call 114; refine (H3.out _).mono ?_; rintro e w4 ⟨rfl, hE⟩)
              go_ret
              exact ⟨ret_bool (by first | rfl | (simp [*]; done) | (simp [*]; omega)), by (repeat' (first | with_reducible assumption | with_reducible exact Ext.refl _ | with_reducible refine Ext.alloc ?_ _ | with_reducible refine Ext.set ?_ ?_ _ | with_reducible refine Ext.drew ?_ | with_reducible refine Ext.drewN ?_ _ | with_reducible refine Ext.trans ?_ (by assumption) | (dsimp only; omega)))⟩
  by_cases h2 : sr ≤ ra
  case neg => go_enter Tryz.func73, Tryz.ntmps73
              go_wp2_with (go_at_call 114; refine (H3.out _).mono ?_; rintro e w4 ⟨rfl, hE⟩)
              go_ret
              exact ⟨ret_bool (by first | rfl | (simp [*]; done) | (simp [*]; omega)), by (repeat' (first | with_reducible assumption | with_reducible exact Ext.refl _ | with_reducible refine Ext.alloc ?_ _ | with_reducible refine Ext.set ?_ ?_ _ | with_reducible refine Ext.drew ?_ | with_reducible refine Ext.drewN ?_ _ | with_reducible refine Ext.trans ?_ (by assumption) | (dsimp only; omega)))⟩
  go_enter Tryz.func73, Tryz.ntmps73
  go_wp2_with (go_at_call 114; refine (H3.out _).mono ?_; rintro e w4 ⟨rfl, hE⟩)
  go_ret
  exact ⟨ret_bool (by first | rfl | (simp [*]; done) | (simp [*]; omega)), by (repeat' (first | with_reducible assumption | with_reducible exact Ext.refl _ | with_reducible refine Ext.alloc ?_ _ | with_reducible refine Ext.set ?_ ?_ _ | with_reducible refine Ext.drew ?_ | with_reducible refine Ext.drewN ?_ _ | with_reducible refine Ext.trans ?_ (by assumption) | (dsimp only; omega)))⟩
end Go.Proofs.YtecamnhnjmldcaaGreatDoor
/- Which forecasts are valid: the specification. -/
set_option linter.unusedSimpArgs false
set_option linter.unusedVariables false
namespace Go.Proofs.YtecamnhnjmldcaaGreatDoor
open Go.RowKit
theorem spB_or (h : Hr) : (!hrB h) = (!spB h.wl h.wh 0 200 || (!spB h.rl h.rh 0 100 || !spB h.tl h.th (-50) 50)) := by
  unfold hrB
  cases spB h.wl h.wh 0 200 <;> cases spB h.rl h.rh 0 100 <;> cases spB h.tl h.th (-50) 50 <;> rfl
set_option maxHeartbeats 4000000 in
set_option maxRecDepth 100000 in
theorem rCheck_any (f : List (List Hr)) (A : Option Addr) (n c : Nat) (hn : f.length = n) (hm : n ≤ 1000) (hx : ∀ x ∈ f, x.length ≤ 1000) (w : World) (hf : ScsAt w A f) :
    Calls Tryz.prog 35 #[.agg #[.slice A n c]] w fun e w' => e = .returned (.int .i64 (fcE f)) ∧ Ext w w' := by
  have HW := hid (fun a b c W => rWithin_any a b c W)
  have HSP := hid (fun l h b c W => rSpan_any l h b c W)
  obtain ⟨b1, hb1⟩ : ∃ b, inI (n : Int) 1 6 = b := ⟨_, rfl⟩
  have hb1' := hb1
  rw [← hn] at hb1'
  cases b1
  case false =>
    have HR := hid (show fcE f = 50 by unfold fcE fcB; rw [hb1']; rfl)
    rw [HR.out]
    clear hb1' hf hx hn HR
    go_enter Tryz.func35, Tryz.ntmps35
    go_wp2_with (go_at_call 53; refine (HW.out _ _ _ _).mono ?_; rintro e w2 ⟨rfl, rfl⟩; simp only [hb1])
    go_ret
    exact ⟨rfl, by (repeat' (first | with_reducible assumption | with_reducible exact Ext.refl _ | with_reducible refine Ext.alloc ?_ _ | with_reducible refine Ext.set ?_ ?_ _ | with_reducible refine Ext.drew ?_ | with_reducible refine Ext.drewN ?_ _ | with_reducible refine Ext.trans ?_ (by assumption) | (dsimp only; omega)))⟩
  have hn0 : 0 < n := by
    unfold inI at hb1
    simp only [Bool.and_eq_true, decide_eq_true_eq] at hb1
    omega
  have HH := hid (fun (W : World) (hW : Ext w W) => rHours_any A n c f hn hn0 W (hf.ext hW))
  have HX := hid hf
  have HXL := hid hx
  have HN := hid hn
  obtain ⟨b2, hb2⟩ : ∃ b, inI (hoursN f : Int) 1 48 = b := ⟨_, rfl⟩
  cases b2
  case false =>
    have HR := hid (show fcE f = 50 by unfold fcE fcB; rw [hb2, hb1']; rfl)
    rw [HR.out]
    clear hb1' hf hx hn HR HX HXL HN
    generalize hoursN f = N at *
    go_enter Tryz.func35, Tryz.ntmps35
    go_wp2_with (first
      | (go_at_call 53; refine (HW.out _ _ _ _).mono ?_; rintro e w2 ⟨rfl, rfl⟩; simp only [hb1, hb2])
      | (go_at_call 30; refine (HH.out _ (by (repeat' (first | with_reducible assumption | with_reducible exact Ext.refl _ | with_reducible refine Ext.alloc ?_ _ | with_reducible refine Ext.set ?_ ?_ _ | with_reducible refine Ext.drew ?_ | with_reducible refine Ext.drewN ?_ _ | with_reducible refine Ext.trans ?_ (by assumption) | (dsimp only; omega))))).mono ?_; rintro e w2 ⟨rfl, hE⟩))
    go_ret
    exact ⟨rfl, by (repeat' (first | with_reducible assumption | with_reducible exact Ext.refl _ | with_reducible refine Ext.alloc ?_ _ | with_reducible refine Ext.set ?_ ?_ _ | with_reducible refine Ext.drew ?_ | with_reducible refine Ext.drewN ?_ _ | with_reducible refine Ext.trans ?_ (by assumption) | (dsimp only; omega)))⟩
  have HR1 := hid (fun (h : f.all (scB (hoursN f)) = true) => show fcE f = 0 by unfold fcE fcB; rw [hb2, hb1', h]; rfl)
  have HR0 := hid (fun (h : f.all (scB (hoursN f)) = false) => show fcE f = 50 by unfold fcE fcB; rw [hb2, hb1', h]; rfl)
  have hN : hoursN f ≤ 1000 := by
    unfold hoursN
    cases f with
    | nil => simp
    | cons x t => exact hx x (by simp)
  have HAT := hid (fun k hk => all_take_snoc f (scB (hoursN f)) [] k hk)
  have HAF := hid (fun k hk hp => all_of_at f (scB (hoursN f)) [] k hk hp)
  have HAE := hid (fun k (h : (f.take k).all (scB (hoursN f)) = true) hk => all_true_end h hk)
  clear hb1' hf hx hn
  obtain ⟨R, hR⟩ : ∃ R, fcE f = R := ⟨_, rfl⟩
  rw [hR] at HR1 HR0 ⊢
  have hHB : ∀ (x : List Hr), scB (hoursN f) x = (decide (x.length = hoursN f) && x.all hrB) := fun x => rfl
  have HSC := hid hHB
  have B0 := hid (show Blk _ _ _ _ from blk_last w (.cells #[.slice A n c] 24))
  clear hHB hR
  generalize scB (hoursN f) = SB at *
  generalize hoursN f = N at *
  go_enter Tryz.func35, Tryz.ntmps35
  go_wp2_with (first
    | (go_at_call 53; refine (HW.out _ _ _ _).mono ?_; rintro e w2 ⟨rfl, rfl⟩; simp only [hb1, hb2])
    | (go_at_call 30; refine (HH.out _ (by (repeat' (first | with_reducible assumption | with_reducible exact Ext.refl _ | with_reducible refine Ext.alloc ?_ _ | with_reducible refine Ext.set ?_ ?_ _ | with_reducible refine Ext.drew ?_ | with_reducible refine Ext.drewN ?_ _ | with_reducible refine Ext.trans ?_ (by assumption) | (dsimp only; omega))))).mono ?_; rintro e w1 ⟨rfl, hE⟩))
  have E1 : Ext w w2 := by (repeat' (first | with_reducible assumption | with_reducible exact Ext.refl _ | with_reducible refine Ext.alloc ?_ _ | with_reducible refine Ext.set ?_ ?_ _ | with_reducible refine Ext.drew ?_ | with_reducible refine Ext.drewN ?_ _ | with_reducible refine Ext.trans ?_ (by assumption) | (dsimp only; omega)))
  have K1 := hid (show Blk _ _ _ _ from B0.out.ext hE)
  clear hE B0
  go_wp2
  go_loopw [3] (fun i wr => Ext w wr ∧ Hid (Blk wr w.heap.size 24 #[.slice A n c]) ∧ ∃ k : Nat, k ≤ n ∧ i = .int .i64 k ∧ Hid ((f.take k).all SB = true)) (fun i _ => n - (intOf i).toNat)
  case atStart => exact ⟨E1, K1, 0, Nat.zero_le _, rfl, hid rfl⟩
  case round =>
    obtain ⟨hE, K0, k, hk, rfl, HA⟩ := hrel
    have a0 := K0.out.cell 0
    have z0 := K0.out.lt
    simp only [List.getElem?_toArray, List.getElem?_cons_zero, List.getElem?_cons_succ] at a0
    clear K1 E1
    by_cases hlt : k < n
    · obtain ⟨b, off, rfl, hb0, A', c', hc, hcap, hhr⟩ := HX.out.at_ HN.out hlt
      have HS := hid (HAT.out k (by rw [HN.out]; exact hlt))
      have HY := hid (HAF.out k (by rw [HN.out]; exact hlt))
      have HM := hid (HXL.out _ (mem_at f [] k (by rw [HN.out]; exact hlt)))
      have HSB := hid (HSC.out (f.getD k []))
      generalize f.getD k [] = y at *
      replace hc := (hE.cell (p := ⟨b, _, none⟩) hb0).trans hc
      have hbw := Nat.lt_of_lt_of_le hb0 hE.size
      have HHR := hid hhr
      have HYN := hid (show ∃ m, y.length = m from ⟨_, rfl⟩)
      have HF2 := hid (fun j (hj : j < y.length) hp => all_of_at y hrB zeroHr j hj hp)
      have HF1 := hid (fun j (hj : j < y.length) => all_take_snoc y hrB zeroHr j hj)
      have HF3 := hid (fun j (h : (y.take j).all hrB = true) hk => all_true_end h hk)
      obtain ⟨m, hym⟩ := HYN.out
      rw [hym] at hc hcap
      have hm1 : m ≤ 1000 := by rw [← hym]; exact HM.out
      have HYM := hid hym
      rw [hym] at HSB
      clear hhr hym HYN HAT HAF HSC HM
      go_wp2_with fail
      refine (HH.out _ (by (repeat' (first | with_reducible assumption | with_reducible exact Ext.refl _ | with_reducible refine Ext.alloc ?_ _ | with_reducible refine Ext.set ?_ ?_ _ | with_reducible refine Ext.drew ?_ | with_reducible refine Ext.drewN ?_ _ | with_reducible refine Ext.trans ?_ (by assumption) | (dsimp only; omega))))).mono ?_
      rintro e w3 ⟨rfl, hE3⟩
      have E3 := hid (hE.trans hE3)
      have J0 := hid (show Blk _ _ _ _ from K0.out.ext hE3)
      by_cases hmN : m = N
      case neg =>
        have hmN' : ((m : Int) != (N : Int)) = true := by simp; omega
        have HRR := hid (HR0.out (HY.out (by rw [HSB.out, decide_eq_false hmN]; rfl)))
        clear HR0 HR1 HY HSB HS HA HF1 HF2 HF3
        go_wp2
        go_ret
        exact ⟨ret_int HRR.out.symm, E3.out⟩
      rw [decide_eq_true hmN, Bool.true_and] at HSB
      have hmm : ((m : Int) != (N : Int)) = false := by simp; omega
      clear hmN
      clear hE3 K0 a0 z0 hE hc hbw
      go_wp2
      clear hmm
      go_loopw [5] (fun i wx => Ext w wx ∧ Hid (Blk wx w.heap.size 24 #[.slice (some ⟨b, off, none⟩) n c]) ∧ ∃ j : Nat, j ≤ m ∧ i = .int .i64 j ∧ Hid ((y.take j).all hrB = true)) (fun i _ => m - (intOf i).toNat)
      case atStart => exact ⟨E3.out, J0, 0, Nat.zero_le _, rfl, hid rfl⟩
      case round =>
        obtain ⟨hE, K0, j, hj, rfl, HAJ⟩ := hrel
        clear J0 E3
        by_cases hlt2 : j < m
        · obtain ⟨b', off', rfl, hb', d0, d1, d2, d3, d4, d5⟩ := HHR.out.at_ HYM.out hlt2
          have HG1 := hid (HF1.out j (by rw [HYM.out]; exact hlt2))
          have HG2 := hid (HF2.out j (by rw [HYM.out]; exact hlt2))
          have hor := spB_or (y.getD j zeroHr)
          generalize y.getD j zeroHr = h at *
          obtain ⟨wl, wh, rl, rh, tl, th⟩ := h
          dsimp only at *
          replace d0 := (hE.cell (p := ⟨b', _, none⟩) hb').trans d0
          replace d1 := (hE.cell (p := ⟨b', _, none⟩) hb').trans d1
          replace d2 := (hE.cell (p := ⟨b', _, none⟩) hb').trans d2
          replace d3 := (hE.cell (p := ⟨b', _, none⟩) hb').trans d3
          replace d4 := (hE.cell (p := ⟨b', _, none⟩) hb').trans d4
          replace d5 := (hE.cell (p := ⟨b', _, none⟩) hb').trans d5
          have hbw := Nat.lt_of_lt_of_le hb' hE.size
          generalize hrB ⟨wl, wh, rl, rh, tl, th⟩ = BH at *
          have S1 := hid (HSP.out wl wh 0 200)
          have S2 := hid (HSP.out rl rh 0 100)
          have S3 := hid (HSP.out tl th (-50) 50)
          generalize spB wl wh 0 200 = x1 at *
          generalize spB rl rh 0 100 = x2 at *
          generalize spB tl th (-50) 50 = x3 at *
          clear HF1 HF2 HF3
          cases x1
          case false => obtain rfl : BH = false := by simpa using hor
                        have HRR := hid (HR0.out (HY.out (by rw [HSB.out]; exact HG2.out rfl)))
                        clear HR0 HR1 HY HSB HS HA HG1 HG2 hor
                        go_wp2_with (first
                          | (go_at_call 80; refine (S1.out _).mono ?_; rintro e w5 ⟨rfl, hE5⟩; have hq5 := Nat.lt_of_lt_of_le hbw hE5.size; (try (replace d2 := (hE5.cell (p := ⟨b', _, none⟩) hbw).trans d2)); (try (replace d3 := (hE5.cell (p := ⟨b', _, none⟩) hbw).trans d3)); (try (replace d4 := (hE5.cell (p := ⟨b', _, none⟩) hbw).trans d4)); (try (replace d5 := (hE5.cell (p := ⟨b', _, none⟩) hbw).trans d5)); clear S1)
                          | (go_at_call 80; refine (S2.out _).mono ?_; rintro e w6 ⟨rfl, hE6⟩; have hq6 := Nat.lt_of_lt_of_le hq5 hE6.size; (try (replace d4 := (hE6.cell (p := ⟨b', _, none⟩) hq5).trans d4)); (try (replace d5 := (hE6.cell (p := ⟨b', _, none⟩) hq5).trans d5)); clear S2)
                          | (go_at_call 80; refine (S3.out _).mono ?_; rintro e w7 ⟨rfl, hE7⟩; clear S3))
                        go_ret
                        exact ⟨ret_int HRR.out.symm, by (repeat' (first | with_reducible assumption | with_reducible exact Ext.refl _ | with_reducible refine Ext.alloc ?_ _ | with_reducible refine Ext.set ?_ ?_ _ | with_reducible refine Ext.drew ?_ | with_reducible refine Ext.drewN ?_ _ | with_reducible refine Ext.trans ?_ (by assumption) | (dsimp only; omega)))⟩
          cases x2
          case false => obtain rfl : BH = false := by simpa using hor
                        have HRR := hid (HR0.out (HY.out (by rw [HSB.out]; exact HG2.out rfl)))
                        clear HR0 HR1 HY HSB HS HA HG1 HG2 hor
                        go_wp2_with (first
                          | (go_at_call 80; refine (S1.out _).mono ?_; rintro e w5 ⟨rfl, hE5⟩; have hq5 := Nat.lt_of_lt_of_le hbw hE5.size; (try (replace d2 := (hE5.cell (p := ⟨b', _, none⟩) hbw).trans d2)); (try (replace d3 := (hE5.cell (p := ⟨b', _, none⟩) hbw).trans d3)); (try (replace d4 := (hE5.cell (p := ⟨b', _, none⟩) hbw).trans d4)); (try (replace d5 := (hE5.cell (p := ⟨b', _, none⟩) hbw).trans d5)); clear S1)
                          | (go_at_call 80; refine (S2.out _).mono ?_; rintro e w6 ⟨rfl, hE6⟩; have hq6 := Nat.lt_of_lt_of_le hq5 hE6.size; (try (replace d4 := (hE6.cell (p := ⟨b', _, none⟩) hq5).trans d4)); (try (replace d5 := (hE6.cell (p := ⟨b', _, none⟩) hq5).trans d5)); clear S2)
                          | (go_at_call 80; refine (S3.out _).mono ?_; rintro e w7 ⟨rfl, hE7⟩; clear S3))
                        go_ret
                        exact ⟨ret_int HRR.out.symm, by (repeat' (first | with_reducible assumption | with_reducible exact Ext.refl _ | with_reducible refine Ext.alloc ?_ _ | with_reducible refine Ext.set ?_ ?_ _ | with_reducible refine Ext.drew ?_ | with_reducible refine Ext.drewN ?_ _ | with_reducible refine Ext.trans ?_ (by assumption) | (dsimp only; omega)))⟩
          cases x3
          case false => obtain rfl : BH = false := by simpa using hor
                        have HRR := hid (HR0.out (HY.out (by rw [HSB.out]; exact HG2.out rfl)))
                        clear HR0 HR1 HY HSB HS HA HG1 HG2 hor
                        go_wp2_with (first
                          | (go_at_call 80; refine (S1.out _).mono ?_; rintro e w5 ⟨rfl, hE5⟩; have hq5 := Nat.lt_of_lt_of_le hbw hE5.size; (try (replace d2 := (hE5.cell (p := ⟨b', _, none⟩) hbw).trans d2)); (try (replace d3 := (hE5.cell (p := ⟨b', _, none⟩) hbw).trans d3)); (try (replace d4 := (hE5.cell (p := ⟨b', _, none⟩) hbw).trans d4)); (try (replace d5 := (hE5.cell (p := ⟨b', _, none⟩) hbw).trans d5)); clear S1)
                          | (go_at_call 80; refine (S2.out _).mono ?_; rintro e w6 ⟨rfl, hE6⟩; have hq6 := Nat.lt_of_lt_of_le hq5 hE6.size; (try (replace d4 := (hE6.cell (p := ⟨b', _, none⟩) hq5).trans d4)); (try (replace d5 := (hE6.cell (p := ⟨b', _, none⟩) hq5).trans d5)); clear S2)
                          | (go_at_call 80; refine (S3.out _).mono ?_; rintro e w7 ⟨rfl, hE7⟩; clear S3))
                        go_ret
                        exact ⟨ret_int HRR.out.symm, by (repeat' (first | with_reducible assumption | with_reducible exact Ext.refl _ | with_reducible refine Ext.alloc ?_ _ | with_reducible refine Ext.set ?_ ?_ _ | with_reducible refine Ext.drew ?_ | with_reducible refine Ext.drewN ?_ _ | with_reducible refine Ext.trans ?_ (by assumption) | (dsimp only; omega)))⟩
          obtain rfl : BH = true := by simpa using hor
          have HN2 := hid (HG1.out.trans (by rw [HAJ.out]))
          clear hor HG1 HG2 HR0 HR1 HY HSB HS
          go_wp2_with (first
            | (go_at_call 80; refine (S1.out _).mono ?_; rintro e w5 ⟨rfl, hE5⟩; have hq5 := Nat.lt_of_lt_of_le hbw hE5.size; (try (replace d2 := (hE5.cell (p := ⟨b', _, none⟩) hbw).trans d2)); (try (replace d3 := (hE5.cell (p := ⟨b', _, none⟩) hbw).trans d3)); (try (replace d4 := (hE5.cell (p := ⟨b', _, none⟩) hbw).trans d4)); (try (replace d5 := (hE5.cell (p := ⟨b', _, none⟩) hbw).trans d5)); clear S1)
            | (go_at_call 80; refine (S2.out _).mono ?_; rintro e w6 ⟨rfl, hE6⟩; have hq6 := Nat.lt_of_lt_of_le hq5 hE6.size; (try (replace d4 := (hE6.cell (p := ⟨b', _, none⟩) hq5).trans d4)); (try (replace d5 := (hE6.cell (p := ⟨b', _, none⟩) hq5).trans d5)); clear S2)
            | (go_at_call 80; refine (S3.out _).mono ?_; rintro e w7 ⟨rfl, hE7⟩; clear S3))
          go_roundw
          case rel => exact ⟨by (repeat' (first | with_reducible assumption | with_reducible exact Ext.refl _ | with_reducible refine Ext.alloc ?_ _ | with_reducible refine Ext.set ?_ ?_ _ | with_reducible refine Ext.drew ?_ | with_reducible refine Ext.drewN ?_ _ | with_reducible refine Ext.trans ?_ (by assumption) | (dsimp only; omega))), hid (K0.out.ext (by (repeat' (first | with_reducible assumption | with_reducible exact Ext.refl _ | with_reducible refine Ext.alloc ?_ _ | with_reducible refine Ext.set ?_ ?_ _ | with_reducible refine Ext.drew ?_ | with_reducible refine Ext.drewN ?_ _ | with_reducible refine Ext.trans ?_ (by assumption) | (dsimp only; omega))))), j + 1, by omega, by go_num, HN2⟩
          case measure => simp [intOf]; omega
        · obtain rfl : j = m := by omega
          have HN2 := hid (HS.out.trans (by rw [HA.out, HSB.out, HF3.out j HAJ.out (by rw [HYM.out]; exact Nat.le_refl _)]))
          clear HS HA HSB HF1 HF2 HF3
          go_wp2
          go_roundw
          case rel => exact ⟨hE, K0, k + 1, by omega, by go_num, HN2⟩
          case measure => simp [intOf]; omega
    · obtain rfl : k = n := by omega
      have HRR := hid (HR1.out (HAE.out k HA.out (by rw [HN.out]; exact Nat.le_refl _)))
      clear HR0 HR1 HA
      go_wp2
      go_ret
      exact ⟨ret_int HRR.out.symm, hE⟩
end Go.Proofs.YtecamnhnjmldcaaGreatDoor
