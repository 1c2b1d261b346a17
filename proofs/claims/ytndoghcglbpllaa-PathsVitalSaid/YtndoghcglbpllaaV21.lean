/- Vital. -/
import Derived.Test.YtndoghcglbpllaaV12
import Derived.Test.YtndoghcglbpllaaV10
import Derived.Test.YtndoghcglbpllaaV19
import Derived.Test.YtndoghcglbpllaaV20
import Derived.Test.YtndoghcglbpllaaV18
set_option linter.unusedSimpArgs false
set_option linter.unusedVariables false
namespace Go.Proofs.Ytndoghcglbpllaa
open Go.RowKit
attribute [local go_sem] Oper.semAt_some

def vitB (g l pl ph : Int) (ps : List Pt) (m fr to_ : Nat) (start D : Int) (i : Nat) : Bool := decide (D < (rows selHi g l pl ph (closeAt ps i) m fr start (m - 1)).getD to_ 0)
def vitOf (g l pl ph : Int) (ps : List Pt) (m fr to_ : Nat) (start D : Int) (is : List Nat) : List Int := (is.filter (vitB g l pl ph ps m fr to_ start D)).map Int.ofNat
/-- What Vital returns, if its input is valid. -/
def VitalIs (X D : Int) (ys : List Int) (w : World) (e : Ending) (w' : World) : Prop :=
  (D < X ∧ e = .returned (.tuple #[.slice none 0 0, .int .i64 3]) ∧ Ext w w') ∨
  (X ≤ D ∧ ∃ v, e = .returned (.tuple #[v, .int .i64 0]) ∧ OwnAt w' w.heap.size v ys ∧ Ext w w')
theorem OwnAt.own {B : Nat} {v : Value} {xs : List Int} {W W' : World} {row : Option Nat} {N : Nat} (h : OwnAt W B v xs) (hg : W.grownBy W' row) (hr : ∀ r, row = some r → N ≤ r ∧ ∃ o : Obj, W.heap[r]? = some o ∧ o.isCells = false) : OwnAt W' B v xs := by
  obtain ⟨h1, h2⟩ := h
  refine ⟨h1, ?_⟩
  rcases h2 with h2 | ⟨g, cap, cur, a1, a2, a3, a4⟩
  · exact .inl h2
  · refine .inr ⟨g, cap, cur, a1, a2, (hg.block g (Array.getElem?_eq_some_iff.1 a3).1 (fun e => ?_)).trans a3, a4⟩
    obtain ⟨_, o, ho, hc⟩ := hr g e.symm
    rw [a3] at ho
    injection ho with ho
    subst ho
    cases hc
theorem OwnAt.done {B B' D : Nat} {v : Value} {xs : List Int} {W : World} {k : Obj} (h : OwnAt W B v xs) (hB : B' ≤ B) (hD : W.heap[D]? = some (.deferred (some []))) : OwnAt (W.putObj D k) B' v xs := by
  obtain ⟨h1, h2⟩ := h
  refine ⟨h1, ?_⟩
  rcases h2 with h2 | ⟨g, cap, cur, a1, a2, a3, a4⟩
  · exact .inl h2
  · refine .inr ⟨g, cap, cur, a1, Nat.le_trans hB a2, (World.putObj_heap_other (fun e => ?_)).trans a3, a4⟩
    subst e
    rw [a3] at hD
    cases hD
/-- The memory of the loop. -/
structure VT (w : World) (q Z : Nat) (m : Nat) (g l pl ph : Int) (A : Option Addr) (n c fr to_ : Nat) (start D : Int) (xs : List Int) (W : World) : Prop where
  ext : Ext w W
  size : Z + 2 ≤ W.heap.size
  b0 : W.heap[q]? = some (.cells #[.int .i64 (m : Int), .slice A n c, .int .i64 g, .int .i64 l, .int .i64 pl, .int .i64 ph] 70 (0, 0))
  b1 : W.heap[w.heap.size + 1 + 1]? = some (.cells #[.int .i64 (fr : Int)] 3 (0, 0))
  b2 : W.heap[w.heap.size + 1 + 1 + 1]? = some (.cells #[.int .i64 start] 3 (0, 0))
  b3 : W.heap[w.heap.size + 1 + 1 + 1 + 1]? = some (.cells #[.int .i64 (to_ : Int)] 3 (0, 0))
  b4 : W.heap[w.heap.size + 1 + 1 + 1 + 1 + 1]? = some (.cells #[.int .i64 D] 3 (0, 0))
  bf : W.heap[q + 1]? = some (.cells #[.func (.func 62) #[] #[.pointer (some ⟨w.heap.size + 1 + 1, 0, none⟩), .pointer (some ⟨w.heap.size + 1 + 1 + 1, 0, none⟩), .pointer (some ⟨w.heap.size + 1 + 1 + 1 + 1, 0, none⟩), .pointer (some ⟨w.heap.size + 1 + 1 + 1 + 1 + 1, 0, none⟩)]] 89 (0, 0))
  z0 : ∃ v, W.heap[Z]? = some (.cells #[v] 29 (0, 0)) ∧ OwnAt W (Z + 2) v xs
theorem VT.keep {w : World} {q Z m : Nat} {g l pl ph : Int} {A : Option Addr} {n c fr to_ : Nat} {start D : Int} {xs : List Int} {W W' : World}
    (h : VT w q Z m g l pl ph A n c fr to_ start D xs W) (hq : w.heap.size + 6 ≤ q) (hZ : q + 2 ≤ Z) (he : Ext w W') (hs : W.heap.size ≤ W'.heap.size) (hh : ∀ k, k < Z + 2 → W'.heap[k]? = W.heap[k]?) (ho : ∀ v, OwnAt W (Z + 2) v xs → OwnAt W' (Z + 2) v xs) : VT w q Z m g l pl ph A n c fr to_ start D xs W' := by
  obtain ⟨v, h1, h2⟩ := h.z0
  exact ⟨he, Nat.le_trans h.size hs, (hh _ (by omega)).trans h.b0, (hh _ (by omega)).trans h.b1, (hh _ (by omega)).trans h.b2, (hh _ (by omega)).trans h.b3, (hh _ (by omega)).trans h.b4, (hh _ (by omega)).trans h.bf, v, (hh _ (by omega)).trans h1, ho v h2⟩
theorem VT.step {w : World} {q Z m : Nat} {g l pl ph : Int} {A : Option Addr} {n c fr to_ : Nat} {start D : Int} {xs : List Int} {W W' : World}
    (h : VT w q Z m g l pl ph A n c fr to_ start D xs W) (hq : w.heap.size + 6 ≤ q) (hZ : q + 2 ≤ Z) (e : Ext W W') : VT w q Z m g l pl ph A n c fr to_ start D xs W' :=
  h.keep hq hZ (h.ext.trans e) e.size (fun k hk => Below.block e k (by have := h.size; omega)) (fun v hv => hv.ext e)
theorem VT.own {w : World} {q Z m : Nat} {g l pl ph : Int} {A : Option Addr} {n c fr to_ : Nat} {start D : Int} {xs : List Int} {B : Nat} {W W' : World} {row : Option Nat}
    (h : VT w q Z m g l pl ph A n c fr to_ start D xs W) (hq : w.heap.size + 6 ≤ q) (hZ : q + 2 ≤ Z) (hB : Z + 2 ≤ B) (hg : W.grownBy W' row) (hr : ∀ r, row = some r → B ≤ r ∧ ∃ o : Obj, W.heap[r]? = some o ∧ o.isCells = false) : VT w q Z m g l pl ph A n c fr to_ start D xs W' :=
  h.keep hq hZ (own_ext (by omega) h.ext hg hr) hg.size (fun k hk => hg.block k (by have := h.size; omega) (fun e => by have := (hr k e.symm).1; omega)) (fun v hv => hv.own hg hr)
/-- One number more. -/
theorem VT.put {w : World} {q Z m : Nat} {g l pl ph : Int} {A : Option Addr} {n c fr to_ : Nat} {start D : Int} {xs ys : List Int} {W W2 : World} {v v' : Value}
    (h : VT w q Z m g l pl ph A n c fr to_ start D xs W) (hq : w.heap.size + 6 ≤ q) (hZ : q + 2 ≤ Z) (hv : W.heap[Z]? = some (.cells #[v] 29 (0, 0))) (hown : OwnAt W (Z + 2) v xs) (hg : W.grownBy W2 v.ownBlock) (ho : OwnAt W2 (Z + 2) v' ys) :
    VT w q Z m g l pl ph A n c fr to_ start D ys (W2.setCell ⟨Z, 0, none⟩ v') ∧ (∀ (k : Nat) (o : Obj), W.heap[k]? = some o → o.isCells = false → (W2.setCell ⟨Z, 0, none⟩ v').heap[k]? = some o) ∧ W.heap.size ≤ (W2.setCell ⟨Z, 0, none⟩ v').heap.size ∧ (∀ k, k < Z + 2 → k ≠ Z → (W2.setCell ⟨Z, 0, none⟩ v').heap[k]? = W.heap[k]?) := by
  have hs := h.size
  have hgs := hg.size
  have hb := hown.block
  have hlow : ∀ k, k < Z + 2 → k ≠ Z → (W2.setCell ⟨Z, 0, none⟩ v').heap[k]? = W.heap[k]? := fun k hk hn => (Below.heap_setCell _ _ _ k hn).trans (hg.block k (by omega) (fun e => by have := hb k e.symm; omega))
  have hZ2 : W2.heap[Z]? = some (.cells #[v] 29 (0, 0)) := (hg.block Z (by omega) (fun e => by have := hb Z e.symm; omega)).trans hv
  have e2 : Ext w W2 := Below.grown h.ext hg h.ext.size (fun k e => by have := hb k e; omega)
  refine ⟨⟨e2.set (by dsimp only; omega) _, by simp; omega, (hlow _ (by omega) (by omega)).trans h.b0, (hlow _ (by omega) (by omega)).trans h.b1, (hlow _ (by omega) (by omega)).trans h.b2, (hlow _ (by omega) (by omega)).trans h.b3, (hlow _ (by omega) (by omega)).trans h.b4, (hlow _ (by omega) (by omega)).trans h.bf, v', heap_setCell_same W2 Z 0 _ _ v' hZ2, ?_⟩, ?_, by simp; omega, hlow⟩
  · obtain ⟨h1, h2⟩ := ho
    refine ⟨h1, ?_⟩
    rcases h2 with h2 | ⟨g, cap, cur, a1, a2, a3, a4⟩
    · exact .inl h2
    · exact .inr ⟨g, cap, cur, a1, a2, (Below.heap_setCell _ _ _ g (by dsimp only; omega)).trans a3, a4⟩
  · intro k o hk hc
    have hkl := (Array.getElem?_eq_some_iff.1 hk).1
    have hn : k ≠ Z := by
      rintro rfl
      rw [hv] at hk
      injection hk with hk
      subst hk
      cases hc
    refine (Below.heap_setCell _ _ _ k hn).trans ((hg.block k hkl (fun e => ?_)).trans hk)
    rcases hown.2 with ⟨h2, _⟩ | ⟨g, cap, cur, a1, a2, a3, _⟩
    · rw [h2] at e; cases e
    · rw [a1] at e
      cases e
      rw [a3] at hk
      injection hk with hk
      subst hk
      cases hc
/-- How a round ends. -/
inductive VEnd (W' : World) (Z : Nat) (xs : List Int) (i : Int) (vit : Bool) : World → Prop
  | no {W2 : World} (h : Ext W' W2) (hf : vit = false) : VEnd W' Z xs i vit W2
  | yes {W1 W3 : World} {v v' : Value} (h : Ext W' W1) (hf : vit = true) (hv : W1.heap[Z]? = some (.cells #[v] 29 (0, 0))) (ho : OwnAt W1 (Z + 2) v xs) (hg : W1.grownBy W3 v.ownBlock) (ho' : OwnAt W3 (Z + 2) v' (xs ++ [i])) : VEnd W' Z xs i vit (W3.setCell ⟨Z, 0, none⟩ v')
theorem wpListIn_append_ints {F : Fence} {nn : Nat} {P : Program} {ops : Array Oper} {rest : List Oper} {o : Oper} {a : Act} {Q : Exit → Act → World → Prop} (w : World) (hP : P = Try.prog) (hgd : o.guard = none) (s x : Operand)
    (ho : o.op = Op.call { callee := Callee.builtin Builtin.append, args := #[s, x], argTypes := #[29, 29] }) (B : Nat) (v : Value) (xs : List Int) (hs : a.eval s = v) (hown : OwnAt w B v xs)
    (ad : Addr) (y : Int) (hx : a.eval x = .slice (some ad) 1 1) (hy : w.cell? ad = some (.int .i64 y)) (hl : xs.length ≤ 1000) (hB : B ≤ w.heap.size)
    (h : ∀ v' w', OwnAt w' B v' (xs ++ [y]) → w.grownBy w' v.ownBlock → wpListIn F nn P ops Q rest (a.put o.dst v') w') : wpListIn F nn P ops Q (o :: rest) a w := by
  subst hP
  obtain ⟨i0, hi, hz0, hz1, hz2⟩ := info_parts info3
  refine wpListIn_append_own w hgd s x 29 ho B 3 i0 (.int .i64 0) 1 8 Try.underlying29 hi hz0 hz1 hz2 rfl (by decide) v xs.length (ints xs) hs hown ad 1 1 [.int .i64 y] hx rfl (one_at hy) (one_one _) (by unfold maxLen; omega) (by omega) hB (fun v' w' h1 h2 _ => h v' w' ?_ h2)
  unfold OwnAt
  have e1 : (xs ++ [y]).length = xs.length + 1 := by simp
  have e2 : ints (xs ++ [y]) = ints xs ++ [.int .i64 y] := by simp [ints]
  rw [e1, e2]
  exact h1

set_option maxRecDepth 100000 in
set_option maxHeartbeats 4000000 in
theorem vital_ok (m g l pl ph from_ start to_ D : Int) (A : Option Addr) (n c : Nat) (ps : List Pt) (hn : ps.length = n) (w : World) (hp : PathsAt w A ps) (hb : beginE m g l pl ph ps [from_, to_] [start, D] = 0) :
    Calls Try.prog 26 #[.agg #[.int .i64 m, .slice A n c], .agg #[.int .i64 g, .int .i64 l, .int .i64 pl, .int .i64 ph], .int .i64 from_, .int .i64 start, .int .i64 to_, .int .i64 D] w
      (VitalIs ((rows selHi g l pl ph ps m.toNat from_.toNat start (m.toNat - 1)).getD to_.toNat 0) D (vitOf g l pl ph ps m.toNat from_.toNat to_.toNat start D (walkIdx ps g n)) w) := by
  obtain ⟨k1, k2, k3, k4⟩ := begin_zero hb
  obtain ⟨hm1, hm2, hN⟩ := vNet_ok k1
  have ha := vParty_ok k2
  have hfr := k3 from_ (by simp)
  have hto := k3 to_ (by simp)
  have hst := k4 start (by simp)
  have hDt := k4 D (by simp)
  obtain ⟨b, off, hA, hpp⟩ := hp.open_ hn
  obtain ⟨mm, rfl⟩ : ∃ k : Nat, m = k := ⟨m.toNat, by omega⟩
  obtain ⟨fr, rfl⟩ : ∃ k : Nat, from_ = k := ⟨from_.toNat, by omega⟩
  obtain ⟨tt, rfl⟩ : ∃ k : Nat, to_ = k := ⟨to_.toNat, by omega⟩
  rw [Int.toNat_natCast] at hN
  simp only [Int.toNat_natCast]
  have hn24 : n ≤ 24 := by have := hN.len; omega
  have HB := hid (fun (b1 b2 : Nat) (W : World) (hW : Ext w W) (h1 : IntsAt W (some ⟨b1, 0, none⟩) [(fr : Int), (tt : Int)]) (h2 : IntsAt W (some ⟨b2, 0, none⟩) [start, D]) => begin_ok mm g l pl ph A (some ⟨b1, 0, none⟩) (some ⟨b2, 0, none⟩) n c 2 2 2 2 ps [(fr : Int), (tt : Int)] [start, D] hn rfl rfl (by omega) (by omega) W (hp.ext hW) h1 h2 hb)
  have HL := hid (fun (qs : List Pt) (hqn : qs.length = n) (hq : NOk mm qs) (A' : Option Addr) (c' : Nat) (W : World) (hW : PathsAt W A' qs) (q1 q2 q3 q4 : Nat) b1 b2 b3 b4 =>
    vlate_any g l pl ph n c' qs hqn A' mm (by omega) (by omega) hq ha fr tt (by omega) (by omega) D start hst.1 (by omega) W hW q1 q2 q3 q4 b1 b2 b3 b4)
  have HWO := hid (fun (i : Nat) (hi : i < n) (W : World) (hW : Ext w W) => without_any mm g l pl ph A n c ps hn (by omega) i hi W (hp.ext hW))
  have HCL := hid (fun (i : Nat) => closeAt_ok (b := i) hN)
  have HCN := hid (fun (i : Nat) => (closeAt_len (ps := ps) (b := i)).trans hn)
  have HVB := hid (fun i => (show vitB g l pl ph ps mm fr tt start D i = decide (D < (rows selHi g l pl ph (closeAt ps i) mm fr start (mm - 1)).getD tt 0) from rfl))
  have HVO := hid (fun (is : List Nat) (i : Nat) => (show vitOf g l pl ph ps mm fr tt start D (is ++ [i]) = vitOf g l pl ph ps mm fr tt start D is ++ (if vitB g l pl ph ps mm fr tt start D i = true then [(i : Int)] else []) from by
    unfold vitOf
    rw [List.filter_append, filter_one, List.map_append]
    split <;> rfl))
  have HVL := hid (fun is : List Nat => (show (vitOf g l pl ph ps mm fr tt start D is).length ≤ is.length by unfold vitOf; rw [List.length_map]; exact List.length_filter_le _ _))
  have HV0 := hid (show vitOf g l pl ph ps mm fr tt start D [] = [] from rfl)
  have HNO := hid hN
  have HPA := hid ha
  have HP0 := hid hp
  have HPP := hid hpp
  have HA := hid hA
  have HNN := hid hn
  obtain ⟨X, hXX⟩ : ∃ X, (rows selHi g l pl ph ps mm fr start (mm - 1)).getD tt 0 = X := ⟨_, rfl⟩
  have HXX := hid hXX
  rw [hXX]
  simp only [wbox] at HL HWO
  revert HVB HVO HVL HV0
  generalize vitOf g l pl ph ps mm fr tt start D = vo
  generalize vitB g l pl ph ps mm fr tt start D = vb
  intro HVB HVO HVL HV0
  clear hp hn hb k1 k2 k3 k4 hN ha hfr hto hst hDt hA hpp hXX
  refine (callsIn_wide (n := 6)).1 ?_
  refine callsIn_of_wp_marks Try.func26 rfl trivial ?_ rfl
  simp only [Try.ntmps26, wbox, List.size_toArray, List.length_cons, List.length_nil, Nat.reduceAdd, Nat.reduceSub, Array.replicate_succ, Array.replicate_zero, List.push_toArray, List.append_toArray, List.nil_append, List.cons_append]
  gi_wp2_with fail
  have t0 := two_blocks (((w.alloc (.cells #[.int .i64 (mm : Int), .slice A n c] 24)).alloc (.cells #[.int .i64 g, .int .i64 l, .int .i64 pl, .int .i64 ph] 28))) (.cells #[.int .i64 (fr : Int)] 3) (.cells #[.int .i64 start] 3)
  have t1 := two_blocks (((((w.alloc (.cells #[.int .i64 (mm : Int), .slice A n c] 24)).alloc (.cells #[.int .i64 g, .int .i64 l, .int .i64 pl, .int .i64 ph] 28))).alloc (.cells #[.int .i64 (fr : Int)] 3)).alloc (.cells #[.int .i64 start] 3)) (.cells #[.int .i64 (tt : Int)] 3) (.cells #[.int .i64 D] 3)
  have t2 := two_blocks (((((((w.alloc (.cells #[.int .i64 (mm : Int), .slice A n c] 24)).alloc (.cells #[.int .i64 g, .int .i64 l, .int .i64 pl, .int .i64 ph] 28))).alloc (.cells #[.int .i64 (fr : Int)] 3)).alloc (.cells #[.int .i64 start] 3)).alloc (.cells #[.int .i64 (tt : Int)] 3)).alloc (.cells #[.int .i64 D] 3)) (.cells #[.int .i64 (fr : Int), .int .i64 (tt : Int)] 3) (.cells #[.int .i64 start, .int .i64 D] 3)
  simp only [World.size_alloc] at t0 t1 t2
  refine ⟨trivial, CallsIn.mono (callsIn_wide.2 (HB.out _ _ _ (by (repeat' (first | with_reducible assumption | with_reducible exact Ext.refl _ | with_reducible refine Ext.alloc ?_ _ | with_reducible refine Ext.set ?_ ?_ _ | with_reducible refine Ext.drew ?_ | with_reducible refine Ext.drewN ?_ _ | with_reducible refine Ext.trans ?_ (by assumption) | (dsimp only; omega)))) (ints_two_at t2.1) (ints_two_at t2.2.1))) ?_⟩
  rintro e w1 ⟨rfl, hE⟩
  have EW : Ext w w1 := by (repeat' (first | with_reducible assumption | with_reducible exact Ext.refl _ | with_reducible refine Ext.alloc ?_ _ | with_reducible refine Ext.set ?_ ?_ _ | with_reducible refine Ext.drew ?_ | with_reducible refine Ext.drewN ?_ _ | with_reducible refine Ext.trans ?_ (by assumption) | (dsimp only; omega)))
  have B1 := hid (blk_ext t0.1 (Ext.trans (by (repeat' (first | with_reducible assumption | with_reducible exact Ext.refl _ | with_reducible refine Ext.alloc ?_ _ | with_reducible refine Ext.set ?_ ?_ _ | with_reducible refine Ext.drew ?_ | with_reducible refine Ext.drewN ?_ _ | with_reducible refine Ext.trans ?_ (by assumption) | (dsimp only; omega)))) hE))
  have B2 := hid (blk_ext t0.2.1 (Ext.trans (by (repeat' (first | with_reducible assumption | with_reducible exact Ext.refl _ | with_reducible refine Ext.alloc ?_ _ | with_reducible refine Ext.set ?_ ?_ _ | with_reducible refine Ext.drew ?_ | with_reducible refine Ext.drewN ?_ _ | with_reducible refine Ext.trans ?_ (by assumption) | (dsimp only; omega)))) hE))
  have B3 := hid (blk_ext t1.1 (Ext.trans (by (repeat' (first | with_reducible assumption | with_reducible exact Ext.refl _ | with_reducible refine Ext.alloc ?_ _ | with_reducible refine Ext.set ?_ ?_ _ | with_reducible refine Ext.drew ?_ | with_reducible refine Ext.drewN ?_ _ | with_reducible refine Ext.trans ?_ (by assumption) | (dsimp only; omega)))) hE))
  have B4 := hid (blk_ext t1.2.1 (Ext.trans (by (repeat' (first | with_reducible assumption | with_reducible exact Ext.refl _ | with_reducible refine Ext.alloc ?_ _ | with_reducible refine Ext.set ?_ ?_ _ | with_reducible refine Ext.drew ?_ | with_reducible refine Ext.drewN ?_ _ | with_reducible refine Ext.trans ?_ (by assumption) | (dsimp only; omega)))) hE))
  have hz1 : w.heap.size + 6 ≤ w1.heap.size := by have := hE.size; simp at this; omega
  clear hE HB t0 t1 t2
  gi_wp2_with fail
  have EL1 : Ext w1 ((w1.alloc (.cells #[.int .i64 (mm : Int), .slice A n c, .int .i64 g, .int .i64 l, .int .i64 pl, .int .i64 ph] 70)).alloc (.cells #[.func (.func 62) #[] #[.pointer (some ⟨w.heap.size + 1 + 1, 0, none⟩), .pointer (some ⟨w.heap.size + 1 + 1 + 1, 0, none⟩), .pointer (some ⟨w.heap.size + 1 + 1 + 1 + 1, 0, none⟩), .pointer (some ⟨w.heap.size + 1 + 1 + 1 + 1 + 1, 0, none⟩)]] 89)) := by (repeat' (first | with_reducible assumption | with_reducible exact Ext.refl _ | with_reducible refine Ext.alloc ?_ _ | with_reducible refine Ext.set ?_ ?_ _ | with_reducible refine Ext.drew ?_ | with_reducible refine Ext.drewN ?_ _ | with_reducible refine Ext.trans ?_ (by assumption) | (dsimp only; omega)))
  have t3 := two_blocks w1 (.cells #[.int .i64 (mm : Int), .slice A n c, .int .i64 g, .int .i64 l, .int .i64 pl, .int .i64 ph] 70) (.cells #[.func (.func 62) #[] #[.pointer (some ⟨w.heap.size + 1 + 1, 0, none⟩), .pointer (some ⟨w.heap.size + 1 + 1 + 1, 0, none⟩), .pointer (some ⟨w.heap.size + 1 + 1 + 1 + 1, 0, none⟩), .pointer (some ⟨w.heap.size + 1 + 1 + 1 + 1 + 1, 0, none⟩)]] 89)
  refine ⟨trivial, CallsIn.mono (callsIn_wide.2 (HL.out ps HNN.out HNO.out A c _ (HP0.out.ext (EW.trans EL1)) _ _ _ _ (blk_ext B1.out EL1) (blk_ext B2.out EL1) (blk_ext B3.out EL1) (blk_ext B4.out EL1))) ?_⟩
  rintro e w2 ⟨rfl, hE⟩
  rw [HXX.out]
  have EW2 : Ext w w2 := (EW.trans EL1).trans hE
  have C1 := hid (blk_ext B1.out (EL1.trans hE))
  have C2 := hid (blk_ext B2.out (EL1.trans hE))
  have C3 := hid (blk_ext B3.out (EL1.trans hE))
  have C4 := hid (blk_ext B4.out (EL1.trans hE))
  have C0 := hid (blk_ext t3.1 hE)
  have CF := hid (blk_ext t3.2.1 hE)
  have hz2 : w1.heap.size + 2 ≤ w2.heap.size := by have h1 := hE.size; have h2 := t3.2.2; omega
  clear hE t3 EL1 B1 B2 B3 B4
  by_cases hlate : D < X
  · have hd : decide (D < X) = true := decide_eq_true hlate
    gi_wp2
    exact ⟨_, results_tmp2 rfl _ _ _, .inl ⟨hlate, rfl, EW2⟩⟩
  have hd : decide (D < X) = false := decide_eq_false hlate
  have c0 := blk_cell C0.out 0
  have c1 := blk_cell C0.out 1
  have c2 := blk_cell C0.out 2
  have c3 := blk_cell C0.out 3
  have c4 := blk_cell C0.out 4
  have c5 := blk_cell C0.out 5
  simp only [List.getElem?_toArray, List.getElem?_cons_zero, List.getElem?_cons_succ] at c0 c1 c2 c3 c4 c5
  have s1 : w1.heap.size < w2.heap.size := by omega
  gi_wp2_with fail
  refine ⟨trivial, CallsIn.mono (callsIn_wide.2 (walkable_any mm g l pl ph A n c _)) ?_⟩
  rintro e wx ⟨rfl, rfl⟩
  clear c0 c1 c2 c3 c4 c5
  gi_wp2
  obtain ⟨Wl, hWl⟩ : ∃ Wl, (w2.alloc (.cells #[.slice none 0 0] 29)).alloc (.cells (wbox (mm : Int) g l pl ph A n c) 70) = Wl := ⟨_, rfl⟩
  have y := two_blocks w2 (.cells #[.slice none 0 0] 29) (.cells (wbox (mm : Int) g l pl ph A n c) 70)
  have EL : Ext w2 Wl := by rw [← hWl]; (repeat' (first | with_reducible assumption | with_reducible exact Ext.refl _ | with_reducible refine Ext.alloc ?_ _ | with_reducible refine Ext.set ?_ ?_ _ | with_reducible refine Ext.drew ?_ | with_reducible refine Ext.drewN ?_ _ | with_reducible refine Ext.trans ?_ (by assumption) | (dsimp only; omega)))
  rw [hWl] at y ⊢
  have EWL : Ext w Wl := EW2.trans EL
  have hVT : VT w w1.heap.size w2.heap.size mm g l pl ph A n c fr tt start D [] Wl :=
    ⟨EWL, by omega, blk_ext C0.out EL, blk_ext C1.out EL, blk_ext C2.out EL, blk_ext C3.out EL, blk_ext C4.out EL, blk_ext CF.out EL, _, y.1, OwnAt.nil _ _⟩
  have Y1 := hid y.2.1
  have hzl : Wl.heap.size = w2.heap.size + 2 := y.2.2
  clear hWl y C0 C1 C2 C3 C4 CF EL s1
  refine wpIn_rangeFunc_ownH (F := Fence.wide) (n := 6) rfl (by omega) (gf := 91) (lb := #[.pointer (some ⟨w2.heap.size + 1, 0, none⟩)]) rfl trivial (enters_of Try.func91 (by kernel_rfl) rfl)
    (walk_stops (6 - 1) (by omega) w b off mm g l pl ph n c ps HNN.out (by omega) A HA.out HPP.out (w2.heap.size + 1) Wl EWL Y1.out) kpB_t (kpB_b EWL.size (by omega)) (Below.refl _ _) (fun _ => rfl)
    (fun pre W' => VT w w1.heap.size w2.heap.size mm g l pl ph A n c fr tt start D (vo (itIdx pre)) W' ∧ Hid (W'.heap[w2.heap.size + 1]? = some (.cells (wbox (mm : Int) g l pl ph A n c) 70 (0, 0))))
    (fun _ _ _ => False)
    (fun s A B row hs hg hr => ⟨hs.1.own hz1 hz2 (by omega) hg hr, hid (own_blk (by omega) hs.2.out hg hr)⟩)
    (fun _ _ _ _ _ hs _ _ => hs)
    ⟨by rw [show itIdx ([] : List (It w b off ps g)) = [] from rfl, HV0.out]; exact hVT, Y1⟩
    (fun x a' _ => a' = { tmps := #[.agg #[.int .i64 (mm : Int), .slice A n c], .agg #[.int .i64 g, .int .i64 l, .int .i64 pl, .int .i64 ph], .int .i64 (fr : Int), .int .i64 start, .int .i64 (tt : Int), .int .i64 D, .pointer (some ⟨w.heap.size, 0, none⟩), .pointer (some ⟨w.heap.size + 1, 0, none⟩), .pointer (some ⟨w.heap.size + 1 + 1, 0, none⟩), .pointer (some ⟨w.heap.size + 1 + 1 + 1, 0, none⟩), .pointer (some ⟨w.heap.size + 1 + 1 + 1 + 1, 0, none⟩), .pointer (some ⟨w.heap.size + 1 + 1 + 1 + 1 + 1, 0, none⟩), .slice none 0 0, .int .i64 0, .pointer (some ⟨w1.heap.size, 0, none⟩), .int .i64 0, .pointer (some ⟨w1.heap.size + 1, 0, none⟩), .pointer (some ⟨w2.heap.size, 0, none⟩), .int .i64 (x.1.1 : Int), .tuple #[.agg #[.int .i64 (mm : Int), .slice A n c, .int .i64 g, .int .i64 l, .int .i64 pl, .int .i64 ph], .int .i64 0], .agg #[.int .i64 (mm : Int), .slice A n c], .agg #[.int .i64 g, .int .i64 l, .int .i64 pl, .int .i64 ph], .int .i64 (fr : Int), .int .i64 (tt : Int), .slice (some ⟨w.heap.size + 1 + 1 + 1 + 1 + 1 + 1, 0, none⟩) 2 2, .int .i64 start, .int .i64 D, .slice (some ⟨w.heap.size + 1 + 1 + 1 + 1 + 1 + 1 + 1, 0, none⟩) 2 2, .tuple #[.agg #[.int .i64 (mm : Int), .slice A n c, .int .i64 g, .int .i64 l, .int .i64 pl, .int .i64 ph], .int .i64 0], .agg #[.int .i64 (mm : Int), .slice A n c, .int .i64 g, .int .i64 l, .int .i64 pl, .int .i64 ph], .int .i64 0, .int .i64 0, .bool false, undef, .func (.func 62) #[] #[.pointer (some ⟨w.heap.size + 1 + 1, 0, none⟩), .pointer (some ⟨w.heap.size + 1 + 1 + 1, 0, none⟩), .pointer (some ⟨w.heap.size + 1 + 1 + 1 + 1, 0, none⟩), .pointer (some ⟨w.heap.size + 1 + 1 + 1 + 1 + 1, 0, none⟩)], .func (.func 62) #[] #[.pointer (some ⟨w.heap.size + 1 + 1, 0, none⟩), .pointer (some ⟨w.heap.size + 1 + 1 + 1, 0, none⟩), .pointer (some ⟨w.heap.size + 1 + 1 + 1 + 1, 0, none⟩), .pointer (some ⟨w.heap.size + 1 + 1 + 1 + 1 + 1, 0, none⟩)], .agg #[.int .i64 (mm : Int), .slice A n c, .int .i64 g, .int .i64 l, .int .i64 pl, .int .i64 ph], .bool false, .agg #[.int .i64 (mm : Int), .slice A n c, .int .i64 g, .int .i64 l, .int .i64 pl, .int .i64 ph], .func (.func 91) #[] #[.pointer (some ⟨w2.heap.size + 1, 0, none⟩)], .int .i64 (x.1.1 : Int), (ps.getD x.1.1 zeroPt).val x.1.2.1 x.1.2.2, undef, undef, undef, undef, undef, undef, undef, undef, undef, undef], defers := [] })
    (fun x a' _ X Y row hs hg hr => hs)
    ?assign ?body ?done ?stop
  case assign =>
    rintro lp pre x W' K ⟨R, hb⟩ hK
    have HK := hid hK
    clear hK
    simp only [itEnc, Pt.val]
    gi_wp2
    exact HK.out _ _ (keepsFrom_ext _ (Ext.refl _)) ⟨Below.refl _ _, rfl⟩ ⟨R, hb⟩ rfl
  case body =>
    rintro lp pre x a' W' hlt ⟨rec, hrec⟩ ⟨R, hb⟩ rfl hlen
    obtain ⟨⟨xi, xA, xc⟩, hx1, hx2, hx3⟩ := x
    dsimp only at hx1 hx2 hx3 ⊢
    have HIX := hid (show vo (itIdx (pre ++ [(⟨(xi, xA, xc), hx1, hx2, hx3⟩ : It w b off ps g)])) = vo (itIdx pre) ++ (if vb xi = true then [(xi : Int)] else []) by rw [← HVO.out]; simp [itIdx])
    refine wpIn_mono (Q := fun e _ W2 => e = .normal ∧ VEnd W' w2.heap.size (vo (itIdx pre)) (xi : Int) (vb xi) W2) ?_ ?post
    case post =>
      rintro e a3 W2 ⟨rfl, hV⟩
      have hs2 := R.size
      cases hV with
      | no e2 hf =>
        exact ⟨keepsFrom_ext _ e2, ⟨Below.mono e2 R.ext.size, Below.block e2 _ (by omega)⟩, by rw [HIX.out, if_neg (by rw [hf]; simp), List.append_nil]; exact R.step hz1 hz2 e2, hid (blk_ext hb.out e2)⟩
      | yes h hf hv ho hg ho' =>
        obtain ⟨q1, q2, q3, q4⟩ := (R.step hz1 hz2 h).put hz1 hz2 hv ho hg ho'
        have hob := ho.block
        have hws := R.ext.size
        have hss := h.size
        have hk4 := (q4 (w2.heap.size + 1) (by omega) (by omega)).trans (Below.block h _ (by omega))
        exact ⟨⟨Nat.le_trans h.size q3, fun q o hq hok hc => q2 q o (blk_ext hok h) hc⟩, ⟨(Below.grown (Below.mono h R.ext.size) hg (by omega) (fun k hk => by have := hob k hk; omega)).setCell (by dsimp only; omega) _, hk4⟩,
          by rw [HIX.out, if_pos hf]; exact q1, hid (hk4.trans hb.out)⟩
    clear HIX
    obtain ⟨v0, hz0, ho0⟩ := R.z0
    have c0 := blk_cell R.b0 0
    have c1 := blk_cell R.b0 1
    have c2 := blk_cell R.b0 2
    have c3 := blk_cell R.b0 3
    have c4 := blk_cell R.b0 4
    have c5 := blk_cell R.b0 5
    have c6 := blk_cell R.bf 0
    simp only [List.getElem?_toArray, List.getElem?_cons_zero, List.getElem?_cons_succ] at c0 c1 c2 c3 c4 c5 c6
    have s1 : w1.heap.size < W'.heap.size := by have := R.size; omega
    have s2 : w1.heap.size + 1 < W'.heap.size := by have := R.size; omega
    gi_wp2_with fail
    refine wpIn_region_held (S := fun w' => (∀ b o, b < W'.heap.size → w'.cell? ⟨b, o, none⟩ = W'.cell? ⟨b, o, none⟩) ∧ W'.heap.size ≤ w'.heap.size ∧ Ext W' w') (by kernel_rfl) (by kernel_rfl) (fun ⟨_, _, h⟩ => by cases h.1) ?hS0 (fun hHeld => ?_)
    case hS0 => exact ⟨fun _ _ _ => rfl, Nat.le_refl _, Ext.drew (Ext.refl _)⟩
    refine wpAnyH_take (i := 0) (oi := _) (v := ?v0h) rfl (by kernel_rfl) (by kernel_rfl) (by kernel_rfl) (fun _ _ _ h => h) (Or.inl ⟨by rfl, ?y0h⟩) (by assumption) ?r0h
    case y0h => (intro w' hSw; (try dsimp only at hSw); go_simp; (try with_reducible rfl))
    try simp only [Act.put, List.getElem_toArray, List.getElem_cons_zero, List.getElem_cons_succ, List.setIfInBounds_toArray, List.set_cons_zero, List.set_cons_succ]
    refine wpAnyH_take (i := 1) (oi := _) (v := ?v1h) rfl (by kernel_rfl) (by kernel_rfl) (by kernel_rfl) (fun _ _ _ h => h) (Or.inl ⟨by rfl, ?y1h⟩) (by assumption) ?r1h
    case y1h => (intro w' hSw; (try dsimp only at hSw); go_simp; (try with_reducible rfl))
    try simp only [Act.put, List.getElem_toArray, List.getElem_cons_zero, List.getElem_cons_succ, List.setIfInBounds_toArray, List.set_cons_zero, List.set_cons_succ]
    refine wpAnyH_take (i := 2) (oi := _) (v := ?v2h) rfl (by kernel_rfl) (by kernel_rfl) (by kernel_rfl) (fun _ _ _ h => h) (Or.inl ⟨by rfl, ?y2h⟩) (by assumption) ?r2h
    case y2h => (intro w' hSw; (try dsimp only at hSw); go_simp; (try with_reducible rfl))
    try simp only [Act.put, List.getElem_toArray, List.getElem_cons_zero, List.getElem_cons_succ, List.setIfInBounds_toArray, List.set_cons_zero, List.set_cons_succ]
    refine wpAnyH_ready (rs := [3]) (by kernel_rfl) (by simp) ?_
    refine AllReadyH.cons (o := _) rfl (fun K hK => ?_) AllReadyH.nil
    go_simp
    refine (HWO.out xi (by have := HNN.out; omega) _ (R.ext.trans (Ext.drew (Ext.refl W')))).mono ?_
    rintro e w3 ⟨G, cap, rfl, hpa, hE2⟩
    have hx : Ext W' w3 := (Ext.drew (Ext.refl W')).trans hE2
    clear hHeld
    dsimp only
    refine hK.out _ _ ⟨kcell (w1 := W'.drew) (W := W') (fun _ _ _ => rfl) (Nat.le_refl _) hE2, hx.size, hx⟩ (fun hHeld => ?_)
    clear hK K
    try simp only [Act.put, List.getElem_toArray, List.getElem_cons_zero, List.getElem_cons_succ, List.setIfInBounds_toArray, List.set_cons_zero, List.set_cons_succ]
    have HH := hid hHeld
    clear hHeld
    refine wpAnyH_ready (rs := [4]) (by kernel_rfl) (by simp) ?_
    refine AllReadyH.cons (o := _) rfl (fun K hK => ?_) AllReadyH.nil
    go_simp
    refine (HL.out (closeAt ps xi) (HCN.out xi) (HCL.out xi) _ cap _ hpa _ _ _ _ (blk_ext R.b1 hx) (blk_ext R.b2 hx) (blk_ext R.b3 hx) (blk_ext R.b4 hx)).mono ?_
    rintro e w4 ⟨he, hE3⟩
    obtain rfl := he.trans (by rw [← HVB.out])
    dsimp only
    have hx4 : Ext W' w4 := hx.trans hE3
    refine hK.out _ _ ⟨kcell HH.out.1 HH.out.2.1 hE3, hx4.size, hx4⟩ (fun hHeld => ?_)
    clear hK K
    try simp only [Act.put, List.getElem_toArray, List.getElem_cons_zero, List.getElem_cons_succ, List.setIfInBounds_toArray, List.set_cons_zero, List.set_cons_succ]
    refine wpAnyH_done (by kernel_rfl) ?_ _
    simp only [Exit.then]
    rename_i K hK
    refine hK _ _ ?_
    clear hK K hHeld HH hE3 hE2 hx hpa he
    cases hvb : vb xi
    · have HVF := hid hvb
      clear hvb
      gi_wp2
      exact .no hx4 HVF.out
    · have HVF := hid hvb
      clear hvb
      have hz4 := blk_ext hz0 hx4
      have c8 := blk_cell hz4 0
      have f8 := blk_fro hz4 0
      simp only [List.getElem?_toArray, List.getElem?_cons_zero] at c8
      have s4 : w2.heap.size < w4.heap.size := by have := R.size; have := hx4.size; omega
      have HZ4 := hid hz4
      have HO4 := hid (ho0.ext hx4)
      have HOB := hid ho0.block
      have hvl : (vo (itIdx pre)).length ≤ 1000 := by
        have h1 := HVL.out (itIdx pre)
        simp only [itIdx, List.length_map] at h1
        simp only [itIdx]
        omega
      clear c0 c1 c2 c3 c4 c5 c6 hz0 ho0 hz4
      gi_wp2_with (gi_at_builtin; refine wpListIn_append_ints _ rfl rfl _ _ rfl (w2.heap.size + 2) v0 (vo (itIdx pre)) (by rfl) (HO4.out.ext (ext_alloc1 _ _)) ⟨w4.heap.size, 0, none⟩ (xi : Int) (by rfl) (blk_cell (heap_alloc_new w4 _) 0) hvl (by simp; have := R.size; have := hx4.size; omega) ?_; intro v' w9 hown9 hg9; obtain ⟨A9, k9, rfl, -⟩ := hown9.form; have hz9 : w9.heap[w2.heap.size]? = some (.cells #[v0] 29 (0, 0)) := (hg9.block _ (by simp; omega) (fun e => by have := HOB.out _ e.symm; omega)).trans (blk_ext HZ4.out (ext_alloc1 _ _)); have c9 := blk_cell hz9 0; have f9 := blk_fro hz9 0; simp only [List.getElem?_toArray, List.getElem?_cons_zero] at c9; have s9 := (Array.getElem?_eq_some_iff.1 hz9).1; have HO9 := hid hown9; have HG := hid hg9; clear hown9 hg9 hz9)
      exact .yes (hx4.alloc _) HVF.out (blk_ext HZ4.out (ext_alloc1 _ _)) (HO4.out.ext (ext_alloc1 _ _)) HG.out (by have h := HO9.out; rw [List.length_append] at h; exact h)
  case done =>
    rintro D' xs W' hD hS ⟨R, hb⟩ hDk
    obtain ⟨v0, hz0, ho0⟩ := R.z0
    have c6 := blk_cell hz0 0
    simp only [List.getElem?_toArray, List.getElem?_cons_zero] at c6
    rw [hS] at R ho0
    gi_wp2
    refine ⟨by simp, .inl ⟨_, _, rfl, run_takeDeferred hDk, ?_⟩⟩
    exact ⟨_, results_tmp2 rfl _ _ _, .inr ⟨by omega, v0, rfl, ho0.done (by omega) hDk, ext_putObj R.ext (by have := EWL.size; omega)⟩⟩
  case stop =>
    rintro D' cc pre W' hD hS h
    exact h.elim
end Go.Proofs.Ytndoghcglbpllaa
