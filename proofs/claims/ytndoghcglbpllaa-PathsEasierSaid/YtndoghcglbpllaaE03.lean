/- The functions of layer 1 that compute with numbers alone. -/
import Derived.Test.YtndoghcglbpllaaE01
import Derived.Test.YtndoghcglbpllaaE02
import Derived.Shelf.Abstract
import Derived.Deep.RegionHeld3
set_option linter.unusedSimpArgs false
set_option linter.unusedVariables false
namespace Go.Proofs.Ytndoghcglbpllaa
open Go.RowKit

set_option maxHeartbeats 400000 in
theorem within_any (a b c : Int) (w : World) :
    Calls Try.prog 42 #[.int .i64 a, .int .i64 b, .int .i64 c] w fun e w' => e = .returned (.bool (decide (b ≤ a) && decide (a ≤ c))) ∧ w' = w := by
  go_enter Try.func42, Try.ntmps42
  go_wp2
  all_goals (go_ret; exact ⟨ret_bool (by first | (simp [*]; done) | (simp [*]; omega)), rfl⟩)
set_option maxHeartbeats 400000 in
theorem isSpan_any (l h b c : Int) (w : World) :
    Calls Try.prog 44 #[.agg #[.int .i64 l, .int .i64 h], .int .i64 b, .int .i64 c] w fun e w' => e = .returned (.bool (decide (b ≤ l) && decide (l ≤ h) && decide (h ≤ c))) ∧ Ext w w' := by
  go_enter Try.func44, Try.ntmps44
  go_wp2
  all_goals (go_ret; exact ⟨ret_bool (by first | (simp [*]; done) | (simp [*]; omega)), by (repeat' (first | with_reducible assumption | with_reducible exact Ext.refl _ | with_reducible refine Ext.alloc ?_ _ | with_reducible refine Ext.set ?_ ?_ _ | with_reducible refine Ext.drew ?_ | with_reducible refine Ext.drewN ?_ _ | with_reducible refine Ext.trans ?_ (by assumption) | (dsimp only; omega)))⟩)
set_option maxHeartbeats 400000 in
theorem isWithin_any (l h b c : Int) (w : World) :
    Calls Try.prog 96 #[.agg #[.int .i64 l, .int .i64 h], .int .i64 b, .int .i64 c] w fun e w' => e = .returned (.bool (decide (b ≤ l) && decide (l ≤ h) && decide (h ≤ c))) ∧ Ext w w' := by
  go_enter Try.func96, Try.ntmps96
  go_wp2
  all_goals (go_ret; exact ⟨ret_bool (by first | (simp [*]; done) | (simp [*]; omega)), by (repeat' (first | with_reducible assumption | with_reducible exact Ext.refl _ | with_reducible refine Ext.alloc ?_ _ | with_reducible refine Ext.set ?_ ?_ _ | with_reducible refine Ext.drew ?_ | with_reducible refine Ext.drewN ?_ _ | with_reducible refine Ext.trans ?_ (by assumption) | (dsimp only; omega)))⟩)
set_option maxHeartbeats 400000 in
theorem validGrade_any (a : Int) (w : World) :
    Calls Try.prog 94 #[.int .i64 a] w fun e w' => e = .returned (.bool (decide (1 ≤ a) && decide (a ≤ 6))) ∧ w' = w := by
  go_enter Try.func94, Try.ntmps94
  go_wp2
  all_goals (go_ret; exact ⟨ret_bool (by first | (simp [*]; done) | (simp [*]; omega)), rfl⟩)
set_option maxHeartbeats 400000 in
theorem isMinute_any (a : Int) (w : World) :
    Calls Try.prog 72 #[.int .i64 a] w fun e w' => e = .returned (.bool (decide (0 ≤ a) && decide (a ≤ 2880))) ∧ w' = w := by
  go_enter Try.func72, Try.ntmps72
  go_wp2_with (go_at_call 42; refine (within_any _ _ _ _).mono ?_; rintro e w' ⟨rfl, rfl⟩)
  go_ret
  exact ⟨rfl, rfl⟩
set_option maxHeartbeats 400000 in
theorem isPlace_any (m a : Int) (v : Value) (w : World) :
    Calls Try.prog 81 #[.agg #[.int .i64 m, v], .int .i64 a] w fun e w' => e = .returned (.bool (decide (0 ≤ a) && decide (a < m))) ∧ Ext w w' := by
  go_enter Try.func81, Try.ntmps81
  go_wp2
  all_goals (go_ret; exact ⟨ret_bool (by first | (simp [*]; done) | (simp [*]; omega)), by (repeat' (first | with_reducible assumption | with_reducible exact Ext.refl _ | with_reducible refine Ext.alloc ?_ _ | with_reducible refine Ext.set ?_ ?_ _ | with_reducible refine Ext.drew ?_ | with_reducible refine Ext.drewN ?_ _ | with_reducible refine Ext.trans ?_ (by assumption) | (dsimp only; omega)))⟩)
set_option maxHeartbeats 400000 in
theorem isPath_any (a : Int) (v : Value) (A : Option Addr) (n c : Nat) (w : World) :
    Calls Try.prog 46 #[.agg #[v, .slice A n c], .int .i64 a] w fun e w' => e = .returned (.bool (decide (0 ≤ a) && decide (a < n))) ∧ Ext w w' := by
  go_enter Try.func46, Try.ntmps46
  go_wp2
  all_goals (go_ret; exact ⟨ret_bool (by first | (simp [*]; done) | (simp [*]; omega)), by (repeat' (first | with_reducible assumption | with_reducible exact Ext.refl _ | with_reducible refine Ext.alloc ?_ _ | with_reducible refine Ext.set ?_ ?_ _ | with_reducible refine Ext.drew ?_ | with_reducible refine Ext.drewN ?_ _ | with_reducible refine Ext.trans ?_ (by assumption) | (dsimp only; omega)))⟩)
set_option maxHeartbeats 400000 in
theorem rIsPlace_any (m a : Int) (v : Value) (h1 : 0 ≤ m) (h2 : m ≤ 1000) (w : World) :
    Calls Try.prog 43 #[.agg #[.int .i64 m, v], .int .i64 a] w fun e w' => e = .returned (.bool (decide (0 ≤ a) && decide (a < m))) ∧ Ext w w' := by
  go_enter Try.func43, Try.ntmps43
  go_wp2_with (go_at_call 42; refine (within_any _ _ _ _).mono ?_; rintro e w' ⟨rfl, rfl⟩)
  go_ret
  exact ⟨ret_bool (by congr 1; simp; omega), by (repeat' (first | with_reducible assumption | with_reducible exact Ext.refl _ | with_reducible refine Ext.alloc ?_ _ | with_reducible refine Ext.set ?_ ?_ _ | with_reducible refine Ext.drew ?_ | with_reducible refine Ext.drewN ?_ _ | with_reducible refine Ext.trans ?_ (by assumption) | (dsimp only; omega)))⟩
set_option maxHeartbeats 400000 in
theorem rIsPath_any (a : Int) (v : Value) (A : Option Addr) (n c : Nat) (h2 : n ≤ 1000) (w : World) :
    Calls Try.prog 38 #[.agg #[v, .slice A n c], .int .i64 a] w fun e w' => e = .returned (.bool (decide (0 ≤ a) && decide (a < n))) ∧ Ext w w' := by
  go_enter Try.func38, Try.ntmps38
  go_wp2_with (go_at_call 42; refine (within_any _ _ _ _).mono ?_; rintro e w' ⟨rfl, rfl⟩)
  go_ret
  exact ⟨ret_bool (by congr 1; simp; omega), by (repeat' (first | with_reducible assumption | with_reducible exact Ext.refl _ | with_reducible refine Ext.alloc ?_ _ | with_reducible refine Ext.set ?_ ?_ _ | with_reducible refine Ext.drew ?_ | with_reducible refine Ext.drewN ?_ _ | with_reducible refine Ext.trans ?_ (by assumption) | (dsimp only; omega)))⟩
set_option maxHeartbeats 400000 in
theorem sureEnd_any (l h : Int) (w : World) :
    Calls Try.prog 70 #[.agg #[.int .i64 l, .int .i64 h]] w fun e w' => e = .returned (.int .i64 h) ∧ Ext w w' := by
  go_enter Try.func70, Try.ntmps70
  go_wp2
  all_goals (go_ret; exact ⟨rfl, by (repeat' (first | with_reducible assumption | with_reducible exact Ext.refl _ | with_reducible refine Ext.alloc ?_ _ | with_reducible refine Ext.set ?_ ?_ _ | with_reducible refine Ext.drew ?_ | with_reducible refine Ext.drewN ?_ _ | with_reducible refine Ext.trans ?_ (by assumption) | (dsimp only; omega)))⟩)
set_option maxHeartbeats 400000 in
theorem bestEnd_any (l h : Int) (w : World) :
    Calls Try.prog 87 #[.agg #[.int .i64 l, .int .i64 h]] w fun e w' => e = .returned (.int .i64 l) ∧ Ext w w' := by
  go_enter Try.func87, Try.ntmps87
  go_wp2
  all_goals (go_ret; exact ⟨rfl, by (repeat' (first | with_reducible assumption | with_reducible exact Ext.refl _ | with_reducible refine Ext.alloc ?_ _ | with_reducible refine Ext.set ?_ ?_ _ | with_reducible refine Ext.drew ?_ | with_reducible refine Ext.drewN ?_ _ | with_reducible refine Ext.trans ?_ (by assumption) | (dsimp only; omega)))⟩)
set_option maxHeartbeats 400000 in
theorem longest_any (m : Int) (v2 v3 v4 v5 v6 : Value) (h1 : 0 ≤ m) (h2 : m ≤ 1000) (w : World) :
    Calls Try.prog 86 #[.agg #[.int .i64 m, v2, v3, v4, v5, v6]] w fun e w' => e = .returned (.int .i64 (m - 1)) ∧ Ext w w' := by
  go_enter Try.func86, Try.ntmps86
  go_wp2
  all_goals (go_ret; exact ⟨rfl, by (repeat' (first | with_reducible assumption | with_reducible exact Ext.refl _ | with_reducible refine Ext.alloc ?_ _ | with_reducible refine Ext.set ?_ ?_ _ | with_reducible refine Ext.drew ?_ | with_reducible refine Ext.drewN ?_ _ | with_reducible refine Ext.trans ?_ (by assumption) | (dsimp only; omega)))⟩)
set_option maxHeartbeats 400000 in
theorem can_any (g h : Int) (u1 u2 u3 u4 u5 v2 v3 v4 v5 v6 v7 v8 : Value) (w : World) :
    Calls Try.prog 47 #[.agg #[u1, u2, .int .i64 h, u3, u4, u5], .agg #[v2, v3, .int .i64 g, v4, v5, v6, v7, v8]] w fun e w' => e = .returned (.bool (decide (g ≤ h))) ∧ Ext w w' := by
  go_enter Try.func47, Try.ntmps47
  go_wp2
  all_goals (go_ret; exact ⟨rfl, by (repeat' (first | with_reducible assumption | with_reducible exact Ext.refl _ | with_reducible refine Ext.alloc ?_ _ | with_reducible refine Ext.set ?_ ?_ _ | with_reducible refine Ext.drew ?_ | with_reducible refine Ext.drewN ?_ _ | with_reducible refine Ext.trans ?_ (by assumption) | (dsimp only; omega)))⟩)
set_option maxHeartbeats 400000 in
theorem span_any (l h : Int) (w : World) :
    Calls Try.prog 75 #[.int .i64 l, .int .i64 h] w fun e w' => e = .returned (.agg #[.int .i64 l, .int .i64 h]) ∧ Ext w w' := by
  go_enter Try.func75, Try.ntmps75
  go_wp2
  exact bodyPost_ret (v := .agg #[.int .i64 l, .int .i64 h]) (by simp [results, Try.results75, go_sem]) rfl ⟨rfl, by (repeat' (first | with_reducible assumption | with_reducible exact Ext.refl _ | with_reducible refine Ext.alloc ?_ _ | with_reducible refine Ext.set ?_ ?_ _ | with_reducible refine Ext.drew ?_ | with_reducible refine Ext.drewN ?_ _ | with_reducible refine Ext.trans ?_ (by assumption) | (dsimp only; omega)))⟩

end Go.Proofs.Ytndoghcglbpllaa
/- The paths that a party can walk, yielded one by one. -/
set_option linter.unusedSimpArgs false
set_option linter.unusedVariables false
namespace Go.Proofs.Ytndoghcglbpllaa
open Go.RowKit
attribute [local go_sem] Oper.semAt_some

theorem grown_of_ext {w w' : World} (h : Ext w w') : w.grownBy w' none := ⟨Below.os h, Below.tape h, Below.output h, Below.size h, fun k hk _ => Below.block h k hk⟩
theorem abides_ext {β : Type} {B : Nat} {J : β → World → Prop} (hJ : AbidesFrom B J) {s : β} {W W' : World} (h : J s W) (e : Ext W W') : J s W' := hJ s W W' none h (grown_of_ext e) (fun r hr => by cases hr)

theorem filter_one {α : Type} (p : α → Bool) (a : α) : [a].filter p = if p a = true then [a] else [] := by simp only [List.filter_cons, List.filter_nil]
def okB (ps : List Pt) (g : Int) (i : Nat) : Bool := decide ((ps.getD i zeroPt).grade ≤ g)
def walkIdx (ps : List Pt) (g : Int) (k : Nat) : List Nat := (List.range k).filter (okB ps g)
theorem walkIdx_yes {ps : List Pt} {g : Int} {k : Nat} (h : (ps.getD k zeroPt).grade ≤ g) : walkIdx ps g (k + 1) = walkIdx ps g k ++ [k] := by
  unfold walkIdx; rw [List.range_succ, List.filter_append, filter_one]; unfold okB; first | rw [if_pos (decide_eq_true h)] | rw [if_neg (by simpa using h), List.append_nil]
theorem walkIdx_no {ps : List Pt} {g : Int} {k : Nat} (h : ¬ (ps.getD k zeroPt).grade ≤ g) : walkIdx ps g (k + 1) = walkIdx ps g k := by
  unfold walkIdx; rw [List.range_succ, List.filter_append, filter_one]; unfold okB; first | rw [if_pos (decide_eq_true h)] | rw [if_neg (by simpa using h), List.append_nil]
theorem walkIdx_len (ps : List Pt) (g : Int) (k : Nat) : (walkIdx ps g k).length ≤ k := by
  unfold walkIdx; exact Nat.le_trans (List.length_filter_le _ _) (by simp)
theorem walkIdx_prefix (ps : List Pt) (g : Int) {k n : Nat} (h : k ≤ n) : walkIdx ps g k <+: walkIdx ps g n := by
  obtain ⟨d, rfl⟩ : ∃ d, n = k + d := ⟨n - k, by omega⟩
  unfold walkIdx
  rw [List.range_add, List.filter_append]
  exact List.prefix_append _ _

/-- What comes: a path that the party can walk, as it lies in memory. -/
abbrev It (w0 : World) (b off : Nat) (ps : List Pt) (g : Int) := { x : Nat × Option Addr × Nat // x.1 < ps.length ∧ (ps.getD x.1 zeroPt).grade ≤ g ∧ PtAt w0 b (off + x.1 * 8) (ps.getD x.1 zeroPt) x.2.1 x.2.2 }
def itEnc {w0 : World} {b off : Nat} {ps : List Pt} {g : Int} (x : It w0 b off ps g) : Array Value := #[.int .i64 (x.1.1 : Int), (ps.getD x.1.1 zeroPt).val x.1.2.1 x.1.2.2]
def itIdx {w0 : World} {b off : Nat} {ps : List Pt} {g : Int} (xs : List (It w0 b off ps g)) : List Nat := xs.map (·.1.1)

def wbox (m g l pl ph : Int) (A : Option Addr) (n c : Nat) : Array Value := #[.int .i64 m, .slice A n c, .int .i64 g, .int .i64 l, .int .i64 pl, .int .i64 ph]
theorem blk_cell {w : World} {g : Nat} {cs : Array Value} {t : TypeId} (h : w.heap[g]? = some (.cells cs t (0, 0))) (i : Nat) : w.cell? ⟨g, i, none⟩ = cs[i]? := cell_of_row w g i cs t (0, 0) h
theorem blk_ext {w w' : World} {g : Nat} {o : Obj} (h : w.heap[g]? = some o) (e : Ext w w') : w'.heap[g]? = some o := (Below.block e g (Array.getElem?_eq_some_iff.1 h).1).trans h

set_option maxHeartbeats 1000000 in
theorem walkable_any (m g l pl ph : Int) (A : Option Addr) (n c : Nat) (w : World) :
    Calls Try.prog 63 #[.agg (wbox m g l pl ph A n c)] w fun e w' => e = .returned (.func (.func 91) #[] #[.pointer (some ⟨w.heap.size, 0, none⟩)]) ∧ w' = w.alloc (.cells (wbox m g l pl ph A n c) 70) := by
  unfold wbox
  go_enter Try.func63, Try.ntmps63
  go_wp2
  go_ret
  exact ⟨rfl, rfl⟩

set_option maxRecDepth 100000 in
set_option maxHeartbeats 2000000 in
theorem walk1_in (N : Nat) (hN : 3 ≤ N) (w0 : World) (b off : Nat) (m g l pl ph : Int) (n c : Nat) (ps : List Pt) (hn : ps.length = n) (hm : n ≤ 1000) (A : Option Addr) (hA : 0 < n → A = some ⟨b, off, none⟩ ∧ b < w0.heap.size)
    (hp : ∀ k, k < ps.length → ∃ A' c', PtAt w0 b (off + k * 8) (ps.getD k zeroPt) A' c') (Bc lp : Nat) (J Jx : List (It w0 b off ps g) → World → Prop) (W : World)
    (hE0 : Ext w0 W) (hJ : AbidesFrom W.heap.size J)
    (hY : ∀ pre x W1, J pre W1 → pre.length < n → YieldAt Fence.wide (N - 1) Try.prog lp (itEnc x) W1 fun e W' =>
      (e = .returned (.bool true) ∧ J (pre ++ [x]) W' ∧ KpB w0.heap.size Bc W1 W') ∨ (e = .returned (.bool false) ∧ Jx (pre ++ [x]) W'))
    (hbox : W.heap[Bc]? = some (.cells (wbox m g l pl ph A n c) 70 (0, 0))) (h0 : J [] W) :
    CallsIn Fence.wide N Try.prog 91 #[.func (.yield lp) #[] #[], .pointer (some ⟨Bc, 0, none⟩)] W fun e W' => (∃ v, e = .returned v) ∧
      ((∃ xs, itIdx xs = walkIdx ps g n ∧ J xs W') ∨ (∃ pre, itIdx pre <+: walkIdx ps g n ∧ Jx pre W')) := by
  have HJ := hid hJ
  have HY := hid hY
  have HP := hid hp
  have HA := hid hA
  clear hJ hY hp hA
  have c0 := blk_cell hbox 0
  have c1 := blk_cell hbox 1
  simp only [wbox] at c0 c1
  have HB := hid hbox
  clear hbox
  refine callsIn_of_wp Try.func91 rfl trivial ?_ rfl
  simp only [Try.ntmps91, List.size_toArray, List.length_cons, List.length_nil, Nat.reduceAdd, Nat.reduceSub, Array.replicate_succ, Array.replicate_zero, List.push_toArray, List.append_toArray, List.nil_append, List.cons_append]
  gi_wp2
  clear c0 c1
  gi_loopw [9] (fun i wr => Ext w0 wr ∧ Hid (wr.heap[Bc]? = some (.cells (wbox m g l pl ph A n c) 70 (0, 0))) ∧ W.heap.size ≤ wr.heap.size ∧ ∃ (k : Nat) (pre : List (It w0 b off ps g)), k ≤ n ∧ i = .int .i64 k ∧ Hid (itIdx pre = walkIdx ps g k) ∧ J pre wr) (fun i _ => n - (intOf i).toNat)
  case atStart => exact ⟨hE0, HB, Nat.le_refl _, 0, [], by omega, rfl, hid rfl, h0⟩
  case round =>
    obtain ⟨hE1, HBr, hz, k, pre, hk, rfl, HI, hJs⟩ := hrel
    have HJS := hid hJs
    clear hJs
    by_cases hlt : k < n
    · obtain ⟨rfl, hb⟩ := HA.out (by omega)
      obtain ⟨A', c', hpt⟩ := HP.out k (by omega)
      obtain ⟨p, hpk⟩ : ∃ p, ps.getD k zeroPt = p := ⟨_, rfl⟩
      have HPK := hid hpk
      have hpt' := hpt.ext hb hE1
      rw [hpk] at hpt'
      clear hpk
      have HPT := hid hpt
      clear hpt
      obtain ⟨c0, c1, c2, c3, c4, c5, c6, c7, -, -⟩ := hpt'
      have b0 := blk_cell HBr.out 0
      have b1 := blk_cell HBr.out 1
      have b2 := blk_cell HBr.out 2
      have b3 := blk_cell HBr.out 3
      have b4 := blk_cell HBr.out 4
      have b5 := blk_cell HBr.out 5
      simp only [wbox] at b0 b1 b2 b3 b4 b5
      have hbr : b < wr.heap.size := Nat.lt_of_lt_of_le hb hE1.size
      have hBc : Bc < wr.heap.size := (Array.getElem?_eq_some_iff.1 HBr.out).1
      have hgr : (p.grade ≤ g) = ((ps.getD k zeroPt).grade ≤ g) := by rw [HPK.out]
      have HGR := hid hgr
      clear hgr
      gi_wp2_with fail
      refine ⟨trivial, fun hh => absurd hh (by simp [Fence.wide]), ?_⟩
      refine (callsIn_wide.2 (can_any _ _ _ _ _ _ _ _ _ _ _ _ _ _ _)).mono ?_
      rintro e w2 ⟨rfl, hE⟩
      (first | (have hK := KC.step (n := wr.heap.size + 1) (by with_reducible assumption) hE) | (have hK := KC.step (KC.step (n := wr.heap.size + 1) (by with_reducible assumption) (ext_alloc1 _ _)) hE) | (have hK := KC.step (KC.refl (n := wr.heap.size + 1) (by simp)) hE)); have hC := hK.cell; have hF := hK.fro; have hX := hK.ext
      have hE2 : Ext wr w2 := by (repeat' (first | with_reducible assumption | with_reducible exact Ext.refl _ | with_reducible refine Ext.alloc ?_ _ | with_reducible refine Ext.set ?_ ?_ _ | with_reducible refine Ext.drew ?_ | with_reducible refine Ext.drewN ?_ _ | with_reducible refine Ext.trans ?_ (by assumption) | (dsimp only; omega)))
      have hE02 : Ext w0 w2 := hE1.trans hE2
      have hbx2 := hid (blk_ext HBr.out hE2)
      have HJ2 := hid (abides_ext HJ.out HJS.out hE2)
      have hlen : pre.length < n := by
        have h1 := congrArg List.length HI.out
        have h2 := walkIdx_len ps g k
        simp only [itIdx, List.length_map] at h1
        omega
      clear c0 c1 c2 c3 c4 c5 c6 c7 b0 b1 b2 b3 b4 b5
      by_cases hgp : p.grade ≤ g
      · obtain ⟨xit, hxi⟩ : ∃ x : It w0 b off ps g, x.1 = (k, A', c') := ⟨⟨(k, A', c'), (by omega : k < ps.length), Eq.mp HGR.out hgp, HPT.out⟩, rfl⟩
        obtain ⟨fn, tmps, assign, body, hy, hR⟩ := HY.out pre xit w2 HJ2.out hlen
        have hen : itEnc xit = #[.int .i64 (k : Int), p.val A' c'] := by unfold itEnc; rw [hxi]; dsimp only; rw [HPK.out]
        have hidx : itIdx (pre ++ [xit]) = walkIdx ps g (k + 1) := by
          rw [walkIdx_yes (by rw [HPK.out]; exact hgp), ← HI.out]
          simp [itIdx, hxi]
        have HIDX := hid hidx
        clear hidx hxi
        rw [hen] at hy
        simp only [Pt.val] at hy
        clear hen
        have HR := hid hR
        clear hR
        gi_wp2
        refine ⟨fun hh => absurd hh (by simp [Fence.wide]), ?_⟩
        refine HR.out.mono ?_
        rintro e W3 (⟨rfl, hJ3, hk3⟩ | ⟨rfl, hJx3⟩)
        · have hE03 : Ext w0 W3 := Below.trans hE02 hk3.1
          have hbx3 := hid (hk3.2.trans hbx2.out)
          have hz3 : W.heap.size ≤ W3.heap.size := Nat.le_trans hz (Nat.le_trans hE2.size hk3.1.size)
          have HJ3 := hid hJ3
          clear hJ3 hk3
          gi_wp2
          go_roundw
          case rel => exact ⟨hE03, hbx3, hz3, k + 1, pre ++ [xit], by omega, by go_num, HIDX, HJ3.out⟩
          case measure => simp [intOf]; omega
        · have HJX := hid hJx3
          clear hJx3
          gi_wp2
          refine bodyPost_ret (results_none rfl _ _ _) rfl ?_
          exact ⟨⟨_, rfl⟩, .inr ⟨pre ++ [xit], HIDX.out ▸ walkIdx_prefix ps g (by omega), HJX.out⟩⟩
      · have hidx : itIdx pre = walkIdx ps g (k + 1) := by rw [walkIdx_no (by rw [HPK.out]; exact hgp), HI.out]
        have HIDX := hid hidx
        clear hidx
        gi_wp2
        refine ⟨fun _ h => (by cases h), ?_⟩
        gi_wp2
        go_roundw
        case rel => exact ⟨hE02, hbx2, by have := hE2.size; omega, k + 1, pre, by omega, by go_num, HIDX, HJ2.out⟩
        case measure => simp [intOf]; omega
    · gi_wp2
      go_end0
      obtain rfl : k = n := by omega
      exact ⟨⟨_, rfl⟩, .inl ⟨pre, HI.out, HJS.out⟩⟩

/-- The iterator's contract. -/
theorem walk_stops (N : Nat) (hN : 3 ≤ N) (w0 : World) (b off : Nat) (m g l pl ph : Int) (n c : Nat) (ps : List Pt) (hn : ps.length = n) (hm : n ≤ 1000) (A : Option Addr) (hA : 0 < n → A = some ⟨b, off, none⟩ ∧ b < w0.heap.size)
    (hp : ∀ k, k < ps.length → ∃ A' c', PtAt w0 b (off + k * 8) (ps.getD k zeroPt) A' c') (Bc : Nat) (w : World) (hE0 : Ext w0 w)
    (hbox : w.heap[Bc]? = some (.cells (wbox m g l pl ph A n c) 70 (0, 0))) :
    SeqStopsK Fence.wide N Try.prog 91 #[.pointer (some ⟨Bc, 0, none⟩)] (itEnc (w0 := w0) (b := b) (off := off) (ps := ps) (g := g)) (KpB w0.heap.size Bc) (fun xs => itIdx xs = walkIdx ps g n) (fun pre => itIdx pre <+: walkIdx ps g n) n w :=
  fun lp J Jx W hW hJ _ hY h0 => walk1_in N hN w0 b off m g l pl ph n c ps hn hm A hA hp Bc lp J Jx W (hE0.trans hW) hJ hY (blk_ext hbox hW) h0
end Go.Proofs.Ytndoghcglbpllaa
/- Times, entries and arrivals. -/
set_option linter.unusedSimpArgs false
set_option linter.unusedVariables false
namespace Go.Proofs.Ytndoghcglbpllaa
open Go.RowKit

/-- The time of a path, in minutes. -/
def timeOf (t p s l : Int) : Int := (t * p * (100 + 5 * s + l) + 9999) / 10000

theorem prod_bd (a b A B : Int) (h0 : 0 ≤ a) (h1 : a ≤ A) (h2 : 0 ≤ b) (h3 : b ≤ B) : 0 ≤ a * b ∧ a * b ≤ A * B :=
  ⟨Int.mul_nonneg h0 h2, Int.mul_le_mul h1 h3 h2 (by omega)⟩

set_option maxHeartbeats 400000 in
theorem rTime_any (t p s l : Int) (ht : 1 ≤ t) (ht' : t ≤ 600) (hp : 50 ≤ p) (hp' : p ≤ 300) (hs : 0 ≤ s) (hs' : s ≤ 30) (hl : 0 ≤ l) (hl' : l ≤ 40) (w : World) :
    Calls Try.prog 74 #[.int .i64 t, .int .i64 p, .int .i64 s, .int .i64 l] w fun e w' => e = .returned (.int .i64 (timeOf t p s l)) ∧ w' = w := by
  have ⟨h1, h2⟩ := prod_bd t p 600 300 (by omega) ht' (by omega) hp'
  have ⟨h3, h4⟩ := prod_bd (t * p) (100 + 5 * s + l) (600 * 300) 290 h1 h2 (by omega) (by omega)
  go_enter Try.func74, Try.ntmps74
  go_wp2
  all_goals (go_ret; exact ⟨rfl, rfl⟩)

set_option maxHeartbeats 400000 in
theorem minutes_any (t p s l : Int) (v1 v2 v3 v4 v5 : Value) (ht : 1 ≤ t) (ht' : t ≤ 600) (hp : 50 ≤ p) (hp' : p ≤ 300) (hs : 0 ≤ s) (hs' : s ≤ 30) (hl : 0 ≤ l) (hl' : l ≤ 40) (w : World) :
    Calls Try.prog 84 #[.agg #[v1, v2, v3, .int .i64 l, v4, v5], .int .i64 t, .int .i64 p, .int .i64 s] w fun e w' => e = .returned (.int .i64 (timeOf t p s l)) ∧ Ext w w' := by
  have ⟨h1, h2⟩ := prod_bd t p 600 300 (by omega) ht' (by omega) hp'
  have ⟨h3, h4⟩ := prod_bd (t * p) (100 + 5 * s + l) (600 * 300) 290 h1 h2 (by omega) (by omega)
  go_enter Try.func84, Try.ntmps84
  go_wp2
  all_goals (go_ret; exact ⟨ret_int (by unfold timeOf; congr 1; omega), by (repeat' (first | with_reducible assumption | with_reducible exact Ext.refl _ | with_reducible refine Ext.alloc ?_ _ | with_reducible refine Ext.set ?_ ?_ _ | with_reducible refine Ext.drew ?_ | with_reducible refine Ext.drewN ?_ _ | with_reducible refine Ext.trans ?_ (by assumption) | (dsimp only; omega)))⟩)
end Go.Proofs.Ytndoghcglbpllaa
/- The first minute at which a path opens. -/
set_option linter.unusedSimpArgs false
set_option linter.unusedVariables false
namespace Go.Proofs.Ytndoghcglbpllaa
open Go.RowKit

def enterStep (t : Int) (first : Int) (o : Int × Int) : Int := if t ≤ o.2 then min first (max t o.1) else first
/-- The first minute, not before t, at which one of the spans opens. -/
def enter (never : Int) (os : List (Int × Int)) (t : Int) : Int := os.foldl (enterStep t) never
theorem enter_snoc (never : Int) (os : List (Int × Int)) (t : Int) (k : Nat) (h : k < os.length) : enter never (os.take (k + 1)) t = enterStep t (enter never (os.take k) t) (os.getD k (0, 0)) := by
  unfold enter
  rw [List.take_succ_eq_append_getElem h, List.foldl_append]
  simp [List.getD, List.getElem?_eq_getElem h]
theorem step_yes {t f : Int} {o : Int × Int} (h : t ≤ o.2) : enterStep t f o = if (if t < o.1 then o.1 else t) < f then (if t < o.1 then o.1 else t) else f := by
  unfold enterStep; rw [if_pos h]; omega
theorem step_no {t f : Int} {o : Int × Int} (h : o.2 < t) : enterStep t f o = f := by
  unfold enterStep; rw [if_neg (by omega)]

set_option maxHeartbeats 400000 in
theorem rEnter_any (v0 v1 v2 v3 v4 v5 v6 : Value) (A : Option Addr) (n c : Nat) (os : List (Int × Int)) (hn : os.length = n) (hm : n ≤ 1000) (t : Int) (w : World) (h : OpensAt w A os) :
    Calls Try.prog 73 #[.agg #[v0, v1, v2, v3, v4, v5, v6, .slice A n c], .int .i64 t] w fun e w' => e = .returned (.int .i64 (enter 1073741824 os t)) ∧ Ext w w' := by
  go_enter Try.func73, Try.ntmps73
  go_wp2
  go_loop [5, 6] (fun f i => ∃ k : Nat, k ≤ n ∧ i = .int .i64 k ∧ f = .int .i64 (enter 1073741824 (os.take k) t)) (fun _ i => n - (intOf i).toNat)
  case atStart => exact ⟨0, Nat.zero_le _, rfl, rfl⟩
  case round =>
    obtain ⟨k, hk, rfl, rfl⟩ := hrel
    by_cases hlt : k < n
    · obtain ⟨b, off, rfl, hb, hc⟩ := h (by rintro rfl; simp at hn; omega)
      have hs := enter_snoc 1073741824 os t k (by omega)
      have HS : Hid (enter 1073741824 (os.take (k + 1)) t = enterStep t (enter 1073741824 (os.take k) t) (os.getD k (0, 0))) := hs
      clear hs
      have hck := hc k (by omega)
      obtain ⟨hc1, hc2⟩ := hck
      clear hc
      generalize os.getD k (0, 0) = o at *
      generalize enter 1073741824 (os.take k) t = f at *
      by_cases ht : t ≤ o.2
      · have HT := hid (step_yes (f := f) ht)
        go_wp2
        go_round
        case rel => exact ⟨k + 1, by omega, by go_num, by rw [HS.out, HT.out]⟩
        case measure => simp [intOf]; omega
      · have HT := hid (step_no (f := f) (o := o) (t := t) (by omega))
        go_wp2
        go_round
        case rel => exact ⟨k + 1, by omega, by go_num, by rw [HS.out, HT.out]⟩
        case measure => simp [intOf]; omega
    · have HT := hid (List.take_of_length_le (l := os) (i := k) (by omega))
      go_wp2
      go_ret
      exact ⟨ret_int (by rw [HT.out]), by (repeat' (first | with_reducible assumption | with_reducible exact Ext.refl _ | with_reducible refine Ext.alloc ?_ _ | with_reducible refine Ext.set ?_ ?_ _ | with_reducible refine Ext.drew ?_ | with_reducible refine Ext.drewN ?_ _ | with_reducible refine Ext.trans ?_ (by assumption) | (dsimp only; omega)))⟩

set_option maxHeartbeats 400000 in
theorem entry_any (v0 v1 v2 v3 v4 v5 v6 : Value) (A : Option Addr) (n c : Nat) (os : List (Int × Int)) (hn : os.length = n) (hm : n ≤ 1000) (t : Int) (w : World) (h : OpensAt w A os) :
    Calls Try.prog 93 #[.agg #[v0, v1, v2, v3, v4, v5, v6, .slice A n c], .int .i64 t] w fun e w' => e = .returned (.int .i64 (enter 2881 os t)) ∧ Ext w w' := by
  go_enter Try.func93, Try.ntmps93
  go_wp2

  go_loopw [5, 11] (fun f i wr => Ext w wr ∧ ∃ k : Nat, k ≤ n ∧ i = .int .i64 k ∧ f = .int .i64 (enter 2881 (os.take k) t)) (fun _ i _ => n - (intOf i).toNat)
  case atStart => exact ⟨by (repeat' (first | with_reducible assumption | with_reducible exact Ext.refl _ | with_reducible refine Ext.alloc ?_ _ | with_reducible refine Ext.set ?_ ?_ _ | with_reducible refine Ext.drew ?_ | with_reducible refine Ext.drewN ?_ _ | with_reducible refine Ext.trans ?_ (by assumption) | (dsimp only; omega))), 0, Nat.zero_le _, rfl, rfl⟩
  case round =>
    obtain ⟨hE, k, hk, rfl, rfl⟩ := hrel
    by_cases hlt : k < n
    · obtain ⟨b, off, rfl, hb, hc⟩ := (h.ext hE) (by rintro rfl; simp at hn; omega)
      have hs := enter_snoc 2881 os t k (by omega)
      have HS : Hid (enter 2881 (os.take (k + 1)) t = enterStep t (enter 2881 (os.take k) t) (os.getD k (0, 0))) := hs
      clear hs
      have hck := hc k (by omega)
      obtain ⟨hc1, hc2⟩ := hck
      clear hc h
      generalize os.getD k (0, 0) = o at *
      generalize enter 2881 (os.take k) t = f at *
      by_cases ht : t ≤ o.2
      · have HT := hid (step_yes (f := f) ht)
        go_wp2
        go_roundw
        case rel => exact ⟨by (repeat' (first | with_reducible assumption | with_reducible exact Ext.refl _ | with_reducible refine Ext.alloc ?_ _ | with_reducible refine Ext.set ?_ ?_ _ | with_reducible refine Ext.drew ?_ | with_reducible refine Ext.drewN ?_ _ | with_reducible refine Ext.trans ?_ (by assumption) | (dsimp only; omega))), k + 1, by omega, by go_num, by rw [HS.out, HT.out]⟩
        case measure => simp [intOf]; omega
      · have HT := hid (step_no (f := f) (o := o) (t := t) (by omega))
        go_wp2
        go_roundw
        case rel => exact ⟨by (repeat' (first | with_reducible assumption | with_reducible exact Ext.refl _ | with_reducible refine Ext.alloc ?_ _ | with_reducible refine Ext.set ?_ ?_ _ | with_reducible refine Ext.drew ?_ | with_reducible refine Ext.drewN ?_ _ | with_reducible refine Ext.trans ?_ (by assumption) | (dsimp only; omega))), k + 1, by omega, by go_num, by rw [HS.out, HT.out]⟩
        case measure => simp [intOf]; omega
    · have HT := hid (List.take_of_length_le (l := os) (i := k) (by omega))
      go_wp2
      go_ret
      exact ⟨ret_int (by rw [HT.out]), by (repeat' (first | with_reducible assumption | with_reducible exact Ext.refl _ | with_reducible refine Ext.alloc ?_ _ | with_reducible refine Ext.set ?_ ?_ _ | with_reducible refine Ext.drew ?_ | with_reducible refine Ext.drewN ?_ _ | with_reducible refine Ext.trans ?_ (by assumption) | (dsimp only; omega)))⟩
end Go.Proofs.Ytndoghcglbpllaa
set_option linter.unusedSimpArgs false
set_option linter.unusedVariables false
namespace Go.Proofs.Ytndoghcglbpllaa
open Go.RowKit
set_option maxHeartbeats 1000000 in
theorem wtime_any (f d g tl th sl sh gr l pl ph : Int) (v1 v2 v7 : Value) 
    (h1 : 1 ≤ tl) (h2 : tl ≤ th) (h3 : th ≤ 600) (h4 : 50 ≤ pl) (h5 : pl ≤ ph) (h6 : ph ≤ 300) (h7 : 0 ≤ sl) (h8 : sl ≤ sh) (h9 : sh ≤ 30) (hl : 0 ≤ l) (hl' : l ≤ 40) (w : World) :
    Calls Try.prog 48 #[.agg #[v1, v2, .int .i64 gr, .int .i64 l, .int .i64 pl, .int .i64 ph], .agg #[.int .i64 f, .int .i64 d, .int .i64 g, .int .i64 tl, .int .i64 th, .int .i64 sl, .int .i64 sh, v7]] w fun e w' =>
      e = .returned (.agg #[.int .i64 (timeOf tl pl sl l), .int .i64 (timeOf th ph sh l)]) ∧ Ext w w' := by
  go_enter Try.func48, Try.ntmps48
  go_wp2
  refine wp_abs (fun W => (W.cell? ⟨w.heap.size, 0, none⟩ = some v1 ∧ W.cell? ⟨w.heap.size, 1, none⟩ = some v2 ∧ W.cell? ⟨w.heap.size, 2, none⟩ = some (.int .i64 gr) ∧ W.cell? ⟨w.heap.size, 3, none⟩ = some (.int .i64 l) ∧ W.cell? ⟨w.heap.size, 4, none⟩ = some (.int .i64 pl) ∧ W.cell? ⟨w.heap.size, 5, none⟩ = some (.int .i64 ph) ∧
     W.cell? ⟨w.heap.size + 1, 3, none⟩ = some (.int .i64 tl) ∧ W.cell? ⟨w.heap.size + 1, 4, none⟩ = some (.int .i64 th) ∧ W.cell? ⟨w.heap.size + 1, 5, none⟩ = some (.int .i64 sl) ∧ W.cell? ⟨w.heap.size + 1, 6, none⟩ = some (.int .i64 sh)) ∧ (W.cell? ⟨w.heap.size + 1 + 1, 0, none⟩ = some (heldAt W ⟨w.heap.size + 1 + 1, 0, none⟩) ∧ W.cell? ⟨w.heap.size + 1 + 1, 1, none⟩ = some (heldAt W ⟨w.heap.size + 1 + 1, 1, none⟩) ∧
     W.frozen? ⟨w.heap.size + 1 + 1, 0, none⟩ = false ∧ W.frozen? ⟨w.heap.size + 1 + 1, 1, none⟩ = false) ∧ w.heap.size + 3 ≤ W.heap.size ∧ Ext w W) ⟨by go_simp, ⟨held_some (by go_simp), held_some (by go_simp), by go_simp, by go_simp⟩, by simp, by (repeat' (first | with_reducible assumption | with_reducible exact Ext.refl _ | with_reducible refine Ext.alloc ?_ _ | with_reducible refine Ext.set ?_ ?_ _ | with_reducible refine Ext.drew ?_ | with_reducible refine Ext.drewN ?_ _ | with_reducible refine Ext.trans ?_ (by assumption) | (dsimp only; omega)))⟩ ?_
  rintro W ⟨⟨c0, c1, c2, c3, c4, c5, d3, d4, d5, d6⟩, ⟨e0, e1, g0, g1⟩, hz, hE⟩
  go_region_held3 (fun w' => (∀ b o, b < w.heap.size + 2 → w'.cell? ⟨b, o, none⟩ = W.cell? ⟨b, o, none⟩) ∧ w'.cell? ⟨w.heap.size + 1 + 1, 0, none⟩ = some (heldAt w' ⟨w.heap.size + 1 + 1, 0, none⟩) ∧ w'.cell? ⟨w.heap.size + 1 + 1, 1, none⟩ = some (heldAt w' ⟨w.heap.size + 1 + 1, 1, none⟩) ∧
     w'.frozen? ⟨w.heap.size + 1 + 1, 0, none⟩ = false ∧ w'.frozen? ⟨w.heap.size + 1 + 1, 1, none⟩ = false ∧ w.heap.size + 3 ≤ w'.heap.size ∧ Ext w w')
    (((try dsimp only); go_split_ands; (repeat' apply And.intro) <;> first | assumption | exact kcell (by assumption) (by omega) (by assumption) | exact kcell_refl _ _ | exact kcell_set (kcell_set (by assumption) (by dsimp only; omega) _) (by dsimp only; omega) _ | exact kcell_set (by assumption) (by dsimp only; omega) _ | exact held_ext (by assumption) (by dsimp only; omega) (by assumption) | exact hfrozen_ext (by assumption) (by dsimp only; omega) (by assumption) | exact Ext.sizeLe (by assumption) (by assumption) | exact Ext.trans (by assumption) (by assumption) | exact Ext.drew (by assumption) | exact held_set _ _ _ _ (held_set _ _ _ _ (by assumption)) | exact held_set _ _ _ _ (by assumption) | exact hfrozen_set _ _ (hfrozen_set _ _ (by assumption)) | exact hfrozen_set _ _ (by assumption) | exact hsize_set _ _ (hsize_set _ _ (by assumption)) | exact hsize_set _ _ (by assumption) | exact Ext.set (Ext.set (by assumption) (by dsimp only; omega) _) (by dsimp only; omega) _ | exact Ext.set (by assumption) (by dsimp only; omega) _))
    (first | (go_at_call 84; refine (minutes_any _ _ _ _ _ _ _ _ _ (by omega) (by omega) (by omega) (by omega) (by omega) (by omega) (by omega) (by omega) _).mono ?_; rintro e w2 ⟨rfl, hE⟩))
  rename_i hH
  try dsimp only at hH
  obtain ⟨-, k0, k1, -, -, -, hx⟩ := hH
  have r1 := cell_set_val k1
  have r0 := cell_set_val2 (by simp) k0
  clear k0 k1
  go_wp2
  exact bodyPost_ret (v := .agg #[.int .i64 (timeOf tl pl sl l), .int .i64 (timeOf th ph sh l)]) (by simp [results, Try.results48, go_sem, r0, r1]) rfl ⟨rfl, hx⟩
end Go.Proofs.Ytndoghcglbpllaa
