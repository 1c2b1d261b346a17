/- Which truths some samples leave possible. -/
import Derived.Test.YtcfijidlbimckaaDoorRangeS
import Derived.Shelf.Abstract
set_option linter.unusedSimpArgs false
set_option linter.unusedVariables false
namespace Go.Proofs.YtcfijidlbimckaaDoor
open Go.RowKit
attribute [local go_sem] Oper.semAt_some
def meetB (s : Smp) (t : Nat) : Bool := !(t &&& s.mix.toNat == 0)
def missB (t : Nat) (s : Smp) : Bool := meetB s t && !s.foul
def alarmB (t : Nat) (s : Smp) : Bool := !meetB s t && s.foul
def missN (smp : List Smp) (t : Nat) (is : List Nat) : Nat := (is.filter fun i => missB t (smp.getD i zeroSmp)).length
def alarmN (smp : List Smp) (t : Nat) (is : List Nat) : Nat := (is.filter fun i => alarmB t (smp.getD i zeroSmp)).length
/-- Whether no more of the samples S are wrong in the truth t than may be. -/
def allowB (d : Wat) (S t : Nat) : Bool := decide ((missN d.smp t (bitsL S) : Int) ≤ d.miss) && decide ((alarmN d.smp t (bitsL S) : Int) ≤ d.al)
theorem missN_snoc (smp : List Smp) (t : Nat) (is : List Nat) (i : Nat) : missN smp t (is ++ [i]) = missN smp t is + if missB t (smp.getD i zeroSmp) = true then 1 else 0 := by
  unfold missN; rw [List.filter_append, List.length_append, List.filter_cons]; congr 1; by_cases h : missB t (smp.getD i zeroSmp) = true <;> simp only [h, if_true, if_false, List.filter_nil] <;> rfl
theorem alarmN_snoc (smp : List Smp) (t : Nat) (is : List Nat) (i : Nat) : alarmN smp t (is ++ [i]) = alarmN smp t is + if alarmB t (smp.getD i zeroSmp) = true then 1 else 0 := by
  unfold alarmN; rw [List.filter_append, List.length_append, List.filter_cons]; congr 1; by_cases h : alarmB t (smp.getD i zeroSmp) = true <;> simp only [h, if_true, if_false, List.filter_nil] <;> rfl
theorem missN_le (smp : List Smp) (t : Nat) (is : List Nat) : missN smp t is ≤ is.length := List.length_filter_le _ _
theorem alarmN_le (smp : List Smp) (t : Nat) (is : List Nat) : alarmN smp t is ≤ is.length := List.length_filter_le _ _
theorem bitsL_len (s : Nat) : (bitsL s).length ≤ 64 := by unfold bitsL; exact Nat.le_trans (List.length_filter_le _ _) (by simp)

/-- The memory of the loop in allows. -/
structure AlInv (w : World) (fc : Array Value) (t mi ai : Nat) (W : World) : Prop where
  ext : Ext w W
  b0 : Blk W w.heap.size 72 fc
  b1 : Blk W (w.heap.size + 1) 76 #[.int .u64 t]
  b2 : Blk W (w.heap.size + 1 + 1) 3 #[.int .i64 mi]
  b3 : Blk W (w.heap.size + 1 + 1 + 1) 3 #[.int .i64 ai]
theorem AlInv.alloc {w W : World} {fc : Array Value} {t mi ai : Nat} (h : AlInv w fc t mi ai W) (o : Obj) : AlInv w fc t mi ai (W.alloc o) := ⟨h.ext.alloc o, h.b0.alloc o, h.b1.alloc o, h.b2.alloc o, h.b3.alloc o⟩
theorem AlInv.set2 {w W : World} {fc : Array Value} {t mi ai : Nat} (h : AlInv w fc t mi ai W) (x : Nat) : AlInv w fc t x ai (W.setCell ⟨w.heap.size + 1 + 1, 0, none⟩ (.int .i64 x)) :=
  ⟨h.ext.set (by dsimp only; omega) _, h.b0.other (by dsimp only; omega) _, h.b1.other (by dsimp only; omega) _, h.b2.set _, h.b3.other (by dsimp only; omega) _⟩
theorem AlInv.set3 {w W : World} {fc : Array Value} {t mi ai : Nat} (h : AlInv w fc t mi ai W) (x : Nat) : AlInv w fc t mi x (W.setCell ⟨w.heap.size + 1 + 1 + 1, 0, none⟩ (.int .i64 x)) :=
  ⟨h.ext.set (by dsimp only; omega) _, h.b0.other (by dsimp only; omega) _, h.b1.other (by dsimp only; omega) _, h.b2.other (by dsimp only; omega) _, h.b3.set _⟩

set_option maxRecDepth 100000 in
set_option maxHeartbeats 2000000 in
theorem allows_any (d : Wat) (A : WA) (T : Value) (S t : Nat) (hS : S < 2 ^ d.smp.length) (hl : d.smp.length ≤ 20) (hm : ∀ i, i < d.smp.length → 0 ≤ (d.smp.getD i zeroSmp).mix ∧ (d.smp.getD i zeroSmp).mix ≤ 255) (ht : t < 256)
    (w : World) (hT : TabW w) (hW : WIn w d A) :
    Calls Tryd.prog 82 #[fval d A T, .int .u64 S, .int .u64 t] w fun e w' => e = .returned (.bool (allowB d S t)) ∧ Ext w w' := by
  obtain ⟨spr, most, miss, al, smp⟩ := d
  obtain ⟨SA, sc, MA, mc⟩ := A
  obtain ⟨-, hsm⟩ := hW
  unfold fval fcells allowB
  dsimp only at hS hl hm hsm ⊢
  have HM := hid hm
  have HSM := hid hsm
  have HS := hid hS
  have HT := hid hT
  obtain ⟨m, hmn⟩ : ∃ m, smp.length = m := ⟨_, rfl⟩
  obtain ⟨n, hnn⟩ : ∃ n, spr.length = n := ⟨_, rfl⟩
  have HMN := hid hmn
  rw [hmn] at hl ⊢
  rw [hnn]
  clear hm hsm hS hT hmn hnn
  refine (callsIn_wide (n := 6)).1 ?_
  refine callsIn_of_wp_marks Tryd.func82 rfl trivial ?_ rfl
  simp only [Tryd.ntmps82, List.size_toArray, List.length_cons, List.length_nil, Nat.reduceAdd, Nat.reduceSub, Array.replicate_succ, Array.replicate_zero, List.push_toArray, List.append_toArray, List.nil_append, List.cons_append]
  gi_wp2
  obtain ⟨q0, q1, q2, q3⟩ := blks4 w (.cells #[.slice SA n sc, .int .i64 most, .int .i64 miss, .int .i64 al, .slice MA m mc, T] 72) (.cells #[.int .u64 t] 76) (.cells #[.int .i64 0] 3) (.cells #[.int .i64 0] 3)
  have E4 : Ext w ((((w.alloc (.cells #[.slice SA n sc, .int .i64 most, .int .i64 miss, .int .i64 al, .slice MA m mc, T] 72)).alloc (.cells #[.int .u64 t] 76)).alloc (.cells #[.int .i64 0] 3)).alloc (.cells #[.int .i64 0] 3)) := by (repeat' (first | with_reducible assumption | with_reducible exact Ext.refl _ | with_reducible refine Ext.alloc ?_ _ | with_reducible refine Ext.set ?_ ?_ _ | with_reducible refine Ext.drew ?_ | with_reducible refine Ext.drewN ?_ _ | with_reducible refine Ext.trans ?_ (by assumption) | (dsimp only; omega)))
  have HS64 := hid (show S < 18446744073709551616 from Nat.lt_of_lt_of_le HS.out (Nat.le_trans (Nat.pow_le_pow_right (n := 2) (by decide) (show smp.length ≤ 20 by rw [HMN.out]; exact hl)) (by decide)))
  have HI0 := hid (show AlInv w #[.slice SA n sc, .int .i64 most, .int .i64 miss, .int .i64 al, .slice MA m mc, T] t (missN smp t []) (alarmN smp t []) _ from ⟨E4, q0, q1, q2, q3⟩)
  have E4S := E4.size
  clear q0 q1 q2 q3 E4
  refine range_slot (enc := encI) (xs := bitsL S) (by omega) rfl (enters_of Tryd.func58 (by kernel_rfl) rfl) (by simp) (elements_gives _ (by omega) S HS64.out)
    (fun pre W => AlInv w #[.slice SA n sc, .int .i64 most, .int .i64 miss, .int .i64 al, .slice MA m mc, T] t (missN smp t pre) (alarmN smp t pre) W)
    ?stays (fun pre W h => HT.out.ext h.ext) HI0.out ?body ?done
  case stays =>
    rintro pre X Y row ⟨h1, h2, h3, h4, h5⟩ hg hr
    exact ⟨own_ext E4S h1 hg hr, h2.own hg hr, h3.own hg hr, h4.own hg hr, h5.own hg hr⟩
  case body =>
    rintro l pre x suf W hl2 hxs hI
    have hxm : x < m := by rw [← HMN.out]; exact bitsL_lt HS.out (by rw [hxs]; simp)
    obtain ⟨mb, mo, rfl, hmb, d0, d1⟩ := (HSM.out.ext hI.ext).at_ HMN.out hxm
    obtain ⟨hm0, hm1⟩ := HM.out x (by rw [HMN.out]; exact hxm)
    have HM1 := missN_snoc smp t pre x
    have HA1 := alarmN_snoc smp t pre x
    have hlen : pre.length < 64 := by have h := congrArg List.length hxs; have := bitsL_len S; simp at h; omega
    have hmi : missN smp t pre < 64 := by have := missN_le smp t pre; omega
    have hai : alarmN smp t pre < 64 := by have := alarmN_le smp t pre; omega
    clear HI0 hxs
    generalize missN smp t (pre ++ [x]) = mi1 at *
    generalize alarmN smp t (pre ++ [x]) = ai1 at *
    generalize missN smp t pre = mi at *
    generalize alarmN smp t pre = ai at *
    unfold missB meetB at HM1
    unfold alarmB meetB at HA1
    generalize smp.getD x zeroSmp = sx at *
    obtain ⟨mix, fo⟩ := sx
    dsimp only at d0 d1 hm0 hm1 HM1 HA1
    obtain ⟨mx, rfl⟩ : ∃ mx : Nat, mix = mx := ⟨mix.toNat, by omega⟩
    rw [Int.toNat_natCast] at HM1 HA1
    have HMT := hid (fun W => meets_any t mx (by omega) (by omega) W)
    generalize (t &&& mx == 0) = bm at *
    have HI := hid hI
    have c4 := hI.b0.cell 4
    have c5 := hI.b1.cell 0
    have c6 := hI.b2.cell 0
    have c7 := hI.b3.cell 0
    have f6 := hI.b2.fro 0
    have f7 := hI.b3.fro 0
    simp only [List.getElem?_toArray, List.getElem?_cons_zero, List.getElem?_cons_succ] at c4 c5 c6 c7
    have z3 := hI.b3.lt
    have z0 : w.heap.size < W.heap.size := by omega
    have z1 : w.heap.size + 1 < W.heap.size := by omega
    have z2 : w.heap.size + 1 + 1 < W.heap.size := by omega
    clear hI
    simp only [encI]
    cases bm <;> cases fo <;> simp only [Bool.not_false, Bool.not_true, Bool.and_true, Bool.and_false, Bool.true_and, Bool.false_and, if_true, if_false, Bool.false_eq_true, Nat.add_zero] at HM1 HA1 <;> subst HM1 HA1
    case false.false =>
      gi_wp2_with fail
      refine ⟨trivial, CallsIn.inRound l ((callsIn_wide.2 (HMT.out _)).mono ?_)⟩
      rintro e w2 ⟨rfl, rfl⟩
      gi_wp2
      rw [show ((mi : Int) + 1) = ((mi + 1 : Nat) : Int) by omega]
      exact ⟨(keepsFrom_set _ _ _ _).trans (keepsFrom_ext _ (ext_alloc1 _ _)), (HI.out.set2 _).alloc _⟩
    case false.true =>
      gi_wp2_with fail
      refine ⟨trivial, CallsIn.inRound l ((callsIn_wide.2 (HMT.out _)).mono ?_)⟩
      rintro e w2 ⟨rfl, rfl⟩
      gi_wp2
      exact ⟨keepsFrom_ext _ (ext_alloc1 _ _), HI.out.alloc _⟩
    case true.false =>
      gi_wp2_with fail
      refine ⟨trivial, CallsIn.inRound l ((callsIn_wide.2 (HMT.out _)).mono ?_)⟩
      rintro e w2 ⟨rfl, rfl⟩
      gi_wp2
      exact ⟨keepsFrom_ext _ (ext_alloc1 _ _), HI.out.alloc _⟩
    case true.true =>
      gi_wp2_with fail
      refine ⟨trivial, CallsIn.inRound l ((callsIn_wide.2 (HMT.out _)).mono ?_)⟩
      rintro e w2 ⟨rfl, rfl⟩
      gi_wp2
      rw [show ((ai : Int) + 1) = ((ai + 1 : Nat) : Int) by omega]
      exact ⟨(keepsFrom_set _ _ _ _).trans (keepsFrom_ext _ (ext_alloc1 _ _)), (HI.out.set3 _).alloc _⟩
  case done =>
    intro D W hD hI hDk
    have HI := hid hI
    have HD := hid hDk
    have c2 := hI.b0.cell 2
    have c3 := hI.b0.cell 3
    have c6 := hI.b2.cell 0
    have c7 := hI.b3.cell 0
    simp only [List.getElem?_toArray, List.getElem?_cons_zero, List.getElem?_cons_succ] at c2 c3 c6 c7
    clear hI hDk HI0
    obtain ⟨mi, hmi⟩ : ∃ mi, missN smp t (bitsL S) = mi := ⟨_, rfl⟩
    obtain ⟨ai, hai⟩ : ∃ ai, alarmN smp t (bitsL S) = ai := ⟨_, rfl⟩
    rw [hmi] at c6
    rw [hai] at c7
    have HMI := hid hmi
    have HAI := hid hai
    have hDs : w.heap.size ≤ D := by omega
    clear hmi hai
    by_cases h1 : (mi : Int) ≤ miss
    · have h1' : decide ((mi : Int) ≤ miss) = true := decide_eq_true h1
      gi_wp2
      refine ⟨by simp, .inl ⟨_, _, rfl, run_takeDeferred (HD.out), ?_⟩⟩
      refine ⟨_, results_tmp rfl _ _ _, ?_⟩
      exact ⟨ret_bool (by rw [HMI.out, HAI.out, h1', Bool.true_and]), ext_putObj HI.out.ext hDs⟩
    · have h1' : decide ((mi : Int) ≤ miss) = false := decide_eq_false h1
      gi_wp2
      refine ⟨by simp, .inl ⟨_, _, rfl, run_takeDeferred (HD.out), ?_⟩⟩
      refine ⟨_, results_tmp rfl _ _ _, ?_⟩
      exact ⟨ret_bool (by rw [HMI.out, HAI.out, h1', Bool.false_and]), ext_putObj HI.out.ext hDs⟩
end Go.Proofs.YtcfijidlbimckaaDoor
