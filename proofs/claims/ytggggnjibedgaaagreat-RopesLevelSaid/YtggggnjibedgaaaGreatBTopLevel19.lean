/- CheckPosts of the specification, and the program's Level. -/
import Derived.Test.YtggggnjibedgaaaGreatBTopLevel18
import Derived.Test.YtggggnjibedgaaaGreatB14
import Derived.Test.YtggggnjibedgaaaGreatB01
import Derived.Test.YtggggnjibedgaaaGreatB05
import Derived.Test.YtggggnjibedgaaaGreatB02
import Derived.Deep.QuietTactic
import Derived.BigQuiet
set_option linter.unusedSimpArgs false
set_option linter.unusedVariables false
namespace Go.Proofs.YtggggnjibedgaaaGreat
open Go.RowKit
set_option maxRecDepth 100000 in
set_option maxHeartbeats 2000000 in
theorem rCheckPosts_any (ps : List Po) (lim : Int) (told : Bool) (A : Option Addr) (n c : Nat) (hn : ps.length = n) (hm : n ≤ 1000) (w : World) (hx : PosAt w A ps) :
    Calls Tryz.prog 52 #[.slice A n c, .int .i64 lim, .bool told] w fun e w' => e = .returned (.int .i64 (if posB ps then (if inI lim 0 1000 && told then 0 else 1) else 94)) ∧ Ext w w' := by
  have HA := hid (fun (W : World) (hE : Ext w W) => rArePosts_any ps A n c hn hm W (hx.ext hE))
  have HW := hid (fun a b c W => rwithin_any a b c W)
  clear hx hn
  generalize posB ps = b1 at *
  obtain ⟨b2, h2⟩ : ∃ b, inI lim 0 1000 = b := ⟨_, rfl⟩
  rw [h2]
  obtain ⟨RR, hRR⟩ : ∃ v, (if b1 then (if b2 && told then (0 : Int) else 1) else 94) = v := ⟨_, rfl⟩
  rw [hRR]
  have HRR := hid hRR
  clear hRR
  cases b1
  case false =>
    go_enter Tryz.func52, Tryz.ntmps52
    go_wp2_with (go_at_call 98; refine (HA.out _ (by (repeat' (first | with_reducible assumption | with_reducible exact Ext.refl _ | with_reducible refine Ext.alloc ?_ _ | with_reducible refine Ext.set ?_ ?_ _ | with_reducible refine Ext.drew ?_ | with_reducible refine Ext.drewN ?_ _ | with_reducible refine Ext.trans ?_ (by assumption) | (dsimp only; omega))))).mono ?_; rintro e w2 ⟨rfl, hE⟩; (first | (have hK := KC.step (n := w.heap.size) (by with_reducible assumption) hE) | (have hK := KC.step (KC.step (n := w.heap.size) (by with_reducible assumption) (ext_alloc1 _ _)) hE) | (have hK := KC.step (KC.refl (n := w.heap.size) (by simp)) hE)); have hC := hK.cell; have hF := hK.fro; have hX := hK.ext)
    go_ret
    exact ⟨ret_int (by rw [← HRR.out]; simp), by (repeat' (first | with_reducible assumption | with_reducible exact Ext.refl _ | with_reducible refine Ext.alloc ?_ _ | with_reducible refine Ext.set ?_ ?_ _ | with_reducible refine Ext.drew ?_ | with_reducible refine Ext.drewN ?_ _ | with_reducible refine Ext.trans ?_ (by assumption) | (dsimp only; omega)))⟩
  cases b2 <;> cases told <;>
  (go_enter Tryz.func52, Tryz.ntmps52
   go_wp2_with (first
     | (go_at_call 98; refine (HA.out _ (by (repeat' (first | with_reducible assumption | with_reducible exact Ext.refl _ | with_reducible refine Ext.alloc ?_ _ | with_reducible refine Ext.set ?_ ?_ _ | with_reducible refine Ext.drew ?_ | with_reducible refine Ext.drewN ?_ _ | with_reducible refine Ext.trans ?_ (by assumption) | (dsimp only; omega))))).mono ?_; rintro e w2 ⟨rfl, hE⟩; (first | (have hK := KC.step (n := w.heap.size) (by with_reducible assumption) hE) | (have hK := KC.step (KC.step (n := w.heap.size) (by with_reducible assumption) (ext_alloc1 _ _)) hE) | (have hK := KC.step (KC.refl (n := w.heap.size) (by simp)) hE)); have hC := hK.cell; have hF := hK.fro; have hX := hK.ext)
     | (go_at_call 76; refine (HW.out _ _ _ _).mono ?_; rintro e w2 ⟨rfl, rfl⟩; simp only [h2]))
   go_ret
   exact ⟨ret_int (by rw [← HRR.out]; simp), by (repeat' (first | with_reducible assumption | with_reducible exact Ext.refl _ | with_reducible refine Ext.alloc ?_ _ | with_reducible refine Ext.set ?_ ?_ _ | with_reducible refine Ext.drew ?_ | with_reducible refine Ext.drewN ?_ _ | with_reducible refine Ext.trans ?_ (by assumption) | (dsimp only; omega)))⟩)
/-- The number of years up to which all stay level. -/
def lvlN (ps : List Po) (lim : Int) : Nat := ((List.range 100).find? fun (y : Nat) => !levB ps lim ((y : Int) + 1)).getD 100
theorem lvl_at {ps : List Po} {lim : Int} {k : Nat} (hk : k < 100) (ha : ∀ j : Nat, j < k → levB ps lim ((j : Int) + 1) = true) (hn : levB ps lim ((k : Int) + 1) = false) : lvlN ps lim = k := by
  unfold lvlN
  have hf : (List.range 100).find? (fun y : Nat => !levB ps lim ((y : Int) + 1)) = some k := by
    rw [List.find?_range_eq_some]
    exact ⟨by rw [hn]; rfl, List.mem_range.2 hk, fun j hj => by rw [ha j hj]; rfl⟩
  rw [hf]; rfl
theorem lvl_end {ps : List Po} {lim : Int} (ha : ∀ j : Nat, j < 100 → levB ps lim ((j : Int) + 1) = true) : lvlN ps lim = 100 := by
  unfold lvlN
  have hf : (List.range 100).find? (fun y : Nat => !levB ps lim ((y : Int) + 1)) = none := by
    rw [List.find?_range_eq_none]
    intro j hj
    rw [ha j hj]; rfl
  rw [hf]; rfl
def lvlV (ps : List Po) (lim : Int) : Int := if posE ps lim 0 = 0 then (lvlN ps lim : Int) else 0
theorem poOk_of {p : Po} (h : poB p = true) : PoOk p := by
  unfold poB inI spB at h
  simp only [Bool.and_eq_true, decide_eq_true_eq] at h
  unfold PoOk
  omega
set_option maxRecDepth 100000 in
set_option maxHeartbeats 4000000 in
theorem plevel_any (ps : List Po) (lim : Int) (A : Option Addr) (n c : Nat) (hn : ps.length = n) (hm : n ≤ 1000) (hc : n ≤ c) (w : World) (hx : PosAt w A ps) :
    Calls Tryz.prog 38 #[.slice A n c, .int .i64 lim] w fun e w' => e = .returned (.tuple #[.int .i64 (lvlV ps lim), .int .i64 (posE ps lim 0)]) ∧ Ext w w' := by
  have HCK := hid (fun (W : World) (hE : Ext w W) => checkPosts_any ps lim 0 A n c hn hm W (hx.ext hE))
  by_cases h0 : posE ps lim 0 = 0
  · obtain ⟨hb, hl, hy⟩ := posE_ok h0
    obtain ⟨h8, hp⟩ := posB_ok hb
    have HL := hid (fun (y : Nat) (hy : y < 100) (W : World) (hE : Ext w W) => isLevel_any ps lim ((y : Int) + 1) A n c hn hm hc (fun p h => poOk_of (by
      have ha : ps.all poB = true := by
        unfold posB at hb
        simp only [Bool.and_eq_true] at hb
        exact hb.1.2
      exact List.all_eq_true.1 ha p h)) (by omega) (by omega) W (hx.ext hE))
    have hv : lvlV ps lim = lvlN ps lim := by unfold lvlV; rw [if_pos h0]
    rw [hv, h0]
    rw [h0] at HCK
    have HA9 := hid (fun k (hk : k < 100) ha hn => lvl_at (ps := ps) (lim := lim) (k := k) hk ha hn)
    have HE9 := hid (fun ha => lvl_end (ps := ps) (lim := lim) ha)
    clear hx hn hb hl hy h8 hp h0 hv
    generalize hLB : (fun y : Int => levB ps lim y) = LB at *
    have hLe : ∀ y, levB ps lim y = LB y := fun y => by rw [← hLB]
    simp only [hLe] at HL HA9 HE9
    clear hLB hLe
    generalize lvlN ps lim = N at *
    go_enter Tryz.func38, Tryz.ntmps38
    go_wp2_with (go_at_call 90; refine (HCK.out _ (by (repeat' (first | with_reducible assumption | with_reducible exact Ext.refl _ | with_reducible refine Ext.alloc ?_ _ | with_reducible refine Ext.set ?_ ?_ _ | with_reducible refine Ext.drew ?_ | with_reducible refine Ext.drewN ?_ _ | with_reducible refine Ext.trans ?_ (by assumption) | (dsimp only; omega))))).mono ?_; rintro e w2 ⟨rfl, hE⟩; (first | (have hK := KC.step (n := w.heap.size) (by with_reducible assumption) hE) | (have hK := KC.step (KC.step (n := w.heap.size) (by with_reducible assumption) (ext_alloc1 _ _)) hE) | (have hK := KC.step (KC.refl (n := w.heap.size) (by simp)) hE)); have hC := hK.cell; have hF := hK.fro; have hX := hK.ext)
    have HX2 := hid (show Ext w w2 by (repeat' (first | with_reducible assumption | with_reducible exact Ext.refl _ | with_reducible refine Ext.alloc ?_ _ | with_reducible refine Ext.set ?_ ?_ _ | with_reducible refine Ext.drew ?_ | with_reducible refine Ext.drewN ?_ _ | with_reducible refine Ext.trans ?_ (by assumption) | (dsimp only; omega))))
    go_loopw [14] (fun i wr => Ext w wr ∧ ∃ k : Nat, k ≤ 100 ∧ i = .int .i64 k ∧ Hid (∀ j : Nat, j < k → LB ((j : Int) + 1) = true)) (fun i _ => 100 - (intOf i).toNat)
    case atStart => exact ⟨HX2.out, 0, Nat.zero_le _, rfl, hid (fun j hj => by omega)⟩
    case round =>
      obtain ⟨hE, k, hk, rfl, HA⟩ := hrel
      clear hC hF hX hK
      by_cases hlt : k < 100
      · have hw1 : IntKind.i64.wrap ((k : Int) + 1) = (k : Int) + 1 := IntWalk.i64_in _ (by omega)
        have HLk := hid (fun W e => HL.out k hlt W e)
        have HAk := hid (HA9.out k hlt HA.out)
        clear HL HA9 HE9
        obtain ⟨lb, hlb⟩ : ∃ lb, LB ((k : Int) + 1) = lb := ⟨_, rfl⟩
        rw [hlb] at HLk HAk
        have HLB := hid hlb
        clear hlb
        have hki : (k : Int) < 100 := by omega
        cases lb
        · have HR := hid (HAk.out rfl)
          go_wp2_with (go_at_call 91; refine (HLk.out _ (by (repeat' (first | with_reducible assumption | with_reducible exact Ext.refl _ | with_reducible refine Ext.alloc ?_ _ | with_reducible refine Ext.set ?_ ?_ _ | with_reducible refine Ext.drew ?_ | with_reducible refine Ext.drewN ?_ _ | with_reducible refine Ext.trans ?_ (by assumption) | (dsimp only; omega))))).mono ?_; rintro e w3 ⟨rfl, hE3⟩)
          go_ret2
          exact ⟨by rw [HR.out]; rfl, hE.trans hE3⟩
        · have HA2 := hid (show ∀ j : Nat, j < k + 1 → LB ((j : Int) + 1) = true from fun j hj => by
            rcases Nat.lt_succ_iff_lt_or_eq.1 hj with h | rfl
            · exact HA.out j h
            · exact HLB.out)
          go_wp2_with (go_at_call 91; refine (HLk.out _ (by (repeat' (first | with_reducible assumption | with_reducible exact Ext.refl _ | with_reducible refine Ext.alloc ?_ _ | with_reducible refine Ext.set ?_ ?_ _ | with_reducible refine Ext.drew ?_ | with_reducible refine Ext.drewN ?_ _ | with_reducible refine Ext.trans ?_ (by assumption) | (dsimp only; omega))))).mono ?_; rintro e w3 ⟨rfl, hE3⟩)
          go_roundw
          case rel => exact ⟨hE.trans hE3, k + 1, by omega, by go_num, HA2⟩
          case measure => simp [intOf]; omega
      · obtain rfl : k = 100 := by omega
        have HR := hid (HE9.out HA.out)
        clear HL HA9 HE9
        go_wp2
        go_ret2
        exact ⟨by rw [HR.out]; rfl, hE⟩
  · have hv : lvlV ps lim = 0 := by unfold lvlV; rw [if_neg h0]
    rw [hv]
    clear hv hx hn
    have hne : (posE ps lim 0 != 0) = true := by simp [h0]
    generalize posE ps lim 0 = E at *
    go_enter Tryz.func38, Tryz.ntmps38
    go_wp2_with (go_at_call 90; refine (HCK.out _ (by (repeat' (first | with_reducible assumption | with_reducible exact Ext.refl _ | with_reducible refine Ext.alloc ?_ _ | with_reducible refine Ext.set ?_ ?_ _ | with_reducible refine Ext.drew ?_ | with_reducible refine Ext.drewN ?_ _ | with_reducible refine Ext.trans ?_ (by assumption) | (dsimp only; omega))))).mono ?_; rintro e w2 ⟨rfl, hE⟩; (first | (have hK := KC.step (n := w.heap.size) (by with_reducible assumption) hE) | (have hK := KC.step (KC.step (n := w.heap.size) (by with_reducible assumption) (ext_alloc1 _ _)) hE) | (have hK := KC.step (KC.refl (n := w.heap.size) (by simp)) hE)); have hC := hK.cell; have hF := hK.fro; have hX := hK.ext)
    go_ret2
    exact ⟨rfl, by (repeat' (first | with_reducible assumption | with_reducible exact Ext.refl _ | with_reducible refine Ext.alloc ?_ _ | with_reducible refine Ext.set ?_ ?_ _ | with_reducible refine Ext.drew ?_ | with_reducible refine Ext.drewN ?_ _ | with_reducible refine Ext.trans ?_ (by assumption) | (dsimp only; omega)))⟩
end Go.Proofs.YtggggnjibedgaaaGreat
/- How two posts may tilt, and the elements of a set: the specification. -/
set_option linter.unusedSimpArgs false
set_option linter.unusedVariables false
namespace Go.Proofs.YtggggnjibedgaaaGreat
open Go.RowKit
def excB (a b : Po) (x y lim yrs : Int) : Bool := decide (lim * (b.pos - a.pos) < max (x - y) (y - x) * yrs * 1000)
theorem mul_bd {a b A B : Int} (h1 : -A ≤ a) (h2 : a ≤ A) (h3 : -B ≤ b) (h4 : b ≤ B) (hA : 0 ≤ A) (hB : 0 ≤ B) : -(A * B) ≤ a * b ∧ a * b ≤ A * B := by
  have key : ∀ p q : Int, 0 ≤ p → p ≤ A → 0 ≤ q → q ≤ B → p * q ≤ A * B := fun p q hp hpA hq hqB => Int.mul_le_mul hpA hqB hq hA
  rcases Int.le_total 0 a with ha | ha <;> rcases Int.le_total 0 b with hb | hb
  · have := key a b ha h2 hb h4
    have h0 := Int.mul_nonneg ha hb
    omega
  · have := key a (-b) ha h2 (by omega) (by omega)
    rw [Int.mul_neg] at this
    have h0 := Int.mul_nonneg ha (show 0 ≤ -b by omega)
    rw [Int.mul_neg] at h0
    omega
  · have := key (-a) b (by omega) (by omega) hb h4
    rw [Int.neg_mul] at this
    have h0 := Int.mul_nonneg (show 0 ≤ -a by omega) hb
    rw [Int.neg_mul] at h0
    omega
  · have := key (-a) (-b) (by omega) (by omega) (by omega) (by omega)
    rw [Int.neg_mul_neg] at this
    have h0 := Int.mul_nonneg (show 0 ≤ -a by omega) (show 0 ≤ -b by omega)
    rw [Int.neg_mul_neg] at h0
    omega
set_option maxHeartbeats 1000000 in
theorem exceeds_any (a b : Po) (x y lim yrs : Int) (ha : 0 ≤ a.pos ∧ a.pos ≤ 100000) (hb : 0 ≤ b.pos ∧ b.pos ≤ 100000) (hx : 0 ≤ x ∧ x ≤ 100) (hy : 0 ≤ y ∧ y ≤ 100) (hl : 0 ≤ lim ∧ lim ≤ 1000) (hyr : 0 ≤ yrs ∧ yrs ≤ 101) (w : World) :
    Calls Tryz.prog 53 #[a.val, b.val, .int .i64 x, .int .i64 y, .int .i64 lim, .int .i64 yrs] w fun e w' => e = .returned (.bool (excB a b x y lim yrs)) ∧ Ext w w' := by
  unfold excB Po.val
  obtain ⟨p, a1, a2⟩ := a
  obtain ⟨q, b1, b2⟩ := b
  dsimp only at *
  obtain ⟨M, hM⟩ : ∃ M, max (x - y) (y - x) = M := ⟨_, rfl⟩
  have hM0 : 0 ≤ M ∧ M ≤ 100 := by omega
  have h1 := mul_bd (a := M) (b := yrs) (A := 100) (B := 101) (by omega) (by omega) (by omega) (by omega) (by decide) (by decide)
  have h2 := mul_bd (a := lim) (b := q - p) (A := 1000) (B := 100000) (by omega) (by omega) (by omega) (by omega) (by decide) (by decide)
  have hxy : M = if x - y < y - x then y - x else x - y := by rw [← hM]; split <;> omega
  rw [hM]
  obtain ⟨P1, hP1⟩ : ∃ P1, M * yrs = P1 := ⟨_, rfl⟩
  obtain ⟨P2, hP2⟩ : ∃ P2, lim * (q - p) = P2 := ⟨_, rfl⟩
  rw [hP1] at h1
  rw [hP2] at h2
  have w1 : IntKind.i64.wrap (x - y) = x - y := IntWalk.i64_in _ (by omega)
  have w2 : IntKind.i64.wrap (y - x) = y - x := IntWalk.i64_in _ (by omega)
  have w3 : IntKind.i64.wrap (q - p) = q - p := IntWalk.i64_in _ (by omega)
  rw [hP1, hP2]
  rcases Int.lt_trichotomy x y with hc | hc | hc
  · have hMe : M = y - x := by omega
    subst hMe
    have w4 : wrap64 ((y - x) * yrs) = P1 := by rw [hP1]; unfold wrap64; omega
    have w5 : wrap64 (P1 * 1000) = P1 * 1000 := by unfold wrap64; omega
    have w6 : wrap64 (lim * (q - p)) = P2 := by rw [hP2]; unfold wrap64; omega
    have hmx : max (x - y) (y - x) = (y - x) := by omega
    clear hP1 hP2 hM hxy
    go_enter Tryz.func53, Tryz.ntmps53
    go_wp2
    all_goals (go_ret; exact ⟨ret_bool (by first | rfl | (simp [*]; done) | (exfalso; omega)), by (repeat' (first | with_reducible assumption | with_reducible exact Ext.refl _ | with_reducible refine Ext.alloc ?_ _ | with_reducible refine Ext.set ?_ ?_ _ | with_reducible refine Ext.drew ?_ | with_reducible refine Ext.drewN ?_ _ | with_reducible refine Ext.trans ?_ (by assumption) | (dsimp only; omega)))⟩)
  · subst hc
    have hMe : M = 0 := by omega
    subst hMe
    have e0 : (0 : Int) * yrs = 0 := Int.zero_mul _
    rw [e0] at hP1
    subst hP1
    have w6 : wrap64 (lim * (q - p)) = P2 := by rw [hP2]; unfold wrap64; omega
    have hmx : max (x - x) (x - x) = 0 := by omega
    clear hP2 hM hxy
    go_enter Tryz.func53, Tryz.ntmps53
    go_wp2
    all_goals (go_ret; exact ⟨ret_bool (by first | rfl | (simp; done) | (simp [*]; done)), by (repeat' (first | with_reducible assumption | with_reducible exact Ext.refl _ | with_reducible refine Ext.alloc ?_ _ | with_reducible refine Ext.set ?_ ?_ _ | with_reducible refine Ext.drew ?_ | with_reducible refine Ext.drewN ?_ _ | with_reducible refine Ext.trans ?_ (by assumption) | (dsimp only; omega)))⟩)
  · have hMe : M = x - y := by omega
    subst hMe
    have w4 : wrap64 ((x - y) * yrs) = P1 := by rw [hP1]; unfold wrap64; omega
    have w5 : wrap64 (P1 * 1000) = P1 * 1000 := by unfold wrap64; omega
    have w6 : wrap64 (lim * (q - p)) = P2 := by rw [hP2]; unfold wrap64; omega
    have hmx : max (x - y) (y - x) = (x - y) := by omega
    clear hP1 hP2 hM hxy
    go_enter Tryz.func53, Tryz.ntmps53
    go_wp2
    all_goals (go_ret; exact ⟨ret_bool (by first | rfl | (simp [*]; done) | (exfalso; omega)), by (repeat' (first | with_reducible assumption | with_reducible exact Ext.refl _ | with_reducible refine Ext.alloc ?_ _ | with_reducible refine Ext.set ?_ ?_ _ | with_reducible refine Ext.drew ?_ | with_reducible refine Ext.drewN ?_ _ | with_reducible refine Ext.trans ?_ (by assumption) | (dsimp only; omega)))⟩)
end Go.Proofs.YtggggnjibedgaaaGreat
/- can: whether two posts may tilt too much: the specification. -/
set_option linter.unusedSimpArgs false
set_option linter.unusedVariables false
namespace Go.Proofs.YtggggnjibedgaaaGreat
open Go.RowKit
def canB (a b : Po) (lim yrs : Int) : Bool := excB a b a.sh b.sl lim yrs || excB a b a.sl b.sh lim yrs
theorem poB_parts {p : Po} (h : poB p = true) : (0 ≤ p.pos ∧ p.pos ≤ 100000) ∧ 0 ≤ p.sl ∧ p.sl ≤ p.sh ∧ p.sh ≤ 100 := by
  unfold poB inI spB at h
  simp only [Bool.and_eq_true, decide_eq_true_eq] at h
  omega
theorem canB_eq {a b : Po} (ha : poB a = true) (hb : poB b = true) {lim yrs : Int} (hy : 0 ≤ yrs) : canB a b lim yrs = tiltB lim yrs a b := by
  have h1 := poB_parts ha
  have h2 := poB_parts hb
  unfold canB excB tiltB apartN
  obtain ⟨u, hu⟩ : ∃ u, max (a.sh - b.sl) (b.sl - a.sh) = u := ⟨_, rfl⟩
  obtain ⟨v, hv⟩ : ∃ v, max (a.sl - b.sh) (b.sh - a.sl) = v := ⟨_, rfl⟩
  obtain ⟨z, hz⟩ : ∃ z, max (a.sh - b.sl) (b.sh - a.sl) = z := ⟨_, rfl⟩
  have hz2 : z = max u v := by omega
  rw [hu, hv, hz]
  generalize lim * (b.pos - a.pos) = R
  rw [Bool.eq_iff_iff]
  simp only [Bool.or_eq_true, decide_eq_true_eq]
  have e1 : 1000 * yrs * z = z * yrs * 1000 := by rw [Int.mul_comm (1000 * yrs) z, Int.mul_comm 1000 yrs, Int.mul_assoc]
  rw [e1]
  have hm : ∀ p q : Int, p ≤ q → p * yrs ≤ q * yrs := fun p q h => Int.mul_le_mul_of_nonneg_right h hy
  rcases Int.le_total u v with h | h
  · have e : z = v := by omega
    have := hm u v h
    rw [e]
    constructor
    · rintro (h | h) <;> omega
    · intro h; exact .inr h
  · have e : z = u := by omega
    have := hm v u h
    rw [e]
    constructor
    · rintro (h | h) <;> omega
    · intro h; exact .inl h
theorem infoPoS : (Tryz.prog.info? 95).map (·.size) = some 3 := by kernel_rfl
set_option maxRecDepth 100000 in
set_option maxHeartbeats 8000000 in
theorem rcan_any (ps : List Po) (A : Option Addr) (n c : Nat) (hn : ps.length = n) (hp : ∀ p ∈ ps, poB p = true) (i j : Nat) (hi : i < n) (hj : j < n) (lim yrs : Int) (hl : 0 ≤ lim ∧ lim ≤ 1000) (hyr : 0 ≤ yrs ∧ yrs ≤ 101) (w : World) (hx : PosAt w A ps) :
    Calls Tryz.prog 128 #[.slice A n c, .int .i64 (i : Int), .int .i64 (j : Int), .int .i64 lim, .int .i64 yrs] w fun e w' => e = .returned (.bool (tiltB lim yrs (ps.getD i zeroPo) (ps.getD j zeroPo))) ∧ Ext w w' := by
  have h1 := hp _ (mem_at ps zeroPo i (by omega))
  have h2 := hp _ (mem_at ps zeroPo j (by omega))
  rw [← canB_eq h1 h2 hyr.1]
  obtain ⟨b, off, rfl, hb, hck⟩ := hx.at_ hn hi
  obtain ⟨b', off', hAe, hb', hck'⟩ := hx.at_ hn hj
  cases hAe
  have g1 := poB_parts h1
  have g2 := poB_parts h2
  clear h1 h2 hp hx
  unfold canB
  generalize ps.getD i zeroPo = x at *
  generalize ps.getD j zeroPo = y at *
  have HE1 := hid (fun W => exceeds_any x y x.sh y.sl lim yrs g1.1 g2.1 (by omega) (by omega) hl hyr W)
  have HE2 := hid (fun W => exceeds_any x y x.sl y.sh lim yrs g1.1 g2.1 (by omega) (by omega) hl hyr W)
  clear g1 g2
  generalize excB x y x.sh y.sl lim yrs = v1 at *
  generalize excB x y x.sl y.sh lim yrs = v2 at *
  unfold Po.val at *
  obtain ⟨xp, xl, xh⟩ := x
  obtain ⟨yp, yl, yh⟩ := y
  obtain ⟨c0, c1, c2⟩ := hck
  obtain ⟨d0, d1, d2⟩ := hck'
  dsimp only at *
  have hi0 : (0 : Int) ≤ (i : Int) := by omega
  have hi1 : (i : Int) < (n : Int) := by omega
  have hj0 : (0 : Int) ≤ (j : Int) := by omega
  have hj1 : (j : Int) < (n : Int) := by omega
  go_enter Tryz.func128, Tryz.ntmps128
  go_wp2_with fail
  refine wp_region_held_drew (S := fun w' => (∀ b o, b < w.heap.size → w'.cell? ⟨b, o, none⟩ = w.cell? ⟨b, o, none⟩) ∧ w.heap.size ≤ w'.heap.size ∧ Ext w w') (by kernel_rfl) ?hS0 (fun hHeld => ?_)
  case hS0 => exact sK (Ext.drew (Ext.refl _))
  have X0 : Ext w w.drew := Ext.drew (Ext.refl w)
  have EX := X0
  obtain ⟨X, hX⟩ : ∃ X, w.drew = X := ⟨_, rfl⟩
  rw [hX] at EX hHeld ⊢
  clear hX X0
  refine tk1 (i := 0) (v := ?v0a) rfl ?y0a ?r0a
  case y0a => (intro w' hSw; (try dsimp only at hSw); go_simp; (try with_reducible rfl))
  try simp only [Act.put, sq1, sq2, sq3, sq4, sq5, sq6]
  refine tk1 (i := 1) (v := ?v1a) rfl ?y1a ?r1a
  case y1a => (intro w' hSw; (try dsimp only at hSw); go_simp; (try with_reducible rfl))
  try simp only [Act.put, sq1, sq2, sq3, sq4, sq5, sq6]
  refine tk1 (i := 2) (v := ?v2a) rfl ?y2a ?r2a
  case y2a => (intro w' hSw; (try dsimp only at hSw); go_simp; (try with_reducible rfl))
  try simp only [Act.put, sq1, sq2, sq3, sq4, sq5, sq6]
  refine tk1 (i := 3) (v := ?v3a) rfl ?y3a ?r3a
  case y3a => (intro w' hSw; (try dsimp only at hSw); go_simp; (try with_reducible rfl))
  try simp only [Act.put, sq1, sq2, sq3, sq4, sq5, sq6]
  refine tk1 (i := 4) (v := ?v4a) rfl ?y4a ?r4a
  case y4a => (intro w' hSw; (try dsimp only at hSw); go_simp; (try with_reducible rfl))
  try simp only [Act.put, sq1, sq2, sq3, sq4, sq5, sq6]
  refine tk1 (i := 5) (v := ?v5a) rfl ?y5a ?r5a
  case y5a => (intro w' hSw; (try dsimp only at hSw); go_simp; (try with_reducible rfl))
  try simp only [Act.put, sq1, sq2, sq3, sq4, sq5, sq6]
  refine tk1 (i := 6) (v := ?v6a) rfl ?y6a ?r6a
  case y6a => (intro w' hSw; (try dsimp only at hSw); go_simp; (try with_reducible rfl))
  try simp only [Act.put, sq1, sq2, sq3, sq4, sq5, sq6]
  refine tk1 (i := 7) (v := ?v7a) rfl ?y7a ?r7a
  case y7a => (intro w' hSw; (try dsimp only at hSw); go_simp; (try with_reducible rfl))
  try simp only [Act.put, sq1, sq2, sq3, sq4, sq5, sq6]
  refine wpAnyH_ready (rs := [8, 9]) (by kernel_rfl) (by simp) ?_
  refine AllReadyH.cons (o := _) rfl (fun K hK => ?_) (AllReadyH.cons (o := _) rfl (fun K hK => ?_) AllReadyH.nil)
  · go_simp
    obtain ⟨p, hp⟩ : ∃ u, X.heap.size = u := ⟨_, rfl⟩
    (try have lpq := hid (show p < q by have := sp.out; omega))
    (try have lqp := hid (show q < p by have := sq.out; omega))
    (try replace DP := hid (DP.out.alloc (.cells #[.int .i64 0, .int .i64 0, .int .i64 0] 95)))
    (try replace DQ := hid (DQ.out.alloc (.cells #[.int .i64 0, .int .i64 0, .int .i64 0] 95)))
    have DP := hid (Blk.new X 95 #[.int .i64 0, .int .i64 0, .int .i64 0])
    have lp : w.heap.size ≤ p := by rw [← hp]; exact EX.size
    replace EX := EX.alloc (.cells #[.int .i64 0, .int .i64 0, .int .i64 0] 95)
    rw [hp] at DP ⊢
    clear hHeld
    refine hK.out _ _ (sK EX) (fun hHeld => ?_)
    clear hK K
    try simp only [Act.put, sq1, sq2, sq3, sq4, sq5, sq6]
    have sp := hid (show (X.alloc (.cells #[.int .i64 0, .int .i64 0, .int .i64 0] 95)).heap.size = p + 1 by simp [hp])
    obtain ⟨Y, hY⟩ : ∃ Y, X.alloc (.cells #[.int .i64 0, .int .i64 0, .int .i64 0] 95) = Y := ⟨_, rfl⟩
    rw [hY] at EX hHeld sp ⊢
    (try rw [hY] at DP)
    (try rw [hY] at DQ)
    clear hY hp
    obtain ⟨X, rfl⟩ : ∃ X, X = Y := ⟨Y, rfl⟩
    refine wpAnyH_ready (rs := [9]) (by kernel_rfl) (by simp) ?_
    refine AllReadyH.cons (o := _) rfl (fun K hK => ?_) AllReadyH.nil
    go_simp
    obtain ⟨q, hq⟩ : ∃ u, X.heap.size = u := ⟨_, rfl⟩
    (try have lpq := hid (show p < q by have := sp.out; omega))
    (try have lqp := hid (show q < p by have := sq.out; omega))
    (try replace DP := hid (DP.out.alloc (.cells #[.int .i64 0, .int .i64 0, .int .i64 0] 95)))
    (try replace DQ := hid (DQ.out.alloc (.cells #[.int .i64 0, .int .i64 0, .int .i64 0] 95)))
    have DQ := hid (Blk.new X 95 #[.int .i64 0, .int .i64 0, .int .i64 0])
    have lq : w.heap.size ≤ q := by rw [← hq]; exact EX.size
    replace EX := EX.alloc (.cells #[.int .i64 0, .int .i64 0, .int .i64 0] 95)
    rw [hq] at DQ ⊢
    clear hHeld
    refine hK.out _ _ (sK EX) (fun hHeld => ?_)
    clear hK K
    try simp only [Act.put, sq1, sq2, sq3, sq4, sq5, sq6]
    have sq := hid (show (X.alloc (.cells #[.int .i64 0, .int .i64 0, .int .i64 0] 95)).heap.size = q + 1 by simp [hq])
    obtain ⟨Y, hY⟩ : ∃ Y, X.alloc (.cells #[.int .i64 0, .int .i64 0, .int .i64 0] 95) = Y := ⟨_, rfl⟩
    rw [hY] at EX hHeld sq ⊢
    (try rw [hY] at DP)
    (try rw [hY] at DQ)
    clear hY hq
    obtain ⟨X, rfl⟩ : ∃ X, X = Y := ⟨Y, rfl⟩
    have hpq : ¬ p = q := by first | (have := lpq.out; omega) | (have := lqp.out; omega)
    refine wpAnyH_ready (rs := [10]) (by kernel_rfl) (by simp) ?_
    refine AllReadyH.cons (o := _) rfl (fun K hK => ?_) AllReadyH.nil
    refine wp_store_mid 95 _ _ rfl p 0 (#[.int .i64 xp, .int .i64 xl, .int .i64 xh]) rfl rfl (blk_there DP.out rfl) infoPoS (by simp [Value.oneCell']) ?_
    have E2 := ext_setCells EX lp [.int .i64 xp, .int .i64 xl, .int .i64 xh] 0
    have P2 := DP.out.fill [.int .i64 xp, .int .i64 xl, .int .i64 xh] 0
    have Q2 := DQ.out.others (fun h => hpq h.symm) [.int .i64 xp, .int .i64 xl, .int .i64 xh] 0
    simp only [fillA, List.setIfInBounds_toArray, List.set_cons_zero, List.set_cons_succ] at P2
    clear hHeld EX DP DQ
    refine hK.out _ _ (sK E2) (fun hHeld => ?_)
    clear hK K
    try simp only [Act.put, sq1, sq2, sq3, sq4, sq5, sq6]
    obtain ⟨Y, hY⟩ : ∃ Y, X.setCells p 0 [.int .i64 xp, .int .i64 xl, .int .i64 xh] = Y := ⟨_, rfl⟩
    rw [hY] at E2 P2 Q2 hHeld ⊢
    clear hY
    refine wpAnyH_ready (rs := [11]) (by kernel_rfl) (by simp) ?_
    refine AllReadyH.cons (o := _) rfl (fun K hK => ?_) AllReadyH.nil
    refine wp_store_mid 95 _ _ rfl q 0 (#[.int .i64 yp, .int .i64 yl, .int .i64 yh]) rfl rfl (blk_there Q2 rfl) infoPoS (by simp [Value.oneCell']) ?_
    have E3 := ext_setCells E2 lq [.int .i64 yp, .int .i64 yl, .int .i64 yh] 0
    have Q3 := Q2.fill [.int .i64 yp, .int .i64 yl, .int .i64 yh] 0
    have P3 := P2.others hpq [.int .i64 yp, .int .i64 yl, .int .i64 yh] 0
    simp only [fillA, List.setIfInBounds_toArray, List.set_cons_zero, List.set_cons_succ] at Q3
    clear hHeld E2 P2 Q2
    refine hK.out _ _ (sK E3) (fun hHeld => ?_)
    clear hK K
    try simp only [Act.put, sq1, sq2, sq3, sq4, sq5, sq6]
    obtain ⟨Z, hZ⟩ : ∃ Z, Y.setCells q 0 [.int .i64 yp, .int .i64 yl, .int .i64 yh] = Z := ⟨_, rfl⟩
    rw [hZ] at E3 P3 Q3 hHeld ⊢
    clear hZ
    clear hHeld
    refine wpAnyH_done (by kernel_rfl) ?_ _
    have H3 := hid E3
    obtain ⟨k0, k1, k2⟩ : _ ∧ _ ∧ _ := ⟨P3.cell 0, P3.cell 1, P3.cell 2⟩
    obtain ⟨m0, m1, m2⟩ : _ ∧ _ ∧ _ := ⟨Q3.cell 0, Q3.cell 1, Q3.cell 2⟩
    have zp := P3.lt
    have zq := Q3.lt
    simp only [List.getElem?_toArray, List.getElem?_cons_zero, List.getElem?_cons_succ] at k0 k1 k2 m0 m1 m2
    clear P3 Q3 E3 c0 c1 c2 d0 d1 d2
    go_wp2_with fail
    refine Calls.mono (HE1.out _) ?_
    rintro e w2 ⟨rfl, hE⟩
    (first | (have hK := KC.step (n := Z.heap.size) (by with_reducible assumption) hE) | (have hK := KC.step (KC.step (n := Z.heap.size) (by with_reducible assumption) (ext_alloc1 _ _)) hE) | (have hK := KC.step (KC.refl (n := Z.heap.size) (by simp)) hE)); have hC := hK.cell; have hF := hK.fro; have hX := hK.ext
    cases v1
    case false =>
      go_wp2_with fail
      refine Calls.mono (HE2.out _) ?_
      rintro e w3 ⟨rfl, hE9⟩
      go_wp2
      go_ret
      exact ⟨ret_bool (by simp), H3.out.trans ((show Ext Z w2 by (repeat' (first | with_reducible assumption | with_reducible exact Ext.refl _ | with_reducible refine Ext.alloc ?_ _ | with_reducible refine Ext.set ?_ ?_ _ | with_reducible refine Ext.drew ?_ | with_reducible refine Ext.drewN ?_ _ | with_reducible refine Ext.trans ?_ (by assumption) | (dsimp only; omega)))).trans hE9)⟩
    case true =>
      go_wp2
      go_ret
      exact ⟨ret_bool (by simp), H3.out.trans (by (repeat' (first | with_reducible assumption | with_reducible exact Ext.refl _ | with_reducible refine Ext.alloc ?_ _ | with_reducible refine Ext.set ?_ ?_ _ | with_reducible refine Ext.drew ?_ | with_reducible refine Ext.drewN ?_ _ | with_reducible refine Ext.trans ?_ (by assumption) | (dsimp only; omega))))⟩
  · go_simp
    obtain ⟨q, hq⟩ : ∃ u, X.heap.size = u := ⟨_, rfl⟩
    (try have lpq := hid (show p < q by have := sp.out; omega))
    (try have lqp := hid (show q < p by have := sq.out; omega))
    (try replace DP := hid (DP.out.alloc (.cells #[.int .i64 0, .int .i64 0, .int .i64 0] 95)))
    (try replace DQ := hid (DQ.out.alloc (.cells #[.int .i64 0, .int .i64 0, .int .i64 0] 95)))
    have DQ := hid (Blk.new X 95 #[.int .i64 0, .int .i64 0, .int .i64 0])
    have lq : w.heap.size ≤ q := by rw [← hq]; exact EX.size
    replace EX := EX.alloc (.cells #[.int .i64 0, .int .i64 0, .int .i64 0] 95)
    rw [hq] at DQ ⊢
    clear hHeld
    refine hK.out _ _ (sK EX) (fun hHeld => ?_)
    clear hK K
    try simp only [Act.put, sq1, sq2, sq3, sq4, sq5, sq6]
    have sq := hid (show (X.alloc (.cells #[.int .i64 0, .int .i64 0, .int .i64 0] 95)).heap.size = q + 1 by simp [hq])
    obtain ⟨Y, hY⟩ : ∃ Y, X.alloc (.cells #[.int .i64 0, .int .i64 0, .int .i64 0] 95) = Y := ⟨_, rfl⟩
    rw [hY] at EX hHeld sq ⊢
    (try rw [hY] at DP)
    (try rw [hY] at DQ)
    clear hY hq
    obtain ⟨X, rfl⟩ : ∃ X, X = Y := ⟨Y, rfl⟩
    refine wpAnyH_ready (rs := [8]) (by kernel_rfl) (by simp) ?_
    refine AllReadyH.cons (o := _) rfl (fun K hK => ?_) AllReadyH.nil
    go_simp
    obtain ⟨p, hp⟩ : ∃ u, X.heap.size = u := ⟨_, rfl⟩
    (try have lpq := hid (show p < q by have := sp.out; omega))
    (try have lqp := hid (show q < p by have := sq.out; omega))
    (try replace DP := hid (DP.out.alloc (.cells #[.int .i64 0, .int .i64 0, .int .i64 0] 95)))
    (try replace DQ := hid (DQ.out.alloc (.cells #[.int .i64 0, .int .i64 0, .int .i64 0] 95)))
    have DP := hid (Blk.new X 95 #[.int .i64 0, .int .i64 0, .int .i64 0])
    have lp : w.heap.size ≤ p := by rw [← hp]; exact EX.size
    replace EX := EX.alloc (.cells #[.int .i64 0, .int .i64 0, .int .i64 0] 95)
    rw [hp] at DP ⊢
    clear hHeld
    refine hK.out _ _ (sK EX) (fun hHeld => ?_)
    clear hK K
    try simp only [Act.put, sq1, sq2, sq3, sq4, sq5, sq6]
    have sp := hid (show (X.alloc (.cells #[.int .i64 0, .int .i64 0, .int .i64 0] 95)).heap.size = p + 1 by simp [hp])
    obtain ⟨Y, hY⟩ : ∃ Y, X.alloc (.cells #[.int .i64 0, .int .i64 0, .int .i64 0] 95) = Y := ⟨_, rfl⟩
    rw [hY] at EX hHeld sp ⊢
    (try rw [hY] at DP)
    (try rw [hY] at DQ)
    clear hY hp
    obtain ⟨X, rfl⟩ : ∃ X, X = Y := ⟨Y, rfl⟩
    have hpq : ¬ p = q := by first | (have := lpq.out; omega) | (have := lqp.out; omega)
    refine wpAnyH_ready (rs := [10]) (by kernel_rfl) (by simp) ?_
    refine AllReadyH.cons (o := _) rfl (fun K hK => ?_) AllReadyH.nil
    refine wp_store_mid 95 _ _ rfl p 0 (#[.int .i64 xp, .int .i64 xl, .int .i64 xh]) rfl rfl (blk_there DP.out rfl) infoPoS (by simp [Value.oneCell']) ?_
    have E2 := ext_setCells EX lp [.int .i64 xp, .int .i64 xl, .int .i64 xh] 0
    have P2 := DP.out.fill [.int .i64 xp, .int .i64 xl, .int .i64 xh] 0
    have Q2 := DQ.out.others (fun h => hpq h.symm) [.int .i64 xp, .int .i64 xl, .int .i64 xh] 0
    simp only [fillA, List.setIfInBounds_toArray, List.set_cons_zero, List.set_cons_succ] at P2
    clear hHeld EX DP DQ
    refine hK.out _ _ (sK E2) (fun hHeld => ?_)
    clear hK K
    try simp only [Act.put, sq1, sq2, sq3, sq4, sq5, sq6]
    obtain ⟨Y, hY⟩ : ∃ Y, X.setCells p 0 [.int .i64 xp, .int .i64 xl, .int .i64 xh] = Y := ⟨_, rfl⟩
    rw [hY] at E2 P2 Q2 hHeld ⊢
    clear hY
    refine wpAnyH_ready (rs := [11]) (by kernel_rfl) (by simp) ?_
    refine AllReadyH.cons (o := _) rfl (fun K hK => ?_) AllReadyH.nil
    refine wp_store_mid 95 _ _ rfl q 0 (#[.int .i64 yp, .int .i64 yl, .int .i64 yh]) rfl rfl (blk_there Q2 rfl) infoPoS (by simp [Value.oneCell']) ?_
    have E3 := ext_setCells E2 lq [.int .i64 yp, .int .i64 yl, .int .i64 yh] 0
    have Q3 := Q2.fill [.int .i64 yp, .int .i64 yl, .int .i64 yh] 0
    have P3 := P2.others hpq [.int .i64 yp, .int .i64 yl, .int .i64 yh] 0
    simp only [fillA, List.setIfInBounds_toArray, List.set_cons_zero, List.set_cons_succ] at Q3
    clear hHeld E2 P2 Q2
    refine hK.out _ _ (sK E3) (fun hHeld => ?_)
    clear hK K
    try simp only [Act.put, sq1, sq2, sq3, sq4, sq5, sq6]
    obtain ⟨Z, hZ⟩ : ∃ Z, Y.setCells q 0 [.int .i64 yp, .int .i64 yl, .int .i64 yh] = Z := ⟨_, rfl⟩
    rw [hZ] at E3 P3 Q3 hHeld ⊢
    clear hZ
    clear hHeld
    refine wpAnyH_done (by kernel_rfl) ?_ _
    have H3 := hid E3
    obtain ⟨k0, k1, k2⟩ : _ ∧ _ ∧ _ := ⟨P3.cell 0, P3.cell 1, P3.cell 2⟩
    obtain ⟨m0, m1, m2⟩ : _ ∧ _ ∧ _ := ⟨Q3.cell 0, Q3.cell 1, Q3.cell 2⟩
    have zp := P3.lt
    have zq := Q3.lt
    simp only [List.getElem?_toArray, List.getElem?_cons_zero, List.getElem?_cons_succ] at k0 k1 k2 m0 m1 m2
    clear P3 Q3 E3 c0 c1 c2 d0 d1 d2
    go_wp2_with fail
    refine Calls.mono (HE1.out _) ?_
    rintro e w2 ⟨rfl, hE⟩
    (first | (have hK := KC.step (n := Z.heap.size) (by with_reducible assumption) hE) | (have hK := KC.step (KC.step (n := Z.heap.size) (by with_reducible assumption) (ext_alloc1 _ _)) hE) | (have hK := KC.step (KC.refl (n := Z.heap.size) (by simp)) hE)); have hC := hK.cell; have hF := hK.fro; have hX := hK.ext
    cases v1
    case false =>
      go_wp2_with fail
      refine Calls.mono (HE2.out _) ?_
      rintro e w3 ⟨rfl, hE9⟩
      go_wp2
      go_ret
      exact ⟨ret_bool (by simp), H3.out.trans ((show Ext Z w2 by (repeat' (first | with_reducible assumption | with_reducible exact Ext.refl _ | with_reducible refine Ext.alloc ?_ _ | with_reducible refine Ext.set ?_ ?_ _ | with_reducible refine Ext.drew ?_ | with_reducible refine Ext.drewN ?_ _ | with_reducible refine Ext.trans ?_ (by assumption) | (dsimp only; omega)))).trans hE9)⟩
    case true =>
      go_wp2
      go_ret
      exact ⟨ret_bool (by simp), H3.out.trans (by (repeat' (first | with_reducible assumption | with_reducible exact Ext.refl _ | with_reducible refine Ext.alloc ?_ _ | with_reducible refine Ext.set ?_ ?_ _ | with_reducible refine Ext.drew ?_ | with_reducible refine Ext.drewN ?_ _ | with_reducible refine Ext.trans ?_ (by assumption) | (dsimp only; omega))))⟩
end Go.Proofs.YtggggnjibedgaaaGreat
/- members and sooner of the specification. -/
set_option linter.unusedSimpArgs false
set_option linter.unusedVariables false
namespace Go.Proofs.YtggggnjibedgaaaGreat
open Go.RowKit
theorem shr_all : ((List.range 256).all fun x => (List.range 9).all fun i => (x >>> i == 0) == decide (lenN x ≤ i)) = true := by decide +kernel
theorem shr_zero {x i : Nat} (h : x < 256) (hi : i ≤ 8) : (x >>> i == 0) = decide (lenN x ≤ i) :=
  eq_of_beq (List.all_eq_true.1 (List.all_eq_true.1 shr_all x (List.mem_range.2 h)) i (List.mem_range.2 (by omega)))
def memL (x : Nat) : List Int := (elemsL 8 x).map fun (i : Nat) => (i : Int)
set_option maxRecDepth 100000 in
set_option maxHeartbeats 4000000 in
theorem rmembers_any (x : Nat) (hx : x < 256) (w : World) :
    Calls Tryz.prog 77 #[.int .i64 x] w fun e w' => ∃ A c, e = .returned (.slice A (memL x).length c) ∧ IntsAt w' A (memL x) ∧ Ext w w' := by
  have HSH := hid (fun i (hi : i ≤ 8) => shr_zero hx hi)
  have HDV := hid (fun i : Nat => show (x : Int) / 2 ^ i = ((x >>> i : Nat) : Int) by rw [Nat.shiftRight_eq_div_pow]; simp)
  have HON := hid (fun i : Nat => show (bits BinOp.and IntKind.i64 ((x >>> i : Nat) : Int) 1 == 1) = hasB x i from one_at (by rw [Nat.shiftRight_eq_div_pow]; exact Nat.lt_of_le_of_lt (Nat.div_le_self _ _) hx))
  have HS := hid (fun k => numK_succ x k)
  have HK := hid (fun k => numK_len x k)
  have H0 := hid (show numK x 0 = [] from rfl)
  have h8 := lenN_le x
  have HEN := hid (show memL x = numK x (lenN x) from (numK_end hx).symm)
  clear hx
  rw [HEN.out]
  generalize numK x = NK at *
  generalize lenN x = n at *
  generalize hasB x = hb at *
  generalize hSF : (fun i => x >>> i) = SF at *
  have hSe : ∀ i, x >>> i = SF i := fun i => by rw [← hSF]
  simp only [hSe] at HSH HDV HON
  clear hSF hSe HEN
  go_enter Tryz.func77, Tryz.ntmps77
  go_wp2
  go_loopw [3, 4] (fun v i wr => Ext w wr ∧ ∃ (k : Nat) (A : Option Addr) (c : Nat), k ≤ n ∧ i = .int .i64 k ∧ v = .slice A (NK k).length c ∧ Hid (Ownl 3 1 gIn wr w.heap.size (.slice A (NK k).length c) (NK k))) (fun _ i _ => n - (intOf i).toNat)
  case atStart => exact ⟨by (repeat' (first | with_reducible assumption | with_reducible exact Ext.refl _ | with_reducible refine Ext.alloc ?_ _ | with_reducible refine Ext.set ?_ ?_ _ | with_reducible refine Ext.drew ?_ | with_reducible refine Ext.drewN ?_ _ | with_reducible refine Ext.trans ?_ (by assumption) | (dsimp only; omega))), 0, none, 0, Nat.zero_le _, rfl, by rw [H0.out]; rfl, hid (by rw [H0.out]; exact Ownl.nil _ _)⟩
  case round =>
    obtain ⟨hE, k, A2, c2, hk, rfl, rfl, HV⟩ := hrel
    have hu : IntKind.u64.wrap (k : Int) = (k : Int) := by rw [IntKind.wrap_u64]; omega
    have hd := HDV.out k
    have hsh := HSH.out k (by omega)
    have hon := HON.out k
    have HST := hid (HS.out k)
    have hkl := HK.out k
    clear HDV HSH HON HS HK H0
    generalize SF k = y at *
    generalize hb k = bk at *
    have hwr : w.heap.size ≤ wr.heap.size := hE.size
    by_cases hlt : k < n
    · have hy0 : ((y : Int) != 0) = true := by
        have : (y == 0) = false := by rw [hsh]; exact decide_eq_false (by omega)
        simp at this ⊢
        omega
      clear hsh
      cases bk
      · rw [if_neg (by decide)] at HST
        go_wp2_with (first | simp only [hu] | simp only [hd])
        go_roundw
        case rel => exact ⟨hE, k + 1, A2, c2, by omega, by go_num, by rw [HST.out], hid (by rw [HST.out]; exact HV.out)⟩
        case measure => simp [intOf]; omega
      · rw [if_pos rfl] at HST
        generalize NK k = acc at *
        go_wp2_with (first | (at_builtin; refine Halt.mk ?_) | simp only [hu] | simp only [hd])
        unfold Halt
        have BN := hid (show Blk (wr.alloc (.cells #[.int .i64 (k : Int)] 3)) wr.heap.size 3 #[.int .i64 (k : Int)] from blk_last _ _)
        refine wpList_app1In _ rfl _ _ rfl w.heap.size (.slice A2 acc.length c2) acc rfl (HV.out.ext (ext_alloc1 _ _)) wr.heap.size (k : Int) rfl BN.out (by omega) (by simp; omega) ?_
        intro v4 w4 hO hg _
        have E4 := hid (HV.out.extApp hE (Nat.le_refl _) hg)
        obtain ⟨A4, c4, rfl, -, -⟩ := ownIn hO
        have V4 := hid hO
        clear hO hg HV BN
        go_wp2
        go_roundw
        case rel => exact ⟨E4.out, k + 1, A4, c4, by omega, by go_num, by rw [HST.out]; first | rfl | simp, hid (by rw [HST.out]; exact V4.out)⟩
        case measure => simp [intOf]; omega
    · obtain rfl : k = n := by omega
      have hy0 : ((y : Int) != 0) = false := by
        have : (y == 0) = true := by rw [hsh]; exact decide_eq_true (by omega)
        simp at this ⊢
        omega
      clear hsh
      go_wp2_with (first | simp only [hu] | simp only [hd])
      obtain ⟨A3, c3, e3, -, h3⟩ := ownIn HV.out
      go_ret
      exact ⟨A2, c2, rfl, by cases e3; exact h3, hE⟩
def soonL (xs ys : List Int) : Bool := if xs.length = ys.length then (match (List.range xs.length).find? fun i => !(xs.getD i 0 == ys.getD i 0) with | some i => decide (xs.getD i 0 < ys.getD i 0) | none => false) else decide (xs.length < ys.length)
theorem soon_all : ((List.range 256).all fun s => (List.range 256).all fun t => soonL (memL s) (memL t) == befB s t) = true := by decide +kernel
theorem soon_bef {s t : Nat} (hs : s < 256) (ht : t < 256) : soonL (memL s) (memL t) = befB s t :=
  eq_of_beq (List.all_eq_true.1 (List.all_eq_true.1 soon_all s (List.mem_range.2 hs)) t (List.mem_range.2 ht))
end Go.Proofs.YtggggnjibedgaaaGreat
