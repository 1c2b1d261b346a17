/- CheckPosts of the specification, and the program's Level. -/
import Derived.Test.YtdhljpngkeobcaaGreatBTopPosts23
import Derived.Test.YtdhljpngkeobcaaGreatB14
import Derived.Test.YtdhljpngkeobcaaGreatBTopPosts22
import Derived.Test.YtdhljpngkeobcaaGreatBTopPosts21
import Derived.Test.YtdhljpngkeobcaaGreatB13
import Derived.Test.YtdhljpngkeobcaaGreatB02
set_option linter.unusedSimpArgs false
set_option linter.unusedVariables false
namespace Go.Proofs.YtdhljpngkeobcaaGreat
open Go.RowKit
set_option maxRecDepth 100000 in
set_option maxHeartbeats 2000000 in
theorem rCheckPosts_any (ps : List Po) (lim : Int) (told : Bool) (A : Option Addr) (n c : Nat) (hn : ps.length = n) (hm : n ≤ 1000) (w : World) (hx : PosAt w A ps) :
    Calls Tryz.prog 52 #[.slice A n c, .int .i64 lim, .bool told] w fun e w' => e = .returned (.int .i64 (if posB ps then (if inI lim 0 1000 && told then 0 else 1) else 94)) ∧ Ext w w' := by
  have HA := hid (fun (W : World) (hE : Ext w W) => rArePosts_any ps A n c hn hm W (hx.ext hE))
  have HW := hid (fun a b c W => rwithin_any a b c W)
  clear hx hn
  generalize posB ps = b1 at *
  obtain ⟨b2, h2⟩ : ∃ b, inI lim 0 1000 = b := ⟨_, rfl⟩
  rw [h2]
  obtain ⟨RR, hRR⟩ : ∃ v, (if b1 then (if b2 && told then (0 : Int) else 1) else 94) = v := ⟨_, rfl⟩
  rw [hRR]
  have HRR := hid hRR
  clear hRR
  cases b1
  case false =>
    go_enter Tryz.func52, Tryz.ntmps52
    go_wp2_with (go_at_call 98; refine (HA.out _ (by (repeat' (first | with_reducible assumption | with_reducible exact Ext.refl _ | with_reducible refine Ext.alloc ?_ _ | with_reducible refine Ext.set ?_ ?_ _ | with_reducible refine Ext.drew ?_ | with_reducible refine Ext.drewN ?_ _ | with_reducible refine Ext.trans ?_ (by assumption) | (dsimp only; omega))))).mono ?_; rintro e w2 ⟨rfl, hE⟩; (first | (have hK := KC.step (n := w.heap.size) (by with_reducible assumption) hE) | (have hK := KC.step (KC.step (n := w.heap.size) (by with_reducible assumption) (ext_alloc1 _ _)) hE) | (have hK := KC.step (KC.refl (n := w.heap.size) (by simp)) hE)); have hC := hK.cell; have hF := hK.fro; have hX := hK.ext)
    go_ret
    exact ⟨ret_int (by rw [← HRR.out]; simp), by (repeat' (first | with_reducible assumption | with_reducible exact Ext.refl _ | with_reducible refine Ext.alloc ?_ _ | with_reducible refine Ext.set ?_ ?_ _ | with_reducible refine Ext.drew ?_ | with_reducible refine Ext.drewN ?_ _ | with_reducible refine Ext.trans ?_ (by assumption) | (dsimp only; omega)))⟩
  cases b2 <;> cases told <;>
  (go_enter Tryz.func52, Tryz.ntmps52
   go_wp2_with (first
     | (go_at_call 98; refine (HA.out _ (by (repeat' (first | with_reducible assumption | with_reducible exact Ext.refl _ | with_reducible refine Ext.alloc ?_ _ | with_reducible refine Ext.set ?_ ?_ _ | with_reducible refine Ext.drew ?_ | with_reducible refine Ext.drewN ?_ _ | with_reducible refine Ext.trans ?_ (by assumption) | (dsimp only; omega))))).mono ?_; rintro e w2 ⟨rfl, hE⟩; (first | (have hK := KC.step (n := w.heap.size) (by with_reducible assumption) hE) | (have hK := KC.step (KC.step (n := w.heap.size) (by with_reducible assumption) (ext_alloc1 _ _)) hE) | (have hK := KC.step (KC.refl (n := w.heap.size) (by simp)) hE)); have hC := hK.cell; have hF := hK.fro; have hX := hK.ext)
     | (go_at_call 76; refine (HW.out _ _ _ _).mono ?_; rintro e w2 ⟨rfl, rfl⟩; simp only [h2]))
   go_ret
   exact ⟨ret_int (by rw [← HRR.out]; simp), by (repeat' (first | with_reducible assumption | with_reducible exact Ext.refl _ | with_reducible refine Ext.alloc ?_ _ | with_reducible refine Ext.set ?_ ?_ _ | with_reducible refine Ext.drew ?_ | with_reducible refine Ext.drewN ?_ _ | with_reducible refine Ext.trans ?_ (by assumption) | (dsimp only; omega)))⟩)
/-- The number of years up to which all stay level. -/
def lvlN (ps : List Po) (lim : Int) : Nat := ((List.range 100).find? fun (y : Nat) => !levB ps lim ((y : Int) + 1)).getD 100
theorem lvl_at {ps : List Po} {lim : Int} {k : Nat} (hk : k < 100) (ha : ∀ j : Nat, j < k → levB ps lim ((j : Int) + 1) = true) (hn : levB ps lim ((k : Int) + 1) = false) : lvlN ps lim = k := by
  unfold lvlN
  have hf : (List.range 100).find? (fun y : Nat => !levB ps lim ((y : Int) + 1)) = some k := by
    rw [List.find?_range_eq_some]
    exact ⟨by rw [hn]; rfl, List.mem_range.2 hk, fun j hj => by rw [ha j hj]; rfl⟩
  rw [hf]; rfl
theorem lvl_end {ps : List Po} {lim : Int} (ha : ∀ j : Nat, j < 100 → levB ps lim ((j : Int) + 1) = true) : lvlN ps lim = 100 := by
  unfold lvlN
  have hf : (List.range 100).find? (fun y : Nat => !levB ps lim ((y : Int) + 1)) = none := by
    rw [List.find?_range_eq_none]
    intro j hj
    rw [ha j hj]; rfl
  rw [hf]; rfl
def lvlV (ps : List Po) (lim : Int) : Int := if posE ps lim 0 = 0 then (lvlN ps lim : Int) else 0
theorem poOk_of {p : Po} (h : poB p = true) : PoOk p := by
  unfold poB inI spB at h
  simp only [Bool.and_eq_true, decide_eq_true_eq] at h
  unfold PoOk
  omega
set_option maxRecDepth 100000 in
set_option maxHeartbeats 4000000 in
theorem plevel_any (ps : List Po) (lim : Int) (A : Option Addr) (n c : Nat) (hn : ps.length = n) (hm : n ≤ 1000) (hc : n ≤ c) (w : World) (hx : PosAt w A ps) :
    Calls Tryz.prog 38 #[.slice A n c, .int .i64 lim] w fun e w' => e = .returned (.tuple #[.int .i64 (lvlV ps lim), .int .i64 (posE ps lim 0)]) ∧ Ext w w' := by
  have HCK := hid (fun (W : World) (hE : Ext w W) => checkPosts_any ps lim 0 A n c hn hm W (hx.ext hE))
  by_cases h0 : posE ps lim 0 = 0
  · obtain ⟨hb, hl, hy⟩ := posE_ok h0
    obtain ⟨h8, hp⟩ := posB_ok hb
    have HL := hid (fun (y : Nat) (hy : y < 100) (W : World) (hE : Ext w W) => isLevel_any ps lim ((y : Int) + 1) A n c hn hm hc (fun p h => poOk_of (by
      have ha : ps.all poB = true := by
        unfold posB at hb
        simp only [Bool.and_eq_true] at hb
        exact hb.1.2
      exact List.all_eq_true.1 ha p h)) (by omega) (by omega) W (hx.ext hE))
    have hv : lvlV ps lim = lvlN ps lim := by unfold lvlV; rw [if_pos h0]
    rw [hv, h0]
    rw [h0] at HCK
    have HA9 := hid (fun k (hk : k < 100) ha hn => lvl_at (ps := ps) (lim := lim) (k := k) hk ha hn)
    have HE9 := hid (fun ha => lvl_end (ps := ps) (lim := lim) ha)
    clear hx hn hb hl hy h8 hp h0 hv
    generalize hLB : (fun y : Int => levB ps lim y) = LB at *
    have hLe : ∀ y, levB ps lim y = LB y := fun y => by rw [← hLB]
    simp only [hLe] at HL HA9 HE9
    clear hLB hLe
    generalize lvlN ps lim = N at *
    go_enter Tryz.func38, Tryz.ntmps38
    go_wp2_with (go_at_call 90; refine (HCK.out _ (by (repeat' (first | with_reducible assumption | with_reducible exact Ext.refl _ | with_reducible refine Ext.alloc ?_ _ | with_reducible refine Ext.set ?_ ?_ _ | with_reducible refine Ext.drew ?_ | with_reducible refine Ext.drewN ?_ _ | with_reducible refine Ext.trans ?_ (by assumption) | (dsimp only; omega))))).mono ?_; rintro e w2 ⟨rfl, hE⟩; (first | (have hK := KC.step (n := w.heap.size) (by with_reducible assumption) hE) | (have hK := KC.step (KC.step (n := w.heap.size) (by with_reducible assumption) (ext_alloc1 _ _)) hE) | (have hK := KC.step (KC.refl (n := w.heap.size) (by simp)) hE)); have hC := hK.cell; have hF := hK.fro; have hX := hK.ext)
    have HX2 := hid (show Ext w w2 by (repeat' (first | with_reducible assumption | with_reducible exact Ext.refl _ | with_reducible refine Ext.alloc ?_ _ | with_reducible refine Ext.set ?_ ?_ _ | with_reducible refine Ext.drew ?_ | with_reducible refine Ext.drewN ?_ _ | with_reducible refine Ext.trans ?_ (by assumption) | (dsimp only; omega))))
    go_loopw [14] (fun i wr => Ext w wr ∧ ∃ k : Nat, k ≤ 100 ∧ i = .int .i64 k ∧ Hid (∀ j : Nat, j < k → LB ((j : Int) + 1) = true)) (fun i _ => 100 - (intOf i).toNat)
    case atStart => exact ⟨HX2.out, 0, Nat.zero_le _, rfl, hid (fun j hj => by omega)⟩
    case round =>
      obtain ⟨hE, k, hk, rfl, HA⟩ := hrel
      clear hC hF hX hK
      by_cases hlt : k < 100
      · have hw1 : IntKind.i64.wrap ((k : Int) + 1) = (k : Int) + 1 := IntWalk.i64_in _ (by omega)
        have HLk := hid (fun W e => HL.out k hlt W e)
        have HAk := hid (HA9.out k hlt HA.out)
        clear HL HA9 HE9
        obtain ⟨lb, hlb⟩ : ∃ lb, LB ((k : Int) + 1) = lb := ⟨_, rfl⟩
        rw [hlb] at HLk HAk
        have HLB := hid hlb
        clear hlb
        have hki : (k : Int) < 100 := by omega
        cases lb
        · have HR := hid (HAk.out rfl)
          go_wp2_with (go_at_call 91; refine (HLk.out _ (by (repeat' (first | with_reducible assumption | with_reducible exact Ext.refl _ | with_reducible refine Ext.alloc ?_ _ | with_reducible refine Ext.set ?_ ?_ _ | with_reducible refine Ext.drew ?_ | with_reducible refine Ext.drewN ?_ _ | with_reducible refine Ext.trans ?_ (by assumption) | (dsimp only; omega))))).mono ?_; rintro e w3 ⟨rfl, hE3⟩)
          go_ret2
          exact ⟨by rw [HR.out]; rfl, hE.trans hE3⟩
        · have HA2 := hid (show ∀ j : Nat, j < k + 1 → LB ((j : Int) + 1) = true from fun j hj => by
            rcases Nat.lt_succ_iff_lt_or_eq.1 hj with h | rfl
            · exact HA.out j h
            · exact HLB.out)
          go_wp2_with (go_at_call 91; refine (HLk.out _ (by (repeat' (first | with_reducible assumption | with_reducible exact Ext.refl _ | with_reducible refine Ext.alloc ?_ _ | with_reducible refine Ext.set ?_ ?_ _ | with_reducible refine Ext.drew ?_ | with_reducible refine Ext.drewN ?_ _ | with_reducible refine Ext.trans ?_ (by assumption) | (dsimp only; omega))))).mono ?_; rintro e w3 ⟨rfl, hE3⟩)
          go_roundw
          case rel => exact ⟨hE.trans hE3, k + 1, by omega, by go_num, HA2⟩
          case measure => simp [intOf]; omega
      · obtain rfl : k = 100 := by omega
        have HR := hid (HE9.out HA.out)
        clear HL HA9 HE9
        go_wp2
        go_ret2
        exact ⟨by rw [HR.out]; rfl, hE⟩
  · have hv : lvlV ps lim = 0 := by unfold lvlV; rw [if_neg h0]
    rw [hv]
    clear hv hx hn
    have hne : (posE ps lim 0 != 0) = true := by simp [h0]
    generalize posE ps lim 0 = E at *
    go_enter Tryz.func38, Tryz.ntmps38
    go_wp2_with (go_at_call 90; refine (HCK.out _ (by (repeat' (first | with_reducible assumption | with_reducible exact Ext.refl _ | with_reducible refine Ext.alloc ?_ _ | with_reducible refine Ext.set ?_ ?_ _ | with_reducible refine Ext.drew ?_ | with_reducible refine Ext.drewN ?_ _ | with_reducible refine Ext.trans ?_ (by assumption) | (dsimp only; omega))))).mono ?_; rintro e w2 ⟨rfl, hE⟩; (first | (have hK := KC.step (n := w.heap.size) (by with_reducible assumption) hE) | (have hK := KC.step (KC.step (n := w.heap.size) (by with_reducible assumption) (ext_alloc1 _ _)) hE) | (have hK := KC.step (KC.refl (n := w.heap.size) (by simp)) hE)); have hC := hK.cell; have hF := hK.fro; have hX := hK.ext)
    go_ret2
    exact ⟨rfl, by (repeat' (first | with_reducible assumption | with_reducible exact Ext.refl _ | with_reducible refine Ext.alloc ?_ _ | with_reducible refine Ext.set ?_ ?_ _ | with_reducible refine Ext.drew ?_ | with_reducible refine Ext.drewN ?_ _ | with_reducible refine Ext.trans ?_ (by assumption) | (dsimp only; omega)))⟩
end Go.Proofs.YtdhljpngkeobcaaGreat
/- Level of the specification. -/
set_option linter.unusedSimpArgs false
set_option linter.unusedVariables false
namespace Go.Proofs.YtdhljpngkeobcaaGreat
open Go.RowKit
theorem all_elems : ((List.range 9).all fun n => elemsL 8 (2 ^ n - 1) == List.range n) = true := by decide +kernel
theorem elems_all {n : Nat} (h : n ≤ 8) : elemsL 8 (2 ^ n - 1) = List.range n := eq_of_beq (List.all_eq_true.1 all_elems n (List.mem_range.2 (by omega)))
theorem map_range (ps : List Po) : ((List.range ps.length).map fun e => ps.getD e zeroPo) = ps := by
  refine List.ext_getElem (by simp) fun i h1 h2 => ?_
  simp [List.getD, List.getElem?_eq_getElem h2]
theorem two_pow {n : Nat} (h : n ≤ 8) : 1 ≤ 2 ^ n ∧ 2 ^ n ≤ 256 := ⟨Nat.one_le_two_pow, Nat.pow_le_pow_right (n := 2) (by decide) h⟩
theorem pow_wrap {n : Nat} (h : n ≤ 8) : wrap64 (wrap64 ((2 : Int) ^ n) - 1) = ((2 ^ n - 1 : Nat) : Int) := by
  have h2 := two_pow h
  have e : (2 : Int) ^ n = ((2 ^ n : Nat) : Int) := by simp
  rw [e]
  generalize 2 ^ n = z at *
  unfold wrap64
  omega
set_option maxRecDepth 100000 in
set_option maxHeartbeats 4000000 in
theorem rLevel_any (ps : List Po) (lim : Int) (A : Option Addr) (n c : Nat) (hn : ps.length = n) (hm : n ≤ 1000) (w : World) (hx : PosAt w A ps) :
    Calls Tryz.prog 39 #[.slice A n c, .int .i64 lim] w fun e w' => e = .returned (.tuple #[.int .i64 (lvlV ps lim), .int .i64 (posE ps lim 0)]) ∧ Ext w w' := by
  have HCK := hid (fun (W : World) (hE : Ext w W) => rCheckPosts_any ps lim true A n c hn hm W (hx.ext hE))
  have he : (if posB ps then (if inI lim 0 1000 && true then (0 : Int) else 1) else 94) = posE ps lim 0 := by
    unfold posE
    have : inI 0 0 100 = true := by decide
    rw [this]
  rw [he] at HCK
  clear he
  by_cases h0 : posE ps lim 0 = 0
  · obtain ⟨hb, hl, hy⟩ := posE_ok h0
    have h8 := (posB_ok hb).1
    rw [hn] at h8
    have hap : ∀ p ∈ ps, poB p = true := by
      have ha : ps.all poB = true := by
        unfold posB at hb
        simp only [Bool.and_eq_true] at hb
        exact hb.1.2
      exact List.all_eq_true.1 ha
    have h2p := two_pow h8
    have HL := hid (fun (y : Nat) (hy : y < 100) (W : World) (hE : Ext w W) => by
      have := rlevel_any ps (2 ^ n - 1) (by omega) (fun e h => by rw [elems_all h8] at h; rw [hn]; exact List.mem_range.1 h) A n c hn hap lim ((y : Int) + 1) hl (by omega) W (hx.ext hE)
      rw [elems_all h8, lvS_levB, ← hn, map_range] at this
      rw [hn] at this
      exact this)
    have hv : lvlV ps lim = lvlN ps lim := by unfold lvlV; rw [if_pos h0]
    rw [hv, h0]
    rw [h0] at HCK
    have HA9 := hid (fun k (hk : k < 100) ha hn => lvl_at (ps := ps) (lim := lim) (k := k) hk ha hn)
    have HE9 := hid (fun ha => lvl_end (ps := ps) (lim := lim) ha)
    clear hx hn hb hl hy h0 hv hap
    generalize hLB : (fun y : Int => levB ps lim y) = LB at *
    have hLe : ∀ y, levB ps lim y = LB y := fun y => by rw [← hLB]
    simp only [hLe] at HL HA9 HE9
    clear hLB hLe
    generalize lvlN ps lim = N at *
    have hu : IntKind.u64.wrap (n : Int) = (n : Int) := by rw [IntKind.wrap_u64]; omega
    go_enter Tryz.func39, Tryz.ntmps39
    go_wp2_with (go_at_call 52; refine (HCK.out _ (by (repeat' (first | with_reducible assumption | with_reducible exact Ext.refl _ | with_reducible refine Ext.alloc ?_ _ | with_reducible refine Ext.set ?_ ?_ _ | with_reducible refine Ext.drew ?_ | with_reducible refine Ext.drewN ?_ _ | with_reducible refine Ext.trans ?_ (by assumption) | (dsimp only; omega))))).mono ?_; rintro e w2 ⟨rfl, hE⟩; (first | (have hK := KC.step (n := w.heap.size) (by with_reducible assumption) hE) | (have hK := KC.step (KC.step (n := w.heap.size) (by with_reducible assumption) (ext_alloc1 _ _)) hE) | (have hK := KC.step (KC.refl (n := w.heap.size) (by simp)) hE)); have hC := hK.cell; have hF := hK.fro; have hX := hK.ext)
    have HX2 := hid (show Ext w w2 by (repeat' (first | with_reducible assumption | with_reducible exact Ext.refl _ | with_reducible refine Ext.alloc ?_ _ | with_reducible refine Ext.set ?_ ?_ _ | with_reducible refine Ext.drew ?_ | with_reducible refine Ext.drewN ?_ _ | with_reducible refine Ext.trans ?_ (by assumption) | (dsimp only; omega))))
    go_loopw [7] (fun i wr => Ext w wr ∧ ∃ k : Nat, k ≤ 100 ∧ i = .int .i64 k ∧ Hid (∀ j : Nat, j < k → LB ((j : Int) + 1) = true)) (fun i _ => 100 - (intOf i).toNat)
    case atStart => exact ⟨HX2.out, 0, Nat.zero_le _, rfl, hid (fun j hj => by omega)⟩
    case round =>
      obtain ⟨hE, k, hk, rfl, HA⟩ := hrel
      clear hC hF hX hK
      by_cases hlt : k < 100
      · have hw1 : IntKind.i64.wrap ((k : Int) + 1) = (k : Int) + 1 := IntWalk.i64_in _ (by omega)
        have HLk := hid (fun W e => HL.out k hlt W e)
        have HAk := hid (HA9.out k hlt HA.out)
        clear HL HA9 HE9
        obtain ⟨lb, hlb⟩ : ∃ lb, LB ((k : Int) + 1) = lb := ⟨_, rfl⟩
        rw [hlb] at HLk HAk
        have HLB := hid hlb
        clear hlb
        have hki : (k : Int) < 100 := by omega
        have hpw := pow_wrap h8
        go_wp2_with (simp only [hu])
        rw [hpw]
        refine Calls.mono (HLk.out _ (by (repeat' (first | with_reducible assumption | with_reducible exact Ext.refl _ | with_reducible refine Ext.alloc ?_ _ | with_reducible refine Ext.set ?_ ?_ _ | with_reducible refine Ext.drew ?_ | with_reducible refine Ext.drewN ?_ _ | with_reducible refine Ext.trans ?_ (by assumption) | (dsimp only; omega))))) ?_
        rintro e w3 ⟨rfl, hE3⟩
        cases lb
        · have HR := hid (HAk.out rfl)
          go_wp2
          go_ret2
          exact ⟨by rw [HR.out]; rfl, hE.trans hE3⟩
        · have HA2 := hid (show ∀ j : Nat, j < k + 1 → LB ((j : Int) + 1) = true from fun j hj => by
            rcases Nat.lt_succ_iff_lt_or_eq.1 hj with h | rfl
            · exact HA.out j h
            · exact HLB.out)
          go_wp2
          go_roundw
          case rel => exact ⟨hE.trans hE3, k + 1, by omega, by go_num, HA2⟩
          case measure => simp [intOf]; omega
      · obtain rfl : k = 100 := by omega
        have HR := hid (HE9.out HA.out)
        clear HL HA9 HE9
        go_wp2
        go_ret2
        exact ⟨by rw [HR.out]; rfl, hE⟩
  · have hv : lvlV ps lim = 0 := by unfold lvlV; rw [if_neg h0]
    rw [hv]
    clear hv hx hn
    have hne : (posE ps lim 0 != 0) = true := by simp [h0]
    generalize posE ps lim 0 = E at *
    go_enter Tryz.func39, Tryz.ntmps39
    go_wp2_with (go_at_call 52; refine (HCK.out _ (by (repeat' (first | with_reducible assumption | with_reducible exact Ext.refl _ | with_reducible refine Ext.alloc ?_ _ | with_reducible refine Ext.set ?_ ?_ _ | with_reducible refine Ext.drew ?_ | with_reducible refine Ext.drewN ?_ _ | with_reducible refine Ext.trans ?_ (by assumption) | (dsimp only; omega))))).mono ?_; rintro e w2 ⟨rfl, hE⟩; (first | (have hK := KC.step (n := w.heap.size) (by with_reducible assumption) hE) | (have hK := KC.step (KC.step (n := w.heap.size) (by with_reducible assumption) (ext_alloc1 _ _)) hE) | (have hK := KC.step (KC.refl (n := w.heap.size) (by simp)) hE)); have hC := hK.cell; have hF := hK.fro; have hX := hK.ext)
    go_ret2
    exact ⟨rfl, by (repeat' (first | with_reducible assumption | with_reducible exact Ext.refl _ | with_reducible refine Ext.alloc ?_ _ | with_reducible refine Ext.set ?_ ?_ _ | with_reducible refine Ext.drew ?_ | with_reducible refine Ext.drewN ?_ _ | with_reducible refine Ext.trans ?_ (by assumption) | (dsimp only; omega)))⟩
end Go.Proofs.YtdhljpngkeobcaaGreat
/- sooner of the specification. -/
set_option linter.unusedSimpArgs false
set_option linter.unusedVariables false
namespace Go.Proofs.YtdhljpngkeobcaaGreat
open Go.RowKit
theorem soon_neq {xs ys : List Int} (h : ¬ xs.length = ys.length) : soonL xs ys = decide (xs.length < ys.length) := by
  unfold soonL; rw [if_neg h]
theorem soon_at {xs ys : List Int} (h : xs.length = ys.length) {k : Nat} (hk : k < xs.length) (ha : ∀ j, j < k → xs.getD j 0 = ys.getD j 0) (hn : xs.getD k 0 ≠ ys.getD k 0) : soonL xs ys = decide (xs.getD k 0 < ys.getD k 0) := by
  unfold soonL
  rw [if_pos h]
  have hf : (List.range xs.length).find? (fun i => !(xs.getD i 0 == ys.getD i 0)) = some k := by
    rw [List.find?_range_eq_some]
    refine ⟨?_, List.mem_range.2 hk, fun j hj => ?_⟩
    · rw [Bool.not_eq_true', beq_eq_false_iff_ne]; exact hn
    · rw [Bool.not_not, beq_iff_eq]; exact ha j hj
  rw [hf]
theorem soon_end {xs ys : List Int} (h : xs.length = ys.length) (ha : ∀ j, j < xs.length → xs.getD j 0 = ys.getD j 0) : soonL xs ys = false := by
  unfold soonL
  rw [if_pos h]
  have hf : (List.range xs.length).find? (fun i => !(xs.getD i 0 == ys.getD i 0)) = none := by
    rw [List.find?_range_eq_none]
    intro j hj
    rw [Bool.not_not, beq_iff_eq]; exact ha j hj
  rw [hf]
set_option maxHeartbeats 1000000 in
theorem rsooner_any (A B : Option Addr) (n1 n2 c1 c2 : Nat) (xs ys : List Int) (hn1 : xs.length = n1) (hn2 : ys.length = n2) (hm1 : n1 ≤ 1000) (w : World) (hx : IntsAt w A xs) (hy : IntsAt w B ys) :
    Calls Tryz.prog 78 #[.slice A n1 c1, .slice B n2 c2] w fun e w' => e = .returned (.bool (soonL xs ys)) ∧ Ext w w' := by
  have HX := hid hx
  have HY := hid hy
  have HN1 := hid hn1
  have HN2 := hid hn2
  obtain ⟨RR, hRR⟩ : ∃ b, soonL xs ys = b := ⟨_, rfl⟩
  rw [hRR]
  have HRR := hid hRR
  clear hx hy hn1 hn2 hRR
  by_cases hl : n1 = n2
  · subst hl
    have HA9 := hid (fun k (hk : k < n1) ha hn => soon_at (xs := xs) (ys := ys) (HN1.out.trans HN2.out.symm) (k := k) (by rw [HN1.out]; exact hk) ha hn)
    have HE9 := hid (fun (ha : ∀ j, j < n1 → xs.getD j 0 = ys.getD j 0) => soon_end (xs := xs) (ys := ys) (HN1.out.trans HN2.out.symm) (by rw [HN1.out]; exact ha))
    go_enter Tryz.func78, Tryz.ntmps78
    go_wp2
    go_loopw [5] (fun i wr => Ext w wr ∧ ∃ k : Nat, k ≤ n1 ∧ i = .int .i64 k ∧ Hid (∀ j, j < k → xs.getD j 0 = ys.getD j 0)) (fun i _ => n1 - (intOf i).toNat)
    case atStart => exact ⟨by (repeat' (first | with_reducible assumption | with_reducible exact Ext.refl _ | with_reducible refine Ext.alloc ?_ _ | with_reducible refine Ext.set ?_ ?_ _ | with_reducible refine Ext.drew ?_ | with_reducible refine Ext.drewN ?_ _ | with_reducible refine Ext.trans ?_ (by assumption) | (dsimp only; omega))), 0, Nat.zero_le _, rfl, hid (fun j hj => by omega)⟩
    case round =>
      obtain ⟨hE, k, hk, rfl, HA⟩ := hrel
      by_cases hlt : k < n1
      · obtain ⟨b, off, rfl, hb, hc⟩ := (HX.out.ext hE) (by intro e; have := HN1.out; rw [e] at this; simp at this; omega)
        obtain ⟨b', off', rfl, hb', hc'⟩ := (HY.out.ext hE) (by intro e; have := HN2.out; rw [e] at this; simp at this; omega)
        have q1 := hc k (by have := HN1.out; omega)
        have q2 := hc' k (by have := HN2.out; omega)
        have hk0 : (0 : Int) ≤ (k : Int) := by omega
        have hk1 : (k : Int) < (n1 : Int) := by omega
        clear hc hc'
        have HAk := hid (HA9.out k hlt HA.out)
        obtain ⟨u, hu⟩ : ∃ u, xs.getD k 0 = u := ⟨_, rfl⟩
        obtain ⟨v, hv⟩ : ∃ v, ys.getD k 0 = v := ⟨_, rfl⟩
        rw [hu] at q1
        rw [hv] at q2
        rw [hu, hv] at HAk
        have HU := hid hu
        have HV := hid hv
        clear hu hv HA9 HE9
        by_cases huv : u = v
        · subst huv
          have HA2 := hid (show ∀ j, j < k + 1 → xs.getD j 0 = ys.getD j 0 from fun j hj => by
            rcases Nat.lt_succ_iff_lt_or_eq.1 hj with h | rfl
            · exact HA.out j h
            · exact HU.out.trans HV.out.symm)
          go_wp2_with fail
          go_quiet (fail)
          go_wp2
          go_roundw
          case rel => exact ⟨hE.drewN _, k + 1, by omega, by go_num, HA2⟩
          case measure => simp [intOf]; omega
        · have hd : decide (u = v) = false := decide_eq_false huv
          have HR := hid (HRR.out.symm.trans (HAk.out huv))
          clear HAk
          by_cases hlt2 : u < v
          · rw [decide_eq_true hlt2] at HR
            go_wp2_with fail
            go_quiet (fail)
            go_wp2_with fail
            go_quiet (fail)
            go_wp2
            go_ret
            exact ⟨ret_bool HR.out.symm, (hE.drewN _).drewN _⟩
          · rw [decide_eq_false hlt2] at HR
            have HF9 := hid (show decide (u < v) = false from decide_eq_false hlt2)
            go_wp2_with fail
            go_quiet (fail)
            go_wp2_with fail
            go_quiet (fail)
            go_wp2
            go_ret
            exact ⟨ret_bool (by first | exact HR.out.symm | exact HF9.out.trans HR.out.symm), (hE.drewN _).drewN _⟩
      · obtain rfl : k = n1 := by omega
        have HR := hid (HRR.out.symm.trans (HE9.out HA.out))
        clear HA9 HE9
        go_wp2
        go_ret
        exact ⟨ret_bool HR.out.symm, by (repeat' (first | with_reducible assumption | with_reducible exact Ext.refl _ | with_reducible refine Ext.alloc ?_ _ | with_reducible refine Ext.set ?_ ?_ _ | with_reducible refine Ext.drew ?_ | with_reducible refine Ext.drewN ?_ _ | with_reducible refine Ext.trans ?_ (by assumption) | (dsimp only; omega)))⟩
  · have HR := hid (HRR.out.symm.trans (soon_neq (by rw [HN1.out, HN2.out]; exact hl)))
    rw [HN1.out, HN2.out] at HR
    have hli : ¬ ((n1 : Int) = (n2 : Int)) := by omega
    by_cases h2 : n1 < n2
    · rw [decide_eq_true h2] at HR
      have h2i : (n1 : Int) < (n2 : Int) := by omega
      go_enter Tryz.func78, Tryz.ntmps78
      go_wp2
      go_ret
      exact ⟨ret_bool (by first | (rw [HR.out]; done) | (rw [HR.out]; simp; done) | (rw [HR.out]; simp; omega)), by (repeat' (first | with_reducible assumption | with_reducible exact Ext.refl _ | with_reducible refine Ext.alloc ?_ _ | with_reducible refine Ext.set ?_ ?_ _ | with_reducible refine Ext.drew ?_ | with_reducible refine Ext.drewN ?_ _ | with_reducible refine Ext.trans ?_ (by assumption) | (dsimp only; omega)))⟩
    · rw [decide_eq_false h2] at HR
      have h2i : ¬ (n1 : Int) < (n2 : Int) := by omega
      go_enter Tryz.func78, Tryz.ntmps78
      go_wp2
      go_ret
      exact ⟨ret_bool (by first | (rw [HR.out]; done) | (rw [HR.out]; simp; done) | (rw [HR.out]; simp; omega)), by (repeat' (first | with_reducible assumption | with_reducible exact Ext.refl _ | with_reducible refine Ext.alloc ?_ _ | with_reducible refine Ext.set ?_ ?_ _ | with_reducible refine Ext.drew ?_ | with_reducible refine Ext.drewN ?_ _ | with_reducible refine Ext.trans ?_ (by assumption) | (dsimp only; omega)))⟩
end Go.Proofs.YtdhljpngkeobcaaGreat
/- Prop of the specification. -/
set_option linter.unusedSimpArgs false
set_option linter.unusedVariables false
namespace Go.Proofs.YtdhljpngkeobcaaGreat
open Go.RowKit
theorem oth_all : ((List.range 9).all fun n => (List.range (2 ^ n)).all fun s => elemsL 8 ((2 ^ n - 1) - s) == othersL n s) = true := by decide +kernel
theorem elems_oth {n s : Nat} (h : n ≤ 8) (hs : s < 2 ^ n) : elemsL 8 ((2 ^ n - 1) - s) = othersL n s :=
  eq_of_beq (List.all_eq_true.1 (List.all_eq_true.1 oth_all n (List.mem_range.2 (by omega))) s (List.mem_range.2 hs))
theorem notb_all : ((List.range 9).all fun n => (List.range (2 ^ n)).all fun s => bits BinOp.andNot IntKind.i64 (((2 ^ n - 1 : Nat) : Nat) : Int) ((s : Nat) : Int) == ((((2 ^ n - 1) - s : Nat) : Nat) : Int)) = true := by decide +kernel
theorem notb {n s : Nat} (h : n ≤ 8) (hs : s < 2 ^ n) : bits BinOp.andNot IntKind.i64 ((2 ^ n - 1 : Nat) : Int) (s : Int) = (((2 ^ n - 1) - s : Nat) : Int) :=
  eq_of_beq (List.all_eq_true.1 (List.all_eq_true.1 notb_all n (List.mem_range.2 (by omega))) s (List.mem_range.2 hs))
/-- The specification's search: it begins with all. -/
def refS (P : Nat → Bool) (b s : Nat) : Nat := if befB s b && P s then s else b
def refN (P : Nat → Bool) (al k : Nat) : Nat := (List.range k).foldl (refS P) al
theorem refN_succ (P : Nat → Bool) (al k : Nat) : refN P al (k + 1) = refS P (refN P al k) k := by
  unfold refN; rw [List.range_succ, List.foldl_append]; rfl
theorem bef_all_all : ((List.range 9).all fun n => (List.range (2 ^ n)).all fun s => befB s (2 ^ n - 1) == decide (s < 2 ^ n - 1)) = true := by decide +kernel
theorem bef_all {n s : Nat} (h : n ≤ 8) (hs : s < 2 ^ n) : befB s (2 ^ n - 1) = decide (s < 2 ^ n - 1) :=
  eq_of_beq (List.all_eq_true.1 (List.all_eq_true.1 bef_all_all n (List.mem_range.2 (by omega))) s (List.mem_range.2 hs))
theorem fewS_som2 (P : Nat → Bool) (b k : Nat) : fewS P (some b) k = if (befB k b && P k) = true then some k else some b := rfl
theorem fewS_non2 (P : Nat → Bool) (k : Nat) : fewS P none k = if P k = true then some k else none := by
  unfold fewS
  cases h : P k <;> rfl
/-- Both searches find the same: as long as nothing is found the specification keeps all. -/
theorem ref_few {n : Nat} (h : n ≤ 8) (P : Nat → Bool) (hP : P (2 ^ n - 1) = true) : ∀ k, k ≤ 2 ^ n → (k < 2 ^ n → refN P (2 ^ n - 1) k = (fewN P k).getD (2 ^ n - 1)) ∧ (k = 2 ^ n → (fewN P k) = some (refN P (2 ^ n - 1) k)) := by
  have h2 := two_pow h
  have key : ∀ k, k < 2 ^ n → refN P (2 ^ n - 1) k = (fewN P k).getD (2 ^ n - 1) := by
    intro k
    induction k with
    | zero => intro _; rfl
    | succ k ih =>
      intro hk
      rw [refN_succ, fewN_succ, ih (by omega)]
      unfold refS
      cases hf : fewN P k with
      | none =>
        rw [Option.getD_none, fewS_non2, bef_all h (by omega), decide_eq_true (by omega), Bool.true_and]
        by_cases hq : P k = true
        · rw [if_pos hq, if_pos hq]; rfl
        · rw [if_neg hq, if_neg hq]; rfl
      | some b =>
        rw [Option.getD_some, fewS_som2]
        by_cases hq : (befB k b && P k) = true
        · rw [if_pos hq, if_pos hq]; rfl
        · rw [if_neg hq, if_neg hq]; rfl
  intro k hk
  refine ⟨key k, fun hkn => ?_⟩
  subst hkn
  obtain ⟨z, hz⟩ : ∃ z, 2 ^ n = z + 1 := ⟨2 ^ n - 1, by omega⟩
  have e1 : 2 ^ n - 1 = z := by omega
  have hkz := key z (by omega)
  rw [e1] at hkz hP ⊢
  rw [hz, refN_succ, fewN_succ, hkz]
  unfold refS
  have hbz : befB z z = false := by
    have := bef_all (s := z) h (by omega)
    rw [e1] at this
    rw [this]
    exact decide_eq_false (by omega)
  cases hf : fewN P z with
  | none =>
    rw [Option.getD_none, fewS_non2, if_pos hP, hbz]
    rfl
  | some b =>
    rw [Option.getD_some, fewS_som2]
    by_cases hq : (befB z b && P z) = true
    · rw [if_pos hq, if_pos hq]
    · rw [if_neg hq, if_neg hq]
theorem refN_lt {n : Nat} (h : n ≤ 8) (P : Nat → Bool) : ∀ k, k ≤ 2 ^ n → refN P (2 ^ n - 1) k < 2 ^ n := by
  have h2 := two_pow h
  intro k
  induction k with
  | zero => intro _; show 2 ^ n - 1 < 2 ^ n; omega
  | succ k ih =>
    intro hk
    rw [refN_succ]
    unfold refS
    split
    · omega
    · exact ih (by omega)
end Go.Proofs.YtdhljpngkeobcaaGreat
/- Prop of the specification: the walk. -/
set_option linter.unusedSimpArgs false
set_option linter.unusedVariables false
namespace Go.Proofs.YtdhljpngkeobcaaGreat
open Go.RowKit
theorem oth_none : ((List.range 9).all fun n => othersL n (2 ^ n - 1) == []) = true := by decide +kernel
def levP (ps : List Po) (lim yrs : Int) (s : Nat) : Bool := levB (othL zeroPo ps s) lim yrs
theorem levP_all {ps : List Po} (h : ps.length ≤ 8) (lim yrs : Int) : levP ps lim yrs (2 ^ ps.length - 1) = true := by
  unfold levP othL
  rw [eq_of_beq (List.all_eq_true.1 oth_none ps.length (List.mem_range.2 (by omega)))]
  rfl
theorem oth_mem {n s e : Nat} (h : e ∈ othersL n s) : e < n := by
  unfold othersL at h
  exact List.mem_range.1 (List.mem_filter.1 h).1
set_option maxRecDepth 100000 in
set_option maxHeartbeats 8000000 in
theorem rProp_any (ps : List Po) (lim yrs : Int) (A : Option Addr) (n c : Nat) (hn : ps.length = n) (hm : n ≤ 1000) (w : World) (hx : PosAt w A ps) :
    Calls Tryz.prog 41 #[.slice A n c, .int .i64 lim, .int .i64 yrs] w fun e w' => ∃ A' c', e = .returned (.tuple #[.slice A' (propR ps lim yrs).length c', .int .i64 (posE ps lim yrs)]) ∧ IntsAt w' A' (propR ps lim yrs) ∧ Ext w w' := by
  have HCK := hid (fun (W : World) (hE : Ext w W) => rCheckPosts_any ps lim (inI yrs 0 100) A n c hn hm W (hx.ext hE))
  have HW := hid (fun a b c W => rwithin_any a b c W)
  have he : (if posB ps then (if inI lim 0 1000 && inI yrs 0 100 then (0 : Int) else 1) else 94) = posE ps lim yrs := rfl
  rw [he] at HCK
  clear he
  obtain ⟨tb, htb⟩ : ∃ b, inI yrs 0 100 = b := ⟨_, rfl⟩
  rw [htb] at HCK
  by_cases h0 : posE ps lim yrs = 0
  · obtain ⟨hb, hl, hy⟩ := posE_ok h0
    have h8 := (posB_ok hb).1
    rw [hn] at h8
    have hap : ∀ p ∈ ps, poB p = true := by
      have ha : ps.all poB = true := by
        unfold posB at hb
        simp only [Bool.and_eq_true] at hb
        exact hb.1.2
      exact List.all_eq_true.1 ha
    have h2p := two_pow h8
    have HL := hid (fun (s : Nat) (hs : s < 2 ^ n) (W : World) (hE : Ext w W) => by
      have := rlevel_any ps ((2 ^ n - 1) - s) (by omega) (fun e h => by rw [elems_oth h8 hs] at h; rw [hn]; exact oth_mem h) A n c hn hap lim yrs hl (by omega) W (hx.ext hE)
      rw [elems_oth h8 hs, lvS_levB, ← hn] at this
      rw [hn] at this
      have e : levB ((othersL n s).map fun e => ps.getD e zeroPo) lim yrs = levP ps lim yrs s := by unfold levP othL; rw [hn]
      rw [e] at this
      exact this)
    have HR0 := hid (fun (b : Nat) (h : b = refN (levP ps lim yrs) (2 ^ n - 1) (2 ^ n)) => show propR ps lim yrs = memL b by
      unfold propR
      rw [if_pos h0]
      unfold propL propN memL
      have hf := (ref_few h8 (levP ps lim yrs) (by have := levP_all (ps := ps) (by rw [hn]; exact h8) lim yrs; rw [hn] at this; exact this) (2 ^ n) (Nat.le_refl _)).2 rfl
      have e : (fun s => levB (othL zeroPo ps s) lim yrs) = levP ps lim yrs := rfl
      rw [e, hn, hf, h]
      rfl)
    have HLT := hid (fun k (hk : k ≤ 2 ^ n) => refN_lt h8 (levP ps lim yrs) k hk)
    have HSU := hid (fun k => refN_succ (levP ps lim yrs) (2 ^ n - 1) k)
    have HZ := hid (show 2 ^ n - 1 = refN (levP ps lim yrs) (2 ^ n - 1) 0 from rfl)
    rw [h0] at HCK ⊢
    clear hx hn hb hl hy h0 hap
    generalize propR ps lim yrs = PR at *
    generalize levP ps lim yrs = P at *
    have HMM := hid (fun x (hx : x < 256) W => rmembers_any x hx W)
    have HSO := hid (fun (A B : Option Addr) (c1 c2 s t : Nat) (hs : s < 256) (ht : t < 256) (W : World) (h1 : IntsAt W A (memL s)) (h2 : IntsAt W B (memL t)) => by
      have := rsooner_any A B (memL s).length (memL t).length c1 c2 (memL s) (memL t) rfl rfl (by have := memL_len s; have := elems_len s; omega) W h1 h2
      rw [soon_bef hs ht] at this
      exact this)
    have hu : IntKind.u64.wrap (n : Int) = (n : Int) := by rw [IntKind.wrap_u64]; omega
    have hpw := pow_wrap h8
    have HNB := hid (fun s (hs : s < 2 ^ n) => notb (n := n) h8 hs)
    generalize hal : 2 ^ n - 1 = al at *
    have hal2 : al + 1 = 2 ^ n := by omega
    generalize hpn : 2 ^ n = pn at *
    go_enter Tryz.func41, Tryz.ntmps41
    go_wp2_with (first
      | (go_at_call 52; refine (HCK.out _ (by (repeat' (first | with_reducible assumption | with_reducible exact Ext.refl _ | with_reducible refine Ext.alloc ?_ _ | with_reducible refine Ext.set ?_ ?_ _ | with_reducible refine Ext.drew ?_ | with_reducible refine Ext.drewN ?_ _ | with_reducible refine Ext.trans ?_ (by assumption) | (dsimp only; omega))))).mono ?_; rintro e w2 ⟨rfl, hE⟩; (first | (have hK := KC.step (n := w.heap.size) (by with_reducible assumption) hE) | (have hK := KC.step (KC.step (n := w.heap.size) (by with_reducible assumption) (ext_alloc1 _ _)) hE) | (have hK := KC.step (KC.refl (n := w.heap.size) (by simp)) hE)); have hC := hK.cell; have hF := hK.fro; have hX := hK.ext)
      | (go_at_call 76; refine (HW.out _ _ _ _).mono ?_; rintro e w2 ⟨rfl, hsm⟩; obtain rfl := hsm.symm; simp only [htb])
      | simp only [hu])
    have HX2 := hid (show Ext w w2 by (repeat' (first | with_reducible assumption | with_reducible exact Ext.refl _ | with_reducible refine Ext.alloc ?_ _ | with_reducible refine Ext.set ?_ ?_ _ | with_reducible refine Ext.drew ?_ | with_reducible refine Ext.drewN ?_ _ | with_reducible refine Ext.trans ?_ (by assumption) | (dsimp only; omega))))
    refine Calls.mono (HMM.out al (by omega) _) ?_
    rintro e w3 ⟨A3, c3, rfl, hI, hE3⟩
    have HI3 := hid hI
    have HX3 := hid (HX2.out.trans hE3)
    clear hI hE3 HX2 hC hF hX hK HCK HW hE
    go_wp2
    go_loopw [10, 11] (fun v i wr => Ext w wr ∧ ∃ (k b : Nat) (A' : Option Addr) (c' : Nat), k ≤ pn ∧ i = .int .i64 k ∧ v = .slice A' (memL b).length c' ∧ Hid (IntsAt wr A' (memL b)) ∧ Hid (b = refN P al k)) (fun _ i _ => pn - (intOf i).toNat)
    case atStart => exact ⟨HX3.out, 0, al, A3, c3, Nat.zero_le _, rfl, rfl, HI3, HZ⟩
    case round =>
      obtain ⟨hE, k, b, A', c', hk, rfl, rfl, HI, HB⟩ := hrel
      clear HI3 HX3 HZ
      by_cases hlt : k < pn
      · have hki : (k : Int) ≤ (al : Int) := by omega
        have hb2 : b < 256 := by have := HLT.out k hk; have := HB.out; omega
        have HS := hid (show refN P al (k + 1) = if (befB k b && P k) = true then k else b by rw [HSU.out, ← HB.out]; rfl)
        have HLk := hid (fun W e => HL.out k hlt W e)
        have HNk := HNB.out k hlt
        have hw1 : IntKind.i64.wrap ((k : Int) + 1) = (k : Int) + 1 := IntWalk.i64_in _ (by omega)
        clear HLT HSU HL HNB HR0
        go_wp2_with fail
        refine Calls.mono (HMM.out k (by omega) _) ?_
        rintro e w4 ⟨A4, c4, rfl, hI4, hE4⟩
        have HI4 := hid hI4
        have HIb := hid (HI.out.ext hE4)
        have HE4 := hid (hE.trans hE4)
        clear hI4 HI hE4
        go_wp2_with fail
        refine Calls.mono (HSO.out A4 A' _ _ k b (by omega) hb2 w4 HI4.out HIb.out) ?_
        rintro e w5 ⟨rfl, hE5⟩
        have HI5 := hid (HI4.out.ext hE5)
        have HIb5 := hid (HIb.out.ext hE5)
        have HE5 := hid (HE4.out.trans hE5)
        clear HI4 HIb HE4 hE5 HMM HSO
        obtain ⟨bf, hbf⟩ : ∃ bf, befB k b = bf := ⟨_, rfl⟩
        rw [hbf] at HS ⊢
        clear hbf
        cases bf
        · have HS2 := hid (show b = refN P al (k + 1) by rw [HS.out]; simp)
          clear HS
          go_wp2
          go_roundw
          case rel => exact ⟨HE5.out, k + 1, b, A', c', by omega, by go_num, rfl, HIb5, HS2⟩
          case measure => simp [intOf]; omega
        · go_wp2_with fail
          refine Calls.mono (HLk.out _ HE5.out) ?_
          rintro e w6 ⟨rfl, hE6⟩
          obtain ⟨pk, hpk⟩ : ∃ pk, P k = pk := ⟨_, rfl⟩
          rw [hpk] at HS ⊢
          clear hpk
          cases pk
          · have HS2 := hid (show b = refN P al (k + 1) by rw [HS.out]; simp)
            have HI6 := hid (HIb5.out.ext hE6)
            have HE6 := hid (HE5.out.trans hE6)
            clear HS
            go_wp2
            go_roundw
            case rel => exact ⟨HE6.out, k + 1, b, A', c', by omega, by go_num, rfl, HI6, HS2⟩
            case measure => simp [intOf]; omega
          · have HS2 := hid (show k = refN P al (k + 1) by rw [HS.out]; simp)
            have HI6 := hid (HI5.out.ext hE6)
            have HE6 := hid (HE5.out.trans hE6)
            clear HS
            go_wp2
            go_roundw
            case rel => exact ⟨HE6.out, k + 1, k, A4, c4, by omega, by go_num, rfl, HI6, HS2⟩
            case measure => simp [intOf]; omega
      · obtain rfl : k = pn := by omega
        have HR := hid (HR0.out b HB.out)
        have hki : ¬ (k : Int) ≤ (al : Int) := by omega
        clear HLT HSU HL HNB HR0 HMM HSO
        go_wp2
        go_ret2
        have HI2 : IntsAt wr A' PR := by rw [HR.out]; exact HI.out
        have hlen : (memL b).length = PR.length := by rw [HR.out]
        rw [hlen]
        first | exact ⟨A', ⟨c', rfl⟩, HI2, hE⟩ | exact ⟨A', c', rfl, HI2, hE⟩
  · have hv : propR ps lim yrs = [] := by unfold propR; rw [if_neg h0]
    rw [hv]
    clear hv hx hn
    have hne : (posE ps lim yrs != 0) = true := by simp [h0]
    generalize posE ps lim yrs = E at *
    go_enter Tryz.func41, Tryz.ntmps41
    go_wp2_with (first
      | (go_at_call 52; refine (HCK.out _ (by (repeat' (first | with_reducible assumption | with_reducible exact Ext.refl _ | with_reducible refine Ext.alloc ?_ _ | with_reducible refine Ext.set ?_ ?_ _ | with_reducible refine Ext.drew ?_ | with_reducible refine Ext.drewN ?_ _ | with_reducible refine Ext.trans ?_ (by assumption) | (dsimp only; omega))))).mono ?_; rintro e w2 ⟨rfl, hE⟩; (first | (have hK := KC.step (n := w.heap.size) (by with_reducible assumption) hE) | (have hK := KC.step (KC.step (n := w.heap.size) (by with_reducible assumption) (ext_alloc1 _ _)) hE) | (have hK := KC.step (KC.refl (n := w.heap.size) (by simp)) hE)); have hC := hK.cell; have hF := hK.fro; have hX := hK.ext)
      | (go_at_call 76; refine (HW.out _ _ _ _).mono ?_; rintro e w2 ⟨rfl, hsm⟩; obtain rfl := hsm.symm; simp only [htb]))
    go_ret2
    first | exact ⟨none, ⟨0, rfl⟩, fun h => absurd rfl h, by (repeat' (first | with_reducible assumption | with_reducible exact Ext.refl _ | with_reducible refine Ext.alloc ?_ _ | with_reducible refine Ext.set ?_ ?_ _ | with_reducible refine Ext.drew ?_ | with_reducible refine Ext.drewN ?_ _ | with_reducible refine Ext.trans ?_ (by assumption) | (dsimp only; omega)))⟩ | exact ⟨none, 0, rfl, fun h => absurd rfl h, by (repeat' (first | with_reducible assumption | with_reducible exact Ext.refl _ | with_reducible refine Ext.alloc ?_ _ | with_reducible refine Ext.set ?_ ?_ _ | with_reducible refine Ext.drew ?_ | with_reducible refine Ext.drewN ?_ _ | with_reducible refine Ext.trans ?_ (by assumption) | (dsimp only; omega)))⟩
end Go.Proofs.YtdhljpngkeobcaaGreat
/- append of posts to an empty slice. -/
set_option linter.unusedSimpArgs false
set_option linter.unusedVariables false
namespace Go.Proofs.YtdhljpngkeobcaaGreat
open Go.RowKit
theorem append_noPo (z : Nat) (A : Option Addr) (c : Nat) (ty : TypeId) (w : World) : (Builtin.append_ #[61, 61] ty #[.slice (some ⟨z, 0, none⟩) 0 0, .slice A 0 c]).run Tryz.prog w = .ok (.slice (some ⟨z, 0, none⟩) 0 0) w := by
  obtain ⟨i0, hi, hz0, hz1, hz2⟩ := info_parts infoPo
  cases A with
  | none => simp [Builtin.append_, run_underlying Tryz.underlying61, sizeOf, typeInfo, hi, Builtin.lenOf, Builtin.firstCells, loadCells, loadCellsFrom, storeCells]
  | some ad => simp [Builtin.append_, run_underlying Tryz.underlying61, sizeOf, typeInfo, hi, Builtin.lenOf, Builtin.firstCells, loadCells, loadCellsFrom, storeCells]
theorem wp_appAllPo {o : Oper} {a : Act} {K : Act → World → Prop} {Q : Exit → Act → World → Prop} (w : World) (s x : Operand)
    (ho : o.op = .call { callee := .builtin .append, args := #[s, x], argTypes := #[61, 61] }) (B z : Nat) (A : Option Addr) (c : Nat) (os : List Po) (hs : a.eval s = .slice (some ⟨z, 0, none⟩) 0 0) (hz : Blk w z 95 #[]) (hBz : B ≤ z)
    (n : Nat) (hn : os.length = n) (hx : a.eval x = .slice A n c) (hO : PosAt w A os) (hl : n ≤ 10000)
    (h : ∀ v' w', Ownl 95 3 gPo w' B v' os → w.grownBy w' (some z) → K (a.put o.dst v') w') : o.wp Tryz.prog a w K Q := by
  subst hn
  have hlt := hz.lt
  have h0r : w.ownsRow B 95 3 (.slice (some ⟨z, 0, none⟩) 0 0) 0 [] := ⟨rfl, .inr ⟨z, 0, #[], rfl, hBz, hz, Nat.le_refl _, Nat.zero_le _, rfl, rfl⟩⟩
  by_cases h0 : os = []
  · subst h0
    have hr := append_noPo z A c o.type w
    unfold Oper.wp execOp
    simp only [ho, resolve, invoke, builtin, Sem.run_bind, Sem.run_pure, Result.andThen_ok, List.map_toArray, List.map_cons, List.map_nil, hs, hx, List.length_nil, hr]
    exact h (.slice (some ⟨z, 0, none⟩) 0 0) w h0r ⟨rfl, rfl, rfl, Nat.le_refl _, fun _ _ _ => rfl⟩
  · obtain ⟨b, off, rfl, hb, hc⟩ := hO h0
    obtain ⟨i0, hi, hz0, hz1, hz2⟩ := info_parts infoPo
    refine wp_append_own w s x 61 ho B 95 i0 _ 3 24 Tryz.underlying61 hi hz0 hz1 hz2 rfl (by decide) (.slice (some ⟨z, 0, none⟩) 0 0) 0 [] hs h0r ⟨b, off, none⟩ os.length c (os.flatMap gPo) hx (fm_len gPo 3 (fun _ => rfl) os) (flat_from (s := 3) (g := gPo) (d := zeroPo) (by decide) (fun _ => rfl) (fun k hk r hr => ?_)) (fun u hu => ?_) (by unfold maxLen; omega) (by omega) (by omega) (fun v' w' h1 h2 h3 => ?_)
    · have hkk := hc k hk
      generalize os.getD k zeroPo = y at *
      rw [← Nat.add_assoc]
      (match r, hr with
      | 0, _ => exact hkk.c0
      | 1, _ => exact hkk.c1
      | 2, _ => exact hkk.c2)
    · obtain ⟨y, -, hy⟩ := List.mem_flatMap.1 hu
      exact onePo y u hy
    · rw [Nat.zero_add, List.nil_append] at h1
      exact h v' w' h1 h2
theorem wpList_appAllPo {ops : Array Oper} {rest : List Oper} {o : Oper} {a : Act} {Q : Exit → Act → World → Prop} (w : World) (hgd : o.guard = none) (s x : Operand)
    (ho : o.op = .call { callee := .builtin .append, args := #[s, x], argTypes := #[61, 61] }) (B z : Nat) (A : Option Addr) (c : Nat) (os : List Po) (hs : a.eval s = .slice (some ⟨z, 0, none⟩) 0 0) (hz : Blk w z 95 #[]) (hBz : B ≤ z)
    (n : Nat) (hn : os.length = n) (hx : a.eval x = .slice A n c) (hO : PosAt w A os) (hl : n ≤ 10000)
    (h : ∀ v' w', Ownl 95 3 gPo w' B v' os → w.grownBy w' (some z) → wpList Tryz.prog ops Q rest (a.put o.dst v') w') : wpList Tryz.prog ops Q (o :: rest) a w :=
  wpList_plain hgd fun _ hK => wp_appAllPo w s x ho B z A c os hs hz hBz n hn hx hO hl fun v' w' h1 h2 => hK _ _ (h v' w' h1 h2)
end Go.Proofs.YtdhljpngkeobcaaGreat
