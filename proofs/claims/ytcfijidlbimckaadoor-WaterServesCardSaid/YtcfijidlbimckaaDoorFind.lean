/- slices.ContainsFunc over springs and samples. -/
import Derived.Test.YtcfijidlbimckaaDoorPoss
set_option linter.unusedSimpArgs false
set_option linter.unusedVariables false
namespace Go.Proofs.YtcfijidlbimckaaDoor
open Go.RowKit
theorem any_take_snoc {α : Type} (xs : List α) (p : α → Bool) (d : α) (k : Nat) (h : k < xs.length) : (xs.take (k + 1)).any p = ((xs.take k).any p || p (xs.getD k d)) := by
  rw [List.take_succ_eq_append_getElem h, List.any_append]
  simp [List.getD, List.getElem?_eq_getElem h]
theorem any_of_at {α : Type} (xs : List α) (p : α → Bool) (d : α) (k : Nat) (h : k < xs.length) (hp : p (xs.getD k d) = true) : xs.any p = true := by
  rw [List.any_eq_true]
  refine ⟨xs[k], List.getElem_mem _, ?_⟩
  simpa [List.getD, List.getElem?_eq_getElem h] using hp
/-- The first index at which p holds, or -1: only its sign matters. -/
def Found (b : Bool) (W : World) (e : Ending) (W' : World) : Prop := (∃ r : Int, e = .returned (.int .i64 r) ∧ decide (0 ≤ r) = b) ∧ Ext W W'
theorem Found.mk {b : Bool} {W W' : World} (r : Int) (h : decide (0 ≤ r) = b) (e : Ext W W') : Found b W (.returned (.int .i64 r)) W' := ⟨⟨r, rfl, h⟩, e⟩
theorem any_false_end {α : Type} {xs : List α} {p : α → Bool} {k : Nat} (h : (xs.take k).any p = false) (hk : xs.length ≤ k) : xs.any p = false := by rwa [List.take_of_length_le hk] at h
set_option maxHeartbeats 1000000 in
theorem indexSpr_any (q : Nat) (xs : List Spr) (p : Spr → Bool) (A : Option Addr) (n c : Nat) (hn : xs.length = n) (hm : n ≤ 1000) (w : World) (hx : SprAt w A xs)
    (hf : ∀ (x : Spr) (W : World), Ext w W → Calls Tryd.prog 78 (#[.agg #[.int .i64 x.low, .int .i64 x.high, .int .i64 x.fuel]] ++ #[]) W fun e W' => e = .returned (.bool (p x)) ∧ Ext W W') :
    Calls Tryd.prog 90 #[.slice A n c, .func (.func 78) #[] #[]] w (Found (xs.any p) w) := by
  have HFF := hid hf
  have HX := hid hx
  have HN := hid hn
  have _hq : q = q := rfl
  clear hf _hq hx hn
  go_enter Tryd.func90, Tryd.ntmps90
  go_wp2
  go_loopw [8] (fun i wr => Ext w wr ∧ ∃ k : Nat, k ≤ n ∧ i = .int .i64 k ∧ (xs.take k).any p = false) (fun i _ => n - (intOf i).toNat)
  case atStart => exact ⟨by (repeat' (first | with_reducible assumption | with_reducible exact Ext.refl _ | with_reducible refine Ext.alloc ?_ _ | with_reducible refine Ext.set ?_ ?_ _ | with_reducible refine Ext.drew ?_ | with_reducible refine Ext.drewN ?_ _ | with_reducible refine Ext.trans ?_ (by assumption) | (dsimp only; omega))), 0, Nat.zero_le _, rfl, rfl⟩
  case round =>
    obtain ⟨hE, k, hk, rfl, ha⟩ := hrel
    have HA := hid ha
    clear ha
    by_cases hlt : k < n
    · obtain ⟨b, off, rfl, hb, c0, c1, c2⟩ := (HX.out.ext hE).at_ HN.out hlt
      have HS := hid (any_take_snoc xs p zeroSpr k (by rw [HN.out]; omega))
      have HY := hid (any_of_at xs p zeroSpr k (by rw [HN.out]; omega))
      clear HX
      generalize xs.getD k zeroSpr = x at *
      go_wp2_with fail
      refine (HFF.out x wr hE).mono ?_
      rintro e w2 ⟨rfl, hE2⟩
      rcases Bool.eq_false_or_eq_true (p x) with hp | hp
      · rw [hp]
        have HP := hid (HY.out hp)
        clear hp
        go_wp2
        go_ret
        exact Found.mk _ (by rw [HP.out]; simp) (by (repeat' (first | with_reducible assumption | with_reducible exact Ext.refl _ | with_reducible refine Ext.alloc ?_ _ | with_reducible refine Ext.set ?_ ?_ _ | with_reducible refine Ext.drew ?_ | with_reducible refine Ext.drewN ?_ _ | with_reducible refine Ext.trans ?_ (by assumption) | (dsimp only; omega))))
      · rw [hp]
        have HP := hid (HS.out.trans (by rw [HA.out, hp]))
        clear hp
        go_wp2
        go_roundw
        case rel => exact ⟨by (repeat' (first | with_reducible assumption | with_reducible exact Ext.refl _ | with_reducible refine Ext.alloc ?_ _ | with_reducible refine Ext.set ?_ ?_ _ | with_reducible refine Ext.drew ?_ | with_reducible refine Ext.drewN ?_ _ | with_reducible refine Ext.trans ?_ (by assumption) | (dsimp only; omega))), k + 1, by omega, by go_num, HP.out⟩
        case measure => simp [intOf]; omega
    · have HP := hid (any_false_end HA.out (by rw [HN.out]; omega))
      go_wp2
      go_ret
      exact Found.mk _ (by rw [HP.out]; rfl) (by (repeat' (first | with_reducible assumption | with_reducible exact Ext.refl _ | with_reducible refine Ext.alloc ?_ _ | with_reducible refine Ext.set ?_ ?_ _ | with_reducible refine Ext.drew ?_ | with_reducible refine Ext.drewN ?_ _ | with_reducible refine Ext.trans ?_ (by assumption) | (dsimp only; omega))))
set_option maxHeartbeats 1000000 in
theorem containsSpr_any (q : Nat) (xs : List Spr) (p : Spr → Bool) (A : Option Addr) (n c : Nat) (hn : xs.length = n) (hm : n ≤ 1000) (w : World) (hx : SprAt w A xs)
    (hf : ∀ (x : Spr) (W : World), Ext w W → Calls Tryd.prog 78 (#[.agg #[.int .i64 x.low, .int .i64 x.high, .int .i64 x.fuel]] ++ #[]) W fun e W' => e = .returned (.bool (p x)) ∧ Ext W W') :
    Calls Tryd.prog 80 #[.slice A n c, .func (.func 78) #[] #[]] w fun e w' => e = .returned (.bool (xs.any p)) ∧ Ext w w' := by
  have HC := hid (indexSpr_any q xs p A n c hn hm w hx hf)
  clear hf hn hx
  go_enter Tryd.func80, Tryd.ntmps80
  go_wp2_with fail
  refine HC.out.mono ?_
  rintro e w2 ⟨⟨r, rfl, hr⟩, hE2⟩
  have HR := hid hr
  clear hr HC
  go_wp2
  go_ret
  exact ⟨ret_bool HR.out, hE2⟩
set_option maxHeartbeats 1000000 in
theorem indexSmp_any (q : Nat) (xs : List Smp) (p : Smp → Bool) (A : Option Addr) (n c : Nat) (hn : xs.length = n) (hm : n ≤ 1000) (w : World) (hx : SmpAt w A xs)
    (hf : ∀ (x : Smp) (W : World), Ext w W → Calls Tryd.prog 91 (#[.agg #[.int .i64 x.mix, .bool x.foul]] ++ #[.pointer (some ⟨q, 0, none⟩)]) W fun e W' => e = .returned (.bool (p x)) ∧ Ext W W') :
    Calls Tryd.prog 107 #[.slice A n c, .func (.func 91) #[] #[.pointer (some ⟨q, 0, none⟩)]] w (Found (xs.any p) w) := by
  have HFF := hid hf
  have HX := hid hx
  have HN := hid hn
  have _hq : q = q := rfl
  clear hf _hq hx hn
  go_enter Tryd.func107, Tryd.ntmps107
  go_wp2
  go_loopw [8] (fun i wr => Ext w wr ∧ ∃ k : Nat, k ≤ n ∧ i = .int .i64 k ∧ (xs.take k).any p = false) (fun i _ => n - (intOf i).toNat)
  case atStart => exact ⟨by (repeat' (first | with_reducible assumption | with_reducible exact Ext.refl _ | with_reducible refine Ext.alloc ?_ _ | with_reducible refine Ext.set ?_ ?_ _ | with_reducible refine Ext.drew ?_ | with_reducible refine Ext.drewN ?_ _ | with_reducible refine Ext.trans ?_ (by assumption) | (dsimp only; omega))), 0, Nat.zero_le _, rfl, rfl⟩
  case round =>
    obtain ⟨hE, k, hk, rfl, ha⟩ := hrel
    have HA := hid ha
    clear ha
    by_cases hlt : k < n
    · obtain ⟨b, off, rfl, hb, c0, c1⟩ := (HX.out.ext hE).at_ HN.out hlt
      have HS := hid (any_take_snoc xs p zeroSmp k (by rw [HN.out]; omega))
      have HY := hid (any_of_at xs p zeroSmp k (by rw [HN.out]; omega))
      clear HX
      generalize xs.getD k zeroSmp = x at *
      go_wp2_with fail
      refine (HFF.out x wr hE).mono ?_
      rintro e w2 ⟨rfl, hE2⟩
      rcases Bool.eq_false_or_eq_true (p x) with hp | hp
      · rw [hp]
        have HP := hid (HY.out hp)
        clear hp
        go_wp2
        go_ret
        exact Found.mk _ (by rw [HP.out]; simp) (by (repeat' (first | with_reducible assumption | with_reducible exact Ext.refl _ | with_reducible refine Ext.alloc ?_ _ | with_reducible refine Ext.set ?_ ?_ _ | with_reducible refine Ext.drew ?_ | with_reducible refine Ext.drewN ?_ _ | with_reducible refine Ext.trans ?_ (by assumption) | (dsimp only; omega))))
      · rw [hp]
        have HP := hid (HS.out.trans (by rw [HA.out, hp]))
        clear hp
        go_wp2
        go_roundw
        case rel => exact ⟨by (repeat' (first | with_reducible assumption | with_reducible exact Ext.refl _ | with_reducible refine Ext.alloc ?_ _ | with_reducible refine Ext.set ?_ ?_ _ | with_reducible refine Ext.drew ?_ | with_reducible refine Ext.drewN ?_ _ | with_reducible refine Ext.trans ?_ (by assumption) | (dsimp only; omega))), k + 1, by omega, by go_num, HP.out⟩
        case measure => simp [intOf]; omega
    · have HP := hid (any_false_end HA.out (by rw [HN.out]; omega))
      go_wp2
      go_ret
      exact Found.mk _ (by rw [HP.out]; rfl) (by (repeat' (first | with_reducible assumption | with_reducible exact Ext.refl _ | with_reducible refine Ext.alloc ?_ _ | with_reducible refine Ext.set ?_ ?_ _ | with_reducible refine Ext.drew ?_ | with_reducible refine Ext.drewN ?_ _ | with_reducible refine Ext.trans ?_ (by assumption) | (dsimp only; omega))))
set_option maxHeartbeats 1000000 in
theorem containsSmp_any (q : Nat) (xs : List Smp) (p : Smp → Bool) (A : Option Addr) (n c : Nat) (hn : xs.length = n) (hm : n ≤ 1000) (w : World) (hx : SmpAt w A xs)
    (hf : ∀ (x : Smp) (W : World), Ext w W → Calls Tryd.prog 91 (#[.agg #[.int .i64 x.mix, .bool x.foul]] ++ #[.pointer (some ⟨q, 0, none⟩)]) W fun e W' => e = .returned (.bool (p x)) ∧ Ext W W') :
    Calls Tryd.prog 92 #[.slice A n c, .func (.func 91) #[] #[.pointer (some ⟨q, 0, none⟩)]] w fun e w' => e = .returned (.bool (xs.any p)) ∧ Ext w w' := by
  have HC := hid (indexSmp_any q xs p A n c hn hm w hx hf)
  clear hf hn hx
  go_enter Tryd.func92, Tryd.ntmps92
  go_wp2_with fail
  refine HC.out.mono ?_
  rintro e w2 ⟨⟨r, rfl, hr⟩, hE2⟩
  have HR := hid hr
  clear hr HC
  go_wp2
  go_ret
  exact ⟨ret_bool HR.out, hE2⟩
end Go.Proofs.YtcfijidlbimckaaDoor
