/- The first minute at which a path opens. -/
import Derived.Test.YtndoghcglbpllaaTimes
set_option linter.unusedSimpArgs false
set_option linter.unusedVariables false
namespace Go.Proofs.Ytndoghcglbpllaa
open Go.RowKit

def enterStep (t : Int) (first : Int) (o : Int × Int) : Int := if t ≤ o.2 then min first (max t o.1) else first
/-- The first minute, not before t, at which one of the spans opens. -/
def enter (never : Int) (os : List (Int × Int)) (t : Int) : Int := os.foldl (enterStep t) never
theorem enter_snoc (never : Int) (os : List (Int × Int)) (t : Int) (k : Nat) (h : k < os.length) : enter never (os.take (k + 1)) t = enterStep t (enter never (os.take k) t) (os.getD k (0, 0)) := by
  unfold enter
  rw [List.take_succ_eq_append_getElem h, List.foldl_append]
  simp [List.getD, List.getElem?_eq_getElem h]
theorem step_yes {t f : Int} {o : Int × Int} (h : t ≤ o.2) : enterStep t f o = if (if t < o.1 then o.1 else t) < f then (if t < o.1 then o.1 else t) else f := by
  unfold enterStep; rw [if_pos h]; omega
theorem step_no {t f : Int} {o : Int × Int} (h : o.2 < t) : enterStep t f o = f := by
  unfold enterStep; rw [if_neg (by omega)]

set_option maxHeartbeats 400000 in
theorem rEnter_any (v0 v1 v2 v3 v4 v5 v6 : Value) (A : Option Addr) (n c : Nat) (os : List (Int × Int)) (hn : os.length = n) (hm : n ≤ 1000) (t : Int) (w : World) (h : OpensAt w A os) :
    Calls Try.prog 73 #[.agg #[v0, v1, v2, v3, v4, v5, v6, .slice A n c], .int .i64 t] w fun e w' => e = .returned (.int .i64 (enter 1073741824 os t)) ∧ Ext w w' := by
  go_enter Try.func73, Try.ntmps73
  go_wp2
  go_loop [5, 6] (fun f i => ∃ k : Nat, k ≤ n ∧ i = .int .i64 k ∧ f = .int .i64 (enter 1073741824 (os.take k) t)) (fun _ i => n - (intOf i).toNat)
  case atStart => exact ⟨0, Nat.zero_le _, rfl, rfl⟩
  case round =>
    obtain ⟨k, hk, rfl, rfl⟩ := hrel
    by_cases hlt : k < n
    · obtain ⟨b, off, rfl, hb, hc⟩ := h (by rintro rfl; simp at hn; omega)
      have hs := enter_snoc 1073741824 os t k (by omega)
      have HS : Hid (enter 1073741824 (os.take (k + 1)) t = enterStep t (enter 1073741824 (os.take k) t) (os.getD k (0, 0))) := hs
      clear hs
      have hck := hc k (by omega)
      obtain ⟨hc1, hc2⟩ := hck
      clear hc
      generalize os.getD k (0, 0) = o at *
      generalize enter 1073741824 (os.take k) t = f at *
      by_cases ht : t ≤ o.2
      · have HT := hid (step_yes (f := f) ht)
        go_wp2
        go_round
        case rel => exact ⟨k + 1, by omega, by go_num, by rw [HS.out, HT.out]⟩
        case measure => simp [intOf]; omega
      · have HT := hid (step_no (f := f) (o := o) (t := t) (by omega))
        go_wp2
        go_round
        case rel => exact ⟨k + 1, by omega, by go_num, by rw [HS.out, HT.out]⟩
        case measure => simp [intOf]; omega
    · have HT := hid (List.take_of_length_le (l := os) (i := k) (by omega))
      go_wp2
      go_ret
      exact ⟨ret_int (by rw [HT.out]), by (repeat' (first | with_reducible assumption | with_reducible exact Ext.refl _ | with_reducible refine Ext.alloc ?_ _ | with_reducible refine Ext.set ?_ ?_ _ | with_reducible refine Ext.drew ?_ | with_reducible refine Ext.drewN ?_ _ | with_reducible refine Ext.trans ?_ (by assumption) | (dsimp only; omega)))⟩

set_option maxHeartbeats 400000 in
theorem entry_any (v0 v1 v2 v3 v4 v5 v6 : Value) (A : Option Addr) (n c : Nat) (os : List (Int × Int)) (hn : os.length = n) (hm : n ≤ 1000) (t : Int) (w : World) (h : OpensAt w A os) :
    Calls Try.prog 93 #[.agg #[v0, v1, v2, v3, v4, v5, v6, .slice A n c], .int .i64 t] w fun e w' => e = .returned (.int .i64 (enter 2881 os t)) ∧ Ext w w' := by
  go_enter Try.func93, Try.ntmps93
  go_wp2

  go_loopw [5, 11] (fun f i wr => Ext w wr ∧ ∃ k : Nat, k ≤ n ∧ i = .int .i64 k ∧ f = .int .i64 (enter 2881 (os.take k) t)) (fun _ i _ => n - (intOf i).toNat)
  case atStart => exact ⟨by (repeat' (first | with_reducible assumption | with_reducible exact Ext.refl _ | with_reducible refine Ext.alloc ?_ _ | with_reducible refine Ext.set ?_ ?_ _ | with_reducible refine Ext.drew ?_ | with_reducible refine Ext.drewN ?_ _ | with_reducible refine Ext.trans ?_ (by assumption) | (dsimp only; omega))), 0, Nat.zero_le _, rfl, rfl⟩
  case round =>
    obtain ⟨hE, k, hk, rfl, rfl⟩ := hrel
    by_cases hlt : k < n
    · obtain ⟨b, off, rfl, hb, hc⟩ := (h.ext hE) (by rintro rfl; simp at hn; omega)
      have hs := enter_snoc 2881 os t k (by omega)
      have HS : Hid (enter 2881 (os.take (k + 1)) t = enterStep t (enter 2881 (os.take k) t) (os.getD k (0, 0))) := hs
      clear hs
      have hck := hc k (by omega)
      obtain ⟨hc1, hc2⟩ := hck
      clear hc h
      generalize os.getD k (0, 0) = o at *
      generalize enter 2881 (os.take k) t = f at *
      by_cases ht : t ≤ o.2
      · have HT := hid (step_yes (f := f) ht)
        go_wp2
        go_roundw
        case rel => exact ⟨by (repeat' (first | with_reducible assumption | with_reducible exact Ext.refl _ | with_reducible refine Ext.alloc ?_ _ | with_reducible refine Ext.set ?_ ?_ _ | with_reducible refine Ext.drew ?_ | with_reducible refine Ext.drewN ?_ _ | with_reducible refine Ext.trans ?_ (by assumption) | (dsimp only; omega))), k + 1, by omega, by go_num, by rw [HS.out, HT.out]⟩
        case measure => simp [intOf]; omega
      · have HT := hid (step_no (f := f) (o := o) (t := t) (by omega))
        go_wp2
        go_roundw
        case rel => exact ⟨by (repeat' (first | with_reducible assumption | with_reducible exact Ext.refl _ | with_reducible refine Ext.alloc ?_ _ | with_reducible refine Ext.set ?_ ?_ _ | with_reducible refine Ext.drew ?_ | with_reducible refine Ext.drewN ?_ _ | with_reducible refine Ext.trans ?_ (by assumption) | (dsimp only; omega))), k + 1, by omega, by go_num, by rw [HS.out, HT.out]⟩
        case measure => simp [intOf]; omega
    · have HT := hid (List.take_of_length_le (l := os) (i := k) (by omega))
      go_wp2
      go_ret
      exact ⟨ret_int (by rw [HT.out]), by (repeat' (first | with_reducible assumption | with_reducible exact Ext.refl _ | with_reducible refine Ext.alloc ?_ _ | with_reducible refine Ext.set ?_ ?_ _ | with_reducible refine Ext.drew ?_ | with_reducible refine Ext.drewN ?_ _ | with_reducible refine Ext.trans ?_ (by assumption) | (dsimp only; omega)))⟩
end Go.Proofs.Ytndoghcglbpllaa
