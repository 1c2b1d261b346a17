/- slices.ContainsFunc over paths. -/
import Derived.Test.YtndoghcglbpllaaFind
set_option linter.unusedSimpArgs false
set_option linter.unusedVariables false
namespace Go.Proofs.Ytndoghcglbpllaa
open Go.RowKit
set_option maxHeartbeats 1000000 in
theorem indexPath_any (q : Nat) (xs : List Pt) (p : Pt → Bool) (A : Option Addr) (n c : Nat) (hn : xs.length = n) (hm : n ≤ 1000) (w : World) (hx : PathsAt w A xs)
    (hf : ∀ (x : Pt) (A' : Option Addr) (c' : Nat) (W : World), Ext w W → OpensAt W A' x.opens → Calls Try.prog 76 (#[x.val A' c'] ++ #[.pointer (some ⟨q, 0, none⟩)]) W fun e W' => e = .returned (.bool (p x)) ∧ Ext W W') :
    Calls Try.prog 98 #[.slice A n c, .func (.func 76) #[] #[.pointer (some ⟨q, 0, none⟩)]] w (Found (xs.any p) w) := by
  have HFF := hid hf
  clear hf
  go_enter Try.func98, Try.ntmps98
  go_wp2
  go_loopw [8] (fun i wr => Ext w wr ∧ ∃ k : Nat, k ≤ n ∧ i = .int .i64 k ∧ (xs.take k).any p = false) (fun i _ => n - (intOf i).toNat)
  case atStart => exact ⟨by (repeat' (first | with_reducible assumption | with_reducible exact Ext.refl _ | with_reducible refine Ext.alloc ?_ _ | with_reducible refine Ext.set ?_ ?_ _ | with_reducible refine Ext.drew ?_ | with_reducible refine Ext.drewN ?_ _ | with_reducible refine Ext.trans ?_ (by assumption) | (dsimp only; omega))), 0, Nat.zero_le _, rfl, rfl⟩
  case round =>
    obtain ⟨hE, k, hk, rfl, ha⟩ := hrel
    have HA := hid ha
    clear ha
    by_cases hlt : k < n
    · obtain ⟨b, off, rfl, hb, hc⟩ := (hx.ext hE) (by rintro rfl; simp at hn; omega)
      obtain ⟨A', c', hck⟩ := hc k (by omega)
      have HS := hid (any_take_snoc xs p zeroPt k (by omega))
      have HY := hid (any_of_at xs p zeroPt k (by omega))
      clear hc hx
      generalize xs.getD k zeroPt = x at *
      have HO := hid hck.opens
      obtain ⟨c0, c1, c2, c3, c4, c5, c6, c7, -, -⟩ := hck
      go_wp2_with fail
      refine (HFF.out x A' c' wr hE HO.out).mono ?_
      rintro e w2 ⟨rfl, hE2⟩
      clear c0 c1 c2 c3 c4 c5 c6 c7
      rcases Bool.eq_false_or_eq_true (p x) with hp | hp
      · rw [hp]
        have HP := hid (HY.out hp)
        clear hp
        go_wp2
        go_ret
        exact Found.mk _ (by rw [HP.out]; simp) (by (repeat' (first | with_reducible assumption | with_reducible exact Ext.refl _ | with_reducible refine Ext.alloc ?_ _ | with_reducible refine Ext.set ?_ ?_ _ | with_reducible refine Ext.drew ?_ | with_reducible refine Ext.drewN ?_ _ | with_reducible refine Ext.trans ?_ (by assumption) | (dsimp only; omega))))
      · rw [hp]
        have HP := hid (HS.out.trans (by rw [HA.out, hp]))
        clear hp
        go_wp2
        go_roundw
        case rel => exact ⟨by (repeat' (first | with_reducible assumption | with_reducible exact Ext.refl _ | with_reducible refine Ext.alloc ?_ _ | with_reducible refine Ext.set ?_ ?_ _ | with_reducible refine Ext.drew ?_ | with_reducible refine Ext.drewN ?_ _ | with_reducible refine Ext.trans ?_ (by assumption) | (dsimp only; omega))), k + 1, by omega, by go_num, HP.out⟩
        case measure => simp [intOf]; omega
    · have HP := hid (any_false_end HA.out (by omega))
      go_wp2
      go_ret
      exact Found.mk _ (by rw [HP.out]; rfl) (by (repeat' (first | with_reducible assumption | with_reducible exact Ext.refl _ | with_reducible refine Ext.alloc ?_ _ | with_reducible refine Ext.set ?_ ?_ _ | with_reducible refine Ext.drew ?_ | with_reducible refine Ext.drewN ?_ _ | with_reducible refine Ext.trans ?_ (by assumption) | (dsimp only; omega))))
set_option maxHeartbeats 1000000 in
theorem containsPath_any (q : Nat) (xs : List Pt) (p : Pt → Bool) (A : Option Addr) (n c : Nat) (hn : xs.length = n) (hm : n ≤ 1000) (w : World) (hx : PathsAt w A xs)
    (hf : ∀ (x : Pt) (A' : Option Addr) (c' : Nat) (W : World), Ext w W → OpensAt W A' x.opens → Calls Try.prog 76 (#[x.val A' c'] ++ #[.pointer (some ⟨q, 0, none⟩)]) W fun e W' => e = .returned (.bool (p x)) ∧ Ext W W') :
    Calls Try.prog 78 #[.slice A n c, .func (.func 76) #[] #[.pointer (some ⟨q, 0, none⟩)]] w fun e w' => e = .returned (.bool (xs.any p)) ∧ Ext w w' := by
  have HC := hid (indexPath_any q xs p A n c hn hm w hx hf)
  clear hf hn hx
  go_enter Try.func78, Try.ntmps78
  go_wp2_with fail
  refine HC.out.mono ?_
  rintro e w2 ⟨⟨r, rfl, hr⟩, hE2⟩
  have HR := hid hr
  clear hr HC
  go_wp2
  go_ret
  exact ⟨ret_bool HR.out, hE2⟩
end Go.Proofs.Ytndoghcglbpllaa
