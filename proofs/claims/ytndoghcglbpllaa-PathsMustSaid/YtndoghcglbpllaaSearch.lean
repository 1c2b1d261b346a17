/- sort.Search with the closure of Latest. -/
import Derived.Test.YtndoghcglbpllaaBase
set_option linter.unusedSimpArgs false
set_option linter.unusedVariables false
namespace Go.Proofs.Ytndoghcglbpllaa
open Go.RowKit
def Least (n : Nat) (p : Nat → Bool) (r : Nat) : Prop := r ≤ n ∧ (∀ x, x < r → p x = false) ∧ (∀ x, r ≤ x → x < n → p x = true)
def Searched (n : Nat) (p : Nat → Bool) (w : World) (e : Ending) (w' : World) : Prop := (∃ r : Nat, e = .returned (.int .i64 (r : Int)) ∧ Least n p r) ∧ Ext w w'
theorem Searched.mk {n : Nat} {p : Nat → Bool} {w w' : World} {e : Ending} (r : Nat) (h : e = .returned (.int .i64 (r : Int))) (hl : Least n p r) (he : Ext w w') : Searched n p w e w' := ⟨⟨r, h, hl⟩, he⟩
theorem mono_lo {p : Nat → Bool} (hm : ∀ x y, x ≤ y → p x = true → p y = true) {h : Nat} (hf : p h = false) : ∀ x, x < h + 1 → p x = false := fun x hx => by
  cases hp : p x with
  | false => rfl
  | true => rw [hm x h (by omega) hp] at hf; cases hf

set_option maxHeartbeats 1000000 in
theorem search_any (q0 q1 q2 q3 : Nat) (n : Nat) (hn : n ≤ 3000) (p : Nat → Bool) (hm : ∀ x y, x ≤ y → p x = true → p y = true) (w : World)
    (hf : ∀ (x : Nat) (W : World), x < n → Ext w W → Calls Try.prog 59 #[.int .i64 (x : Int), .pointer (some ⟨q0, 0, none⟩), .pointer (some ⟨q1, 0, none⟩), .pointer (some ⟨q2, 0, none⟩), .pointer (some ⟨q3, 0, none⟩)] W fun e W' => e = .returned (.bool (p x)) ∧ Ext W W') :
    Calls Try.prog 60 #[.int .i64 (n : Int), .func (.func 59) #[] #[.pointer (some ⟨q0, 0, none⟩), .pointer (some ⟨q1, 0, none⟩), .pointer (some ⟨q2, 0, none⟩), .pointer (some ⟨q3, 0, none⟩)]] w (Searched n p w) := by
  have HF := hid hf
  have HM := hid hm
  clear hf hm
  go_enter Try.func60, Try.ntmps60
  go_wp2
  go_loopw [5, 6] (fun i j wr => Ext w wr ∧ ∃ a b : Nat, a ≤ b ∧ b ≤ n ∧ i = .int .i64 a ∧ j = .int .i64 b ∧ Hid (∀ x, x < a → p x = false) ∧ Hid (∀ x, b ≤ x → x < n → p x = true)) (fun i j _ => (intOf j).toNat - (intOf i).toNat)
  case atStart => exact ⟨by (repeat' (first | with_reducible assumption | with_reducible exact Ext.refl _ | with_reducible refine Ext.alloc ?_ _ | with_reducible refine Ext.set ?_ ?_ _ | with_reducible refine Ext.drew ?_ | with_reducible refine Ext.drewN ?_ _ | with_reducible refine Ext.trans ?_ (by assumption) | (dsimp only; omega))), 0, n, by omega, by omega, rfl, rfl, hid (fun x hx => by omega), hid (fun x h1 h2 => by omega)⟩
  case round =>
    obtain ⟨hE, a, b, hab, hbn, rfl, rfl, H1, H2⟩ := hrel
    by_cases hlt : a < b
    · go_wp2_with fail
      obtain ⟨h, hh⟩ : ∃ h : Nat, h = (a + b) / 2 := ⟨_, rfl⟩
      have hmid : ((a : Int) + (b : Int)) / 2 = (h : Int) := by omega
      have hb1 : a ≤ h := by omega
      have hb2 : h < b := by omega
      clear hh
      rw [hmid]
      clear hmid
      refine (HF.out h wr (by omega) hE).mono ?_
      rintro e w2 ⟨rfl, hE2⟩
      have hE3 := hE.trans hE2
      rcases Bool.eq_false_or_eq_true (p h) with hp | hp
      · rw [hp]
        have H3 := hid (fun (x : Nat) (h1 : h ≤ x) (_ : x < n) => HM.out h x h1 hp)
        clear hp hE hE2
        go_wp2
        go_roundw
        case rel => exact ⟨hE3, a, h, by omega, by omega, rfl, rfl, H1, H3⟩
        case measure => simp [intOf]; omega
      · rw [hp]
        have H3 := hid (mono_lo HM.out hp)
        clear hp hE hE2
        go_wp2
        go_roundw
        case rel => exact ⟨hE3, h + 1, b, by omega, by omega, by go_num, rfl, H3, H2⟩
        case measure => simp [intOf]; omega
    · obtain rfl : a = b := by omega
      have HL := hid (show Least n p a from ⟨hbn, H1.out, H2.out⟩)
      go_wp2
      go_ret
      exact Searched.mk a rfl HL.out hE
end Go.Proofs.Ytndoghcglbpllaa
