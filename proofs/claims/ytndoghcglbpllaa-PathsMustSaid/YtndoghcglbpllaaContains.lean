/- contains. -/
import Derived.Test.YtndoghcglbpllaaStab
set_option linter.unusedSimpArgs false
set_option linter.unusedVariables false
namespace Go.Proofs.Ytndoghcglbpllaa
open Go.RowKit
set_option maxHeartbeats 1000000 in
theorem contains_any (A : Option Addr) (n c : Nat) (xs : List Int) (hn : xs.length = n) (hm : n ≤ 1000) (x : Int) (w : World) (hx : IntsAt w A xs) :
    Calls Try.prog 37 #[.slice A n c, .int .i64 x] w fun e w' => e = .returned (.bool (xs.any fun y => decide (y = x))) ∧ Ext w w' := by
  have HX := hid hx
  have HN := hid hn
  clear hx hn
  go_enter Try.func37, Try.ntmps37
  go_wp2
  go_loopw [5] (fun i wr => Ext w wr ∧ ∃ k : Nat, k ≤ n ∧ i = .int .i64 k ∧ Hid ((xs.take k).any (fun y => decide (y = x)) = false)) (fun i _ => n - (intOf i).toNat)
  case atStart => exact ⟨Ext.refl _, 0, Nat.zero_le _, rfl, hid rfl⟩
  case round =>
    obtain ⟨hE, k, hk, rfl, HK⟩ := hrel
    by_cases hlt : k < n
    · obtain ⟨b, off, rfl, hb, q1⟩ := (HX.out.ext hE).at_ HN.out hlt
      have HS := hid (show xs.getD k 0 = x → xs.any (fun y => decide (y = x)) = true from fun h => by
        have hkl : k < xs.length := by have := HN.out; omega
        refine List.any_eq_true.2 ⟨xs[k], List.getElem_mem hkl, ?_⟩
        rw [← h]
        simp [List.getD, List.getElem?_eq_getElem hkl])
      have HT := hid (show ¬ xs.getD k 0 = x → (xs.take (k + 1)).any (fun y => decide (y = x)) = false from fun h => by
        have hkl : k < xs.length := by have := HN.out; omega
        rw [List.take_succ_eq_append_getElem hkl, List.any_append, HK.out]
        have e : xs.getD k 0 = xs[k] := by simp [List.getD, List.getElem?_eq_getElem hkl]
        rw [e] at h
        simp [h])
      obtain ⟨y, hy⟩ : ∃ y, xs.getD k 0 = y := ⟨_, rfl⟩
      rw [hy] at q1 HS HT
      clear hy
      have hk0 : (0 : Int) ≤ (k : Int) := by omega
      have hk1 : (k : Int) < (n : Int) := by omega
      by_cases hyx : y = x
      · subst hyx
        have HA := hid (HS.out rfl)
        go_wp2
        go_ret
        exact ⟨ret_bool HA.out.symm, hE⟩
      · have hd : decide (y = x) = false := decide_eq_false hyx
        have HA := hid (HT.out hyx)
        go_wp2
        go_roundw
        case rel => exact ⟨hE, k + 1, by omega, by go_num, HA⟩
        case measure => (simp [intOf] <;> omega)
    · have HA := hid (show xs.any (fun y => decide (y = x)) = false by have := HK.out; rwa [List.take_of_length_le (by have := HN.out; omega)] at this)
      go_wp2
      go_ret
      exact ⟨ret_bool HA.out.symm, hE⟩
end Go.Proofs.Ytndoghcglbpllaa
