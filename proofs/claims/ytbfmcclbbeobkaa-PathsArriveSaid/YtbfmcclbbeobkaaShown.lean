/- shown. -/
import Derived.Test.YtbfmcclbbeobkaaTab
import Derived.Test.YtbfmcclbbeobkaaSure
set_option linter.unusedSimpArgs false
set_option linter.unusedVariables false
namespace Go.Proofs.Ytbfmcclbbeobkaa
open Go.RowKit
/-- Arrivals as they are shown. -/
def shw (x : Int) : Int := if 1073741824 ≤ x then -1 else x
theorem shw_phi (x : Int) (h : x ≤ 2881) : shw (phi x) = orN x := by
  unfold shw phi orN
  split <;> split <;> omega
theorem shw_step (xs : List Int) (k : Nat) (h : k < xs.length) (hge : 1073741824 ≤ xs.getD k 0) : ((xs.take k).map shw ++ xs.drop k).set k (-1) = (xs.take (k + 1)).map shw ++ xs.drop (k + 1) := by
  have hx : xs.getD k 0 = xs[k] := by simp [List.getD, List.getElem?_eq_getElem h]
  rw [List.take_succ_eq_append_getElem h, List.map_append, List.drop_eq_getElem_cons h, List.set_append_right _ _ (by simp; omega)]
  have hl : ((xs.take k).map shw).length = k := by simp; omega
  rw [hl, Nat.sub_self, List.set_cons_zero, List.append_assoc]
  rw [hx] at hge
  simp [shw, hge]
theorem shw_same (xs : List Int) (k : Nat) (h : k < xs.length) (hlt : ¬ 1073741824 ≤ xs.getD k 0) : (xs.take k).map shw ++ xs.drop k = (xs.take (k + 1)).map shw ++ xs.drop (k + 1) := by
  have hx : xs.getD k 0 = xs[k] := by simp [List.getD, List.getElem?_eq_getElem h]
  rw [List.take_succ_eq_append_getElem h, List.map_append, List.drop_eq_getElem_cons h, List.append_assoc]
  rw [hx] at hlt
  simp [shw, hlt]
theorem shw_get (xs : List Int) (k : Nat) (h : k < xs.length) : ((xs.take k).map shw ++ xs.drop k).getD k 0 = xs.getD k 0 := by
  have hl : ((xs.take k).map shw).length = k := by simp; omega
  rw [List.getD_eq_getElem?_getD, List.getElem?_append_right (by omega), hl, Nat.sub_self, List.getElem?_drop, List.getD_eq_getElem?_getD]
  rfl
theorem shw_len (xs : List Int) (k : Nat) (h : k ≤ xs.length) : ((xs.take k).map shw ++ xs.drop k).length = xs.length := by simp; omega
end Go.Proofs.Ytbfmcclbbeobkaa
