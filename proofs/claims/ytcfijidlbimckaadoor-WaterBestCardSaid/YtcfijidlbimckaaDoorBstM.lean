/- The mathematics of the next test: the best mix leaves the fewest truths. No program. -/
import Derived.Test.YtcfijidlbimckaaDoorPBest
import Derived.Test.YtcfijidlbimckaaDoorRSplit
set_option linter.unusedSimpArgs false
set_option linter.unusedVariables false
namespace Go.Proofs.YtcfijidlbimckaaDoor
open Go.RowKit
def bestOf (tl : List Nat) (j : Nat) (o : Nat × Nat) : Prop :=
  (j ≤ 1 → o.1 = 0) ∧ (2 ≤ j → 1 ≤ o.1 ∧ o.1 < j ∧ o.2 = worse tl o.1 ∧ ∀ x, 1 ≤ x → x < j → o.2 < worse tl x ∨ (o.2 = worse tl x ∧ o.1 ≤ x))
theorem bstL_best (tl : List Nat) : ∀ j, bestOf tl j (bstL tl (List.range j))
  | 0 => ⟨fun _ => rfl, fun h => by omega⟩
  | j + 1 => by
    have ih := bstL_best tl j
    rw [List.range_succ, bstL_snoc]
    generalize bstL tl (List.range j) = o at *
    obtain ⟨a, b⟩ := o
    obtain ⟨h1, h2⟩ := ih
    unfold bstS bestOf
    dsimp only at *
    by_cases hj : j = 0
    · subst hj
      refine ⟨fun _ => ?_, fun h => by omega⟩
      rw [if_neg (by omega)]
      exact h1 (by omega)
    by_cases hj1 : j = 1
    · subst hj1
      have ha := h1 (by omega)
      subst ha
      rw [if_pos ⟨by omega, .inl rfl⟩]
      refine ⟨fun h => by omega, fun _ => ⟨by omega, by omega, rfl, fun x hx1 hx2 => ?_⟩⟩
      obtain rfl : x = 1 := by omega
      exact .inr ⟨rfl, by omega⟩
    obtain ⟨ha1, ha2, ha3, ha4⟩ := h2 (by omega)
    refine ⟨fun h => by omega, fun _ => ?_⟩
    by_cases hw : worse tl j < b
    · rw [if_pos ⟨hj, .inr hw⟩]
      refine ⟨by omega, by omega, rfl, fun x hx1 hx2 => ?_⟩
      dsimp only
      by_cases hx : x = j
      · subst hx; exact .inr ⟨rfl, by omega⟩
      · rcases ha4 x hx1 (by omega) with h | h
        · exact .inl (by omega)
        · exact .inl (by omega)
    · rw [if_neg (by omega)]
      refine ⟨ha1, by dsimp only; omega, ha3, fun x hx1 hx2 => ?_⟩
      dsimp only
      by_cases hx : x = j
      · subst hx
        by_cases he : b = worse tl x
        · exact .inr ⟨he, by omega⟩
        · exact .inl (by omega)
      · exact ha4 x hx1 (by omega)
theorem clP_nat {x t : Nat} (hx : x < 256) (ht : t < 256) : clP (x : Int) (Int.ofNat t) = (x &&& t == 0) := by
  unfold clP
  have h := and_i64 (a := t) (b := x) (by omega) (by omega)
  rw [show Int.ofNat t = (t : Int) from rfl, h, Nat.and_comm]
  generalize x &&& t = z
  rw [Bool.eq_iff_iff]; simp
theorem clean_len {x : Nat} (hx : x < 256) {tl : List Nat} (hl : ∀ t ∈ tl, t < 256) : ((tl.map Int.ofNat).filter (clP (x : Int))).length = cleanN x tl := by
  unfold cleanN
  rw [List.filter_map, List.length_map]
  congr 1
  exact List.filter_congr fun t ht => clP_nat hx (hl t ht)
theorem filter_not_len {α : Type} (p : α → Bool) : ∀ l : List α, (l.filter p).length + (l.filter fun x => !p x).length = l.length
  | [] => rfl
  | a :: l => by
    have ih := filter_not_len p l
    cases h : p a
    · rw [List.filter_cons_of_neg (by simp [h]), List.filter_cons_of_pos (by simp [h])]; simp; omega
    · rw [List.filter_cons_of_pos h, List.filter_cons_of_neg (by simp [h])]; simp; omega
theorem foul_len {x : Nat} (hx : x < 256) {tl : List Nat} (hl : ∀ t ∈ tl, t < 256) : ((tl.map Int.ofNat).filter (foP (x : Int))).length = tl.length - cleanN x tl := by
  have h := filter_not_len (clP (x : Int)) (tl.map Int.ofNat)
  rw [clean_len hx hl, List.length_map] at h
  have e : (tl.map Int.ofNat).filter (foP (x : Int)) = (tl.map Int.ofNat).filter fun y => !clP (x : Int) y := rfl
  rw [e]
  omega
end Go.Proofs.YtcfijidlbimckaaDoor
