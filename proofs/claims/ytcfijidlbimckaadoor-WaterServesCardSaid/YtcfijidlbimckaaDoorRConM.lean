/- Which samples are kept, step by step. No program. -/
import Derived.Test.YtcfijidlbimckaaDoorConM
set_option linter.unusedSimpArgs false
set_option linter.unusedVariables false
namespace Go.Proofs.YtcfijidlbimckaaDoor
open Go.RowKit
theorem sorted_split : ∀ {L : List Nat}, L.Pairwise (· < ·) → ∀ {t : Nat}, t ∈ L → L = (L.filter fun x => decide (x < t)) ++ t :: L.filter fun x => decide (t < x)
  | [], _, _, h => by cases h
  | x :: L, hs, t, h => by
    rw [List.pairwise_cons] at hs
    by_cases hx : x = t
    · subst hx
      have h1 : (L.filter fun y => decide (y < x)) = [] := List.filter_eq_nil_iff.2 fun y hy => by have := hs.1 y hy; simp; omega
      have h2 : (L.filter fun y => decide (x < y)) = L := List.filter_eq_self.2 fun y hy => by have := hs.1 y hy; simp; omega
      rw [List.filter_cons_of_neg (by simp), List.filter_cons_of_neg (by simp), h1, h2]; rfl
    · have ht : t ∈ L := by
        rcases List.mem_cons.1 h with h | h
        · exact absurd h.symm hx
        · exact h
      have hlt := hs.1 t ht
      have ih := sorted_split hs.2 ht
      rw [List.filter_cons_of_pos (by simp; omega), List.filter_cons_of_neg (by simp; omega), List.cons_append, ← ih]
def keepN (d : Wat) (t : Nat) : Nat := conL d (List.range t)
def cntN (d : Wat) (t : Nat) : Nat := ((bitsL (keepN d t)).filter fun x => decide (x < t)).length
theorem keepN_succ (d : Wat) (t : Nat) : keepN d (t + 1) = conS d (keepN d t) t := by
  unfold keepN
  rw [List.range_succ, conL_snoc]
theorem keepN_lt {d : Wat} (hok : WOk d) (t : Nat) : keepN d t < 2 ^ d.smp.length ∧ 2 ^ d.smp.length ≤ 2 ^ 20 := by
  have hpos : 0 < 2 ^ d.smp.length := Nat.two_pow_pos _
  have h : keepN d t ≤ 2 ^ d.smp.length - 1 := conL_le d _ _
  exact ⟨by omega, Nat.pow_le_pow_right (by decide) hok.m20⟩
theorem keepN_bit {d : Wat} (hok : WOk d) : ∀ (t j : Nat), t ≤ j → j < d.smp.length → (keepN d t).testBit j = true
  | 0, j, _, h => by
    show (2 ^ d.smp.length - 1).testBit j = true
    rw [Nat.testBit_two_pow_sub_one]; simp [h]
  | t + 1, j, h1, h2 => by
    have ih := keepN_bit hok t j (by omega) h2
    have hlt := keepN_lt hok t
    have hm := hok.m20
    rw [keepN_succ]
    unfold conS
    split
    · rw [dif_bit (by omega) (by omega), ih]; simp; omega
    · exact ih
section
variable {d : Wat} (hok : WOk d) {t : Nat} (ht : t < d.smp.length)
include hok ht
theorem keep_mem : t ∈ bitsL (keepN d t) := by
  have hlt := keepN_lt hok t
  exact (mem_bitsL (by omega)).2 (keepN_bit hok t t (Nat.le_refl _) ht)
theorem keep_split : bitsL (keepN d t) = ((bitsL (keepN d t)).filter fun x => decide (x < t)) ++ t :: ((bitsL (keepN d t)).filter fun x => decide (t < x)) := sorted_split (bits_sorted _) (keep_mem hok ht)
theorem cnt_lt : cntN d t < (bitsL (keepN d t)).length := by
  have h := congrArg List.length (keep_split hok ht)
  rw [List.length_append, List.length_cons] at h
  unfold cntN
  omega
theorem dif_split : bitsL (dif (keepN d t) (2 ^ t)) = ((bitsL (keepN d t)).filter fun x => decide (x < t)) ++ ((bitsL (keepN d t)).filter fun x => decide (t < x)) := by
  have hlt := keepN_lt hok t
  have hm := hok.m20
  rw [bits_dif (by omega) (by omega)]
  conv => lhs; rw [keep_split hok ht]
  rw [List.filter_append, List.filter_cons_of_neg (by simp), List.filter_filter, List.filter_filter]
  congr 1
  · exact List.filter_congr fun x _ => by
      by_cases h : x < t
      · simp [h]; omega
      · simp [h]
  · exact List.filter_congr fun x _ => by
      by_cases h : t < x
      · simp [h]; omega
      · simp [h]
theorem keep_take : (bitsL (keepN d t)).take (cntN d t) = (bitsL (keepN d t)).filter fun x => decide (x < t) := by
  conv => lhs; rw [keep_split hok ht]
  unfold cntN
  rw [List.take_left]
theorem keep_drop : (bitsL (keepN d t)).drop (cntN d t + 1) = (bitsL (keepN d t)).filter fun x => decide (t < x) := by
  conv => lhs; rw [keep_split hok ht]
  unfold cntN
  rw [List.drop_append, List.drop_eq_nil_of_le (by omega), show ((bitsL (keepN d t)).filter fun x => decide (x < t)).length + 1 - ((bitsL (keepN d t)).filter fun x => decide (x < t)).length = 1 by omega]
  rfl
theorem cnt_keep (h : keepN d (t + 1) = keepN d t) : cntN d (t + 1) = cntN d t + 1 := by
  unfold cntN
  rw [h]
  conv => lhs; rw [keep_split hok ht]
  rw [List.filter_append, List.filter_cons_of_pos (by simp), List.filter_filter, List.filter_filter, List.length_append, List.length_cons]
  have h1 : ((bitsL (keepN d t)).filter fun x => decide (x < t + 1) && decide (x < t)) = (bitsL (keepN d t)).filter fun x => decide (x < t) := List.filter_congr fun x _ => by
    by_cases h : x < t
    · simp [h]; omega
    · simp [h]
  have h2 : ((bitsL (keepN d t)).filter fun x => decide (x < t + 1) && decide (t < x)) = [] := List.filter_eq_nil_iff.2 fun x _ => by simp; omega
  rw [h1, h2]; rfl
theorem cnt_drop (h : keepN d (t + 1) = dif (keepN d t) (2 ^ t)) : cntN d (t + 1) = cntN d t := by
  unfold cntN
  rw [h, dif_split hok ht, List.filter_append, List.filter_filter, List.filter_filter, List.length_append]
  have h1 : ((bitsL (keepN d t)).filter fun x => decide (x < t + 1) && decide (x < t)) = (bitsL (keepN d t)).filter fun x => decide (x < t) := List.filter_congr fun x _ => by
    by_cases h : x < t
    · simp [h]; omega
    · simp [h]
  have h2 : ((bitsL (keepN d t)).filter fun x => decide (x < t + 1) && decide (t < x)) = [] := List.filter_eq_nil_iff.2 fun x _ => by simp; omega
  rw [h1, h2]; rfl
end
theorem cnt_end {d : Wat} (hok : WOk d) : cntN d d.smp.length = (bitsL (keepN d d.smp.length)).length := by
  have hlt := keepN_lt hok d.smp.length
  unfold cntN
  rw [List.filter_eq_self.2 fun x hx => by have := bitsL_lt hlt.1 hx; simp; omega]
end Go.Proofs.YtcfijidlbimckaaDoor
