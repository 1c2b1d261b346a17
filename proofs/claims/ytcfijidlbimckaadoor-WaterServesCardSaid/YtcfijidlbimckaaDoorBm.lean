/- Sets as numbers: bits, subsets, sizes. No program. -/
import Derived.Lib.TrailingZeros
set_option linter.unusedSimpArgs false
set_option linter.unusedVariables false
namespace Go.Proofs.YtcfijidlbimckaaDoor
open Go

/-- The number of elements of a set of numbers below 8. -/
def pc (x : Nat) : Nat := x % 2 + x / 2 % 2 + x / 4 % 2 + x / 8 % 2 + x / 16 % 2 + x / 32 % 2 + x / 64 % 2 + x / 128 % 2
theorem pc_le (x : Nat) : pc x ≤ 8 := by unfold pc; omega

/-- The elements of a set, in ascending order. -/
def bitsL (s : Nat) : List Nat := (List.range 64).filter (fun i => s.testBit i)

theorem testBit_at {c m i : Nat} : (2 ^ c * (2 * m + 1)).testBit i = (decide (i = c) || (decide (c < i) && m.testBit (i - c - 1))) := by
  rw [Nat.mul_comm, Nat.testBit_mul_two_pow]
  by_cases h1 : i < c
  · simp only [show ¬ c ≤ i by omega, decide_false, Bool.false_and, show ¬ i = c by omega, show ¬ c < i by omega, Bool.or_self]
  · obtain ⟨j, rfl⟩ : ∃ j, i = c + j := ⟨i - c, by omega⟩
    cases j with
    | zero => simp
    | succ j =>
      have e : c + (j + 1) - c = j + 1 := by omega
      have e2 : c + (j + 1) - c - 1 = j := by omega
      rw [e2, e, Nat.testBit_succ, show (2 * m + 1) / 2 = m by omega]
      simp only [show c ≤ c + (j + 1) by omega, decide_true, Bool.true_and, show ¬ c + (j + 1) = c by omega, decide_false, Bool.false_or, show c < c + (j + 1) by omega]
theorem and_pred {c m : Nat} : (2 ^ c * (2 * m + 1)) &&& (2 ^ c * (2 * m + 1) - 1) = 2 ^ (c + 1) * m := by
  have hp : 0 < 2 ^ c := Nat.two_pow_pos c
  have e : 2 ^ c * (2 * m + 1) - 1 = 2 ^ c * (2 * m) + (2 ^ c - 1) := by rw [Nat.mul_add, Nat.mul_one]; omega
  apply Nat.eq_of_testBit_eq
  intro i
  rw [Nat.testBit_and, testBit_at, e]
  have e3 : (2 ^ (c + 1) * m).testBit i = (decide (c + 1 ≤ i) && m.testBit (i - (c + 1))) := by rw [Nat.mul_comm, Nat.testBit_mul_two_pow]
  rw [e3]
  rw [Nat.testBit_two_pow_mul_add _ (by omega : 2 ^ c - 1 < 2 ^ c)]
  by_cases h1 : i < c
  · simp only [h1, if_true, show ¬ i = c by omega, show ¬ c < i by omega, show ¬ c + 1 ≤ i by omega, decide_false, Bool.false_and, Bool.or_self]
  · rw [if_neg h1]
    obtain ⟨j, rfl⟩ : ∃ j, i = c + j := ⟨i - c, by omega⟩
    cases j with
    | zero => simp; omega
    | succ j =>
      have e4 : c + (j + 1) - c = j + 1 := by omega
      have e5 : c + (j + 1) - c - 1 = j := by omega
      have e6 : c + (j + 1) - (c + 1) = j := by omega
      rw [e5, e6, e4, Nat.testBit_succ, show 2 * m / 2 = m by omega]
      simp only [show ¬ c + (j + 1) = c by omega, decide_false, Bool.false_or, show c < c + (j + 1) by omega, show c + 1 ≤ c + (j + 1) by omega, decide_true, Bool.true_and, Bool.and_self]
theorem bitsL_zero : bitsL 0 = [] := by unfold bitsL; simp
theorem bitsL_step {s : Nat} (h0 : s ≠ 0) (h : s < 18446744073709551616) : bitsL s = Lib.ctz 64 s :: bitsL (s &&& (s - 1)) ∧ s &&& (s - 1) < s := by
  obtain ⟨m, hm, hk⟩ := Lib.ctzFrom_spec 64 s (by omega) h
  have e : Lib.ctz 64 s = Lib.ctzFrom 64 s := by simp [Lib.ctz, h0]
  rw [e]
  revert hm hk
  generalize Lib.ctzFrom 64 s = c
  intro hm hk
  subst hm
  rw [and_pred]
  constructor
  · unfold bitsL
    obtain ⟨d, hd⟩ : ∃ d, 64 = c + (1 + d) := ⟨63 - c, by omega⟩
    rw [hd, List.range_add, List.range_add, List.filter_append, List.filter_append, List.map_append, List.filter_append, List.filter_append]
    have a1 : (List.range c).filter (fun i => (2 ^ c * (2 * m + 1)).testBit i) = [] := by
      rw [List.filter_eq_nil_iff]
      intro i hi
      rw [testBit_at]
      have := List.mem_range.1 hi
      simp only [show ¬ i = c by omega, show ¬ c < i by omega, decide_false, Bool.false_and, Bool.or_self]
      simp
    have a2 : (List.range c).filter (fun i => (2 ^ (c + 1) * m).testBit i) = [] := by
      rw [List.filter_eq_nil_iff]
      intro i hi
      rw [Nat.mul_comm, Nat.testBit_mul_two_pow]
      have := List.mem_range.1 hi
      simp only [show ¬ c + 1 ≤ i by omega, decide_false, Bool.false_and]
      simp
    have a3 : ((List.range 1).map fun x => c + x).filter (fun i => (2 ^ c * (2 * m + 1)).testBit i) = [c] := by
      have : (2 ^ c * (2 * m + 1)).testBit c = true := by rw [testBit_at]; simp
      simp [this]
    have a4 : ((List.range 1).map fun x => c + x).filter (fun i => (2 ^ (c + 1) * m).testBit i) = [] := by
      have : (2 ^ (c + 1) * m).testBit c = false := by rw [Nat.mul_comm, Nat.testBit_mul_two_pow]; simp; omega
      simp [this]
    rw [a1, a2, a3, a4, List.nil_append, List.nil_append, List.nil_append, List.singleton_append, List.cons.injEq]
    refine ⟨rfl, List.filter_congr fun i hi => ?_⟩
    obtain ⟨j0, hj, rfl⟩ := List.mem_map.1 hi
    obtain ⟨j, hj2, rfl⟩ := List.mem_map.1 hj
    rw [testBit_at, Nat.mul_comm _ m, Nat.testBit_mul_two_pow]
    have e5 : c + (1 + j) - c - 1 = j := by omega
    have e6 : c + (1 + j) - (c + 1) = j := by omega
    rw [e5, e6]
    simp only [show ¬ c + (1 + j) = c by omega, decide_false, Bool.false_or, show c < c + (1 + j) by omega, show c + 1 ≤ c + (1 + j) by omega, decide_true, Bool.true_and]
  · have hp : 0 < 2 ^ c := Nat.two_pow_pos c
    rw [Nat.pow_succ, Nat.mul_assoc, Nat.mul_add, Nat.mul_one]
    omega
theorem mem_bitsL {s i : Nat} (h : s < 18446744073709551616) : i ∈ bitsL s ↔ s.testBit i = true := by
  unfold bitsL
  rw [List.mem_filter, List.mem_range]
  constructor
  · exact fun h => h.2
  · intro hb
    refine ⟨?_, hb⟩
    apply Nat.lt_of_not_le
    intro hle
    have : s < 2 ^ i := Nat.lt_of_lt_of_le h (Nat.pow_le_pow_right (n := 2) (by decide) hle)
    rw [Nat.testBit_lt_two_pow this] at hb
    cases hb
theorem bitsL_lt {s k i : Nat} (h : s < 2 ^ k) (hi : i ∈ bitsL s) : i < k := by
  have hb : s.testBit i = true := (List.mem_filter.1 hi).2
  apply Nat.lt_of_not_le
  intro hle
  rw [Nat.testBit_lt_two_pow (Nat.lt_of_lt_of_le h (Nat.pow_le_pow_right (n := 2) (by decide) hle))] at hb
  cases hb
theorem bitsL_full {k : Nat} (hk : k ≤ 64) : bitsL (2 ^ k - 1) = List.range k := by
  unfold bitsL
  obtain ⟨d, hd⟩ : ∃ d, 64 = k + d := ⟨64 - k, by omega⟩
  rw [hd, List.range_add, List.filter_append]
  have a1 : (List.range k).filter (fun i => (2 ^ k - 1).testBit i) = List.range k := by
    rw [List.filter_eq_self]
    intro i hi
    rw [Nat.testBit_two_pow_sub_one]
    exact decide_eq_true (List.mem_range.1 hi)
  have a2 : ((List.range d).map fun x => k + x).filter (fun i => (2 ^ k - 1).testBit i) = [] := by
    rw [List.filter_eq_nil_iff]
    intro i hi
    obtain ⟨j, _, rfl⟩ := List.mem_map.1 hi
    rw [Nat.testBit_two_pow_sub_one]
    simp
  rw [a1, a2, List.append_nil]

/-- The subsets of a set of numbers below 8, in ascending order. -/
def subsL (s : Nat) : List Nat := (List.range 256).filter (fun x => x &&& s == x)
/-- The subset behind x. -/
def nextS (s x : Nat) : Nat := (18446744073709551616 + x - s) % 18446744073709551616 &&& s
def chainB (s : Nat) : List Nat → Bool
  | [] => false
  | [x] => x == s
  | x :: y :: r => !(x == s) && (nextS s x == y && chainB s (y :: r))
theorem subs_chain_all : ((List.range 256).all fun s => (subsL s).head? == some 0 && chainB s (subsL s)) = true := by decide +kernel
theorem subs_chain {s : Nat} (h : s < 256) : (∃ r, subsL s = 0 :: r) ∧ chainB s (subsL s) = true := by
  have h1 := List.all_eq_true.1 subs_chain_all s (List.mem_range.2 h)
  rw [Bool.and_eq_true] at h1
  refine ⟨?_, h1.2⟩
  have h2 := h1.1
  cases hs : subsL s with
  | nil => rw [hs] at h2; cases h2
  | cons a r =>
    rw [hs] at h2
    simp only [List.head?_cons, beq_iff_eq, Option.some.injEq] at h2
    exact ⟨r, by rw [h2]⟩
theorem chain_tail {s : Nat} : ∀ {pre : List Nat} {x : Nat} {suf : List Nat}, chainB s (pre ++ x :: suf) = true → chainB s (x :: suf) = true
  | [], _, _, h => h
  | [a], x, suf, h => by
    simp only [List.singleton_append, chainB, Bool.and_eq_true] at h
    exact h.2.2
  | a :: b :: pre, x, suf, h => by
    simp only [List.cons_append, chainB, Bool.and_eq_true] at h
    exact chain_tail (pre := b :: pre) h.2.2
theorem chain_end {s x : Nat} {pre suf : List Nat} (hs : s < 256) (h : pre ++ x :: suf = subsL s) : (x = s → suf = []) ∧ (x ≠ s → ∃ r, suf = nextS s x :: r) := by
  have hc := chain_tail (pre := pre) (by rw [h]; exact (subs_chain hs).2)
  cases suf with
  | nil =>
    refine ⟨fun _ => rfl, fun hx => ?_⟩
    simp only [chainB, beq_iff_eq] at hc
    exact absurd hc hx
  | cons y r =>
    simp only [chainB, Bool.and_eq_true, Bool.not_eq_true', beq_eq_false_iff_ne, beq_iff_eq] at hc
    exact ⟨fun hx => absurd hx hc.1, fun _ => ⟨r, by rw [hc.2.1]⟩⟩
theorem subs_lt {s x y : Nat} {pre r : List Nat} (h : subsL s = pre ++ x :: y :: r) : x < y ∧ y < 256 := by
  have hp : (subsL s).Pairwise (· < ·) := List.Pairwise.filter _ List.pairwise_lt_range
  have hy : y ∈ subsL s := by rw [h]; simp
  rw [h, List.pairwise_append] at hp
  have h2 := hp.2.1
  rw [List.pairwise_cons] at h2
  exact ⟨h2.1 y (by simp), List.mem_range.1 (List.mem_filter.1 hy).1⟩
theorem mem_subsL {s x : Nat} (hs : s < 256) : x ∈ subsL s ↔ x &&& s = x := by
  unfold subsL
  rw [List.mem_filter, List.mem_range, beq_iff_eq]
  constructor
  · exact fun h => h.2
  · intro h
    refine ⟨?_, h⟩
    rw [← h]
    exact Nat.lt_of_le_of_lt Nat.and_le_right hs
theorem subsL_full {k : Nat} (hk : k ≤ 8) : subsL (2 ^ k - 1) = List.range (2 ^ k) := by
  have : ((List.range 9).all fun k => decide (subsL (2 ^ k - 1) = List.range (2 ^ k))) = true := by decide +kernel
  exact of_decide_eq_true (List.all_eq_true.1 this k (List.mem_range.2 (by omega)))
end Go.Proofs.YtcfijidlbimckaaDoor
