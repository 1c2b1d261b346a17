/- Samples that contradict each other: fewer samples leave more truths. No program. -/
import Derived.Test.YtcfijidlbimckaaDoorPCol
import Derived.Test.YtcfijidlbimckaaDoorMoreM
set_option linter.unusedSimpArgs false
set_option linter.unusedVariables false
namespace Go.Proofs.YtcfijidlbimckaaDoor
open Go.RowKit
def selL (d : Wat) (is : List Nat) : List Smp := is.map fun i => d.smp.getD i zeroSmp
def subD (d : Wat) (is : List Nat) : Wat := ⟨d.spr, d.most, d.miss, d.al, selL d is⟩
theorem getD_at {α : Type} (xs : List α) (d : α) {i : Nat} (h : i < xs.length) : xs.getD i d = xs[i] := by simp [List.getD, List.getElem?_eq_getElem h]
theorem missA_sel (d : Wat) (t : Nat) (is : List Nat) : missA t (selL d is) = missN d.smp t is := by
  unfold missA selL missN
  rw [List.filter_map, List.length_map]
  rfl
theorem alarmA_sel (d : Wat) (t : Nat) (is : List Nat) : alarmA t (selL d is) = alarmN d.smp t is := by
  unfold alarmA selL alarmN
  rw [List.filter_map, List.length_map]
  rfl
theorem posR_sel {d : Wat} (S : Nat) {t : Nat} (ht : t < 2 ^ d.spr.length) : posR d (selL d (bitsL S)) t = posB d S t := by
  have h3 : wB (t : Int) 0 ((2 ^ d.spr.length - 1 : Nat) : Int) = true := wB_true.2 ⟨by omega, by omega⟩
  unfold posR posB allowB
  rw [missA_sel, alarmA_sel, h3, Bool.true_and]
theorem possR_sel (d : Wat) (S : Nat) : possR d (selL d (bitsL S)) = possL d S := by
  unfold possR possL
  exact List.filter_congr fun t ht => posR_sel S (List.mem_range.1 ht)
theorem sub_watB {d : Wat} (hw : watB d = true) {is : List Nat} (hl : is.length ≤ 20) (hi : ∀ i ∈ is, i < d.smp.length) : watB (subD d is) = true := by
  have hs : smpsB (subD d is) = true := by
    have hd : smpsB d = true := by unfold watB at hw; simp only [Bool.and_eq_true] at hw; exact hw.2.2.2.2.2
    unfold smpsB at hd ⊢
    simp only [Bool.and_eq_true, decide_eq_true_eq, Bool.not_eq_true', List.any_eq_false] at hd ⊢
    refine ⟨by show ((selL d is).length : Int) ≤ 20; unfold selL; rw [List.length_map]; omega, fun s hs => ?_⟩
    obtain ⟨i, hi1, rfl⟩ := List.mem_map.1 (show s ∈ selL d is from hs)
    have hlt := hi i hi1
    exact hd.2 _ (by rw [getD_at _ _ hlt]; exact List.getElem_mem hlt)
  unfold watB at hw ⊢
  rw [hs]
  simp only [Bool.and_eq_true] at hw ⊢
  obtain ⟨k1, k2, k3, k4, k5, _⟩ := hw
  exact ⟨k1, k2, k3, k4, k5, trivial⟩
theorem sub_truths {d : Wat} (hw : watB d = true) {S : Nat} (hl : (bitsL S).length ≤ 20) (hi : ∀ i ∈ bitsL S, i < d.smp.length) : truthsL (subD d (bitsL S)) = possL d S := by
  have hok2 := watB_ok (sub_watB hw hl hi)
  rw [← possR_eq hok2, ← possR_sel]
  rfl
theorem filter_len_mono {α : Type} (p q r : α → Bool) (l : List α) (h : ∀ x ∈ l, q x = true → p x = true) : ((l.filter q).filter r).length ≤ ((l.filter p).filter r).length := by
  induction l with
  | nil => exact Nat.le_refl _
  | cons x l ih =>
    have ih := ih fun y hy => h y (by simp [hy])
    have hx := h x (by simp)
    by_cases hq : q x = true
    · have hp := hx hq
      rw [List.filter_cons_of_pos hq, List.filter_cons_of_pos hp]
      by_cases hr : r x = true
      · rw [List.filter_cons_of_pos hr, List.filter_cons_of_pos hr]; simpa using ih
      · rw [List.filter_cons_of_neg hr, List.filter_cons_of_neg hr]; exact ih
    · rw [List.filter_cons_of_neg hq]
      by_cases hp : p x = true
      · rw [List.filter_cons_of_pos hp]
        by_cases hr : r x = true
        · rw [List.filter_cons_of_pos hr, List.length_cons]; omega
        · rw [List.filter_cons_of_neg hr]; exact ih
      · rw [List.filter_cons_of_neg hp]; exact ih
/-- Fewer samples leave no fewer truths. -/
theorem possL_mono (d : Wat) {S S' : Nat} (h : ∀ i, S'.testBit i = true → S.testBit i = true) {t : Nat} (ht : t ∈ possL d S) : t ∈ possL d S' := by
  unfold possL at ht ⊢
  rw [List.mem_filter] at ht ⊢
  refine ⟨ht.1, ?_⟩
  have h2 := ht.2
  unfold posB allowB at h2 ⊢
  simp only [Bool.and_eq_true, decide_eq_true_eq] at h2 ⊢
  obtain ⟨k1, k2, k3⟩ := h2
  have m1 : missN d.smp t (bitsL S') ≤ missN d.smp t (bitsL S) := filter_len_mono _ _ _ _ fun x _ hx => h x hx
  have m2 : alarmN d.smp t (bitsL S') ≤ alarmN d.smp t (bitsL S) := filter_len_mono _ _ _ _ fun x _ hx => h x hx
  exact ⟨k1, by omega, by omega⟩
theorem possL_zero {d : Wat} (hok : WOk d) : possL d 0 ≠ [] := by
  have h : (0 : Nat) ∈ possL d 0 := by
    unfold possL
    rw [List.mem_filter]
    refine ⟨List.mem_range.2 (Nat.two_pow_pos _), ?_⟩
    unfold posB allowB
    rw [bitsL_zero]
    have h1 := hok.most
    have h2 := hok.miss
    have h3 := hok.al
    have h4 : pc 0 = 0 := by decide
    have h5 : missN d.smp 0 [] = 0 := rfl
    have h6 : alarmN d.smp 0 [] = 0 := rfl
    rw [h4, h5, h6]
    simp only [Bool.and_eq_true, decide_eq_true_eq]
    omega
  exact List.ne_nil_of_mem h
theorem dif_bit {k i : Nat} (hk : k < 2 ^ 20) (hi : i < 20) (j : Nat) : (dif k (2 ^ i)).testBit j = (k.testBit j && !decide (i = j)) := by
  have h1 : 2 ^ i < 2 ^ 20 := Nat.pow_lt_pow_right (by decide) hi
  rw [dif_tb (by omega) (by omega), Nat.testBit_two_pow]
theorem conS_sub (d : Wat) {k i : Nat} (hk : k < 2 ^ 20) (hi : i < 20) (j : Nat) (h : (conS d k i).testBit j = true) : k.testBit j = true := by
  unfold conS at h
  split at h
  · rw [dif_bit hk hi] at h
    simp only [Bool.and_eq_true] at h
    exact h.1
  · exact h
theorem conL_sub (d : Wat) : ∀ (is : List Nat) (k : Nat), k < 2 ^ 20 → (∀ i ∈ is, i < 20) → ∀ j, (is.foldl (conS d) k).testBit j = true → k.testBit j = true
  | [], _, _, _, _, h => h
  | i :: is, k, hk, hi, j, h => conS_sub d hk (hi i (by simp)) j (conL_sub d is (conS d k i) (Nat.lt_of_le_of_lt (conS_le d k i) hk) (fun i' h' => hi i' (by simp [h'])) j h)
theorem conL_none (d : Wat) : ∀ (is : List Nat) (k : Nat), possL d k = [] → possL d (is.foldl (conS d) k) = []
  | [], _, h => h
  | i :: is, k, h => conL_none d is (conS d k i) (by
      unfold conS
      split
      · assumption
      · exact h)
theorem conL_some (d : Wat) : ∀ (is : List Nat) (k : Nat), k < 2 ^ 20 → (∀ i ∈ is, i < 20) → ∀ i ∈ is, (is.foldl (conS d) k).testBit i = true → possL d (dif (is.foldl (conS d) k) (2 ^ i)) ≠ []
  | i :: is, k, hk, hi, j, hj, hb => by
    have hk2 : conS d k i < 2 ^ 20 := Nat.lt_of_le_of_lt (conS_le d k i) hk
    have his : ∀ i' ∈ is, i' < 20 := fun i' h' => hi i' (by simp [h'])
    by_cases hm : j ∈ is
    · exact conL_some d is (conS d k i) hk2 his j hm hb
    · have hji : j = i := by
        rcases List.mem_cons.1 hj with h | h
        · exact h
        · exact absurd h hm
      subst hji
      have hi20 := hi j (by simp)
      have h1 := conL_sub d is (conS d k j) hk2 his j hb
      have hne : possL d (dif k (2 ^ j)) ≠ [] := by
        intro hc
        unfold conS at h1
        rw [if_pos hc, dif_bit hk hi20] at h1
        simp at h1
      have hcs : conS d k j = k := by unfold conS; rw [if_neg hne]
      obtain ⟨t, ht⟩ := List.exists_mem_of_ne_nil _ hne
      refine List.ne_nil_of_mem (possL_mono d (fun q hq => ?_) ht)
      have hf : (j :: is).foldl (conS d) k < 2 ^ 20 := Nat.lt_of_le_of_lt (conL_le d _ _) hk
      rw [dif_bit hf hi20] at hq
      rw [dif_bit hk hi20]
      simp only [Bool.and_eq_true] at hq ⊢
      refine ⟨?_, hq.2⟩
      have h2 := conL_sub d is (conS d k j) hk2 his q hq.1
      rwa [hcs] at h2
  | [], _, _, _, _, hj, _ => by cases hj
section
variable {d : Wat} (hok : WOk d) (hnil : truthsL d = [])
include hok hnil
theorem conN_none : possL d (conN d) = [] := by
  have := hok.n8
  unfold conN
  rw [if_pos hnil]
  exact conL_none d _ _ hnil
theorem conN_ne : conN d ≠ 0 := fun h => possL_zero hok (h ▸ conN_none hok hnil)
theorem conN_some {i : Nat} (hi : i ∈ bitsL (conN d)) : possL d (dif (conN d) (2 ^ i)) ≠ [] := by
  have hlt := conN_lt hok
  have hm20 := hok.m20
  have him : i < d.smp.length := bitsL_lt hlt.1 hi
  have hb : (conN d).testBit i = true := (mem_bitsL (by omega)).1 hi
  have hpos : 0 < 2 ^ d.smp.length := Nat.two_pow_pos _
  unfold conN at hb ⊢
  rw [if_pos hnil] at hb ⊢
  exact conL_some d (List.range d.smp.length) (2 ^ d.smp.length - 1) (by omega) (fun i' h' => by have := List.mem_range.1 h'; omega) i (List.mem_range.2 him) hb
end
theorem bits_dif {k i : Nat} (hk : k < 2 ^ 20) (hi : i < 20) : bitsL (dif k (2 ^ i)) = (bitsL k).filter fun j => !decide (i = j) := by
  unfold bitsL
  rw [List.filter_filter]
  refine List.filter_congr fun j _ => ?_
  rw [dif_bit hk hi, Bool.and_comm]
theorem bits_sorted (s : Nat) : (bitsL s).Pairwise (· < ·) := List.Pairwise.filter _ List.pairwise_lt_range
theorem bits_len {k m : Nat} (h : k < 2 ^ m) (hm : m ≤ 64) : (bitsL k).length ≤ m := by
  have e : bitsL k = (List.range m).filter fun i => k.testBit i := by
    rw [← bitsL_full hm]
    unfold bitsL
    rw [List.filter_filter]
    refine List.filter_congr fun j _ => ?_
    rw [Nat.testBit_two_pow_sub_one]
    by_cases hj : j < m
    · simp [hj]
    · have : k.testBit j = false := Nat.testBit_lt_two_pow (Nat.lt_of_lt_of_le h (Nat.pow_le_pow_right (by decide) (by omega)))
      simp [this]
  rw [e]
  exact Nat.le_trans (List.length_filter_le _ _) (by simp)
/-- A list without the element at a place. -/
def butL (L : List Nat) (b : Int) (k : Nat) : List Nat := ((List.range k).filter fun (i : Nat) => !decide ((i : Int) = b)).map fun i => L.getD i 0
theorem range_getD (L : List Nat) : (List.range L.length).map (fun i => L.getD i 0) = L := by
  refine List.ext_getElem (by simp) fun i h1 h2 => ?_
  simp [List.getD, List.getElem?_eq_getElem h2]
theorem butL_none {L : List Nat} {b : Int} (hb : b < 0) : butL L b L.length = L := by
  unfold butL
  rw [List.filter_eq_self.2 (fun i _ => by simp; omega), range_getD]
theorem butL_one {L : List Nat} (hs : L.Pairwise (· < ·)) {b : Nat} (hb : b < L.length) : butL L (b : Int) L.length = L.filter fun j => !decide (L.getD b 0 = j) := by
  unfold butL
  conv => rhs; rw [← range_getD L, List.filter_map]
  congr 1
  refine List.filter_congr fun i hi => ?_
  have hi := List.mem_range.1 hi
  rw [range_getD]
  show (!decide ((i : Int) = (b : Int))) = !decide (L.getD b 0 = L.getD i 0)
  congr 1
  rw [List.pairwise_iff_getElem] at hs
  rw [getD_at _ _ hb, getD_at _ _ hi]
  refine decide_eq_decide.2 ⟨fun h => (by have hib : i = b := (by omega); subst hib; rfl), fun h => ?_⟩
  rcases Nat.lt_trichotomy i b with h1 | h1 | h1
  · have := hs i b hi hb h1; omega
  · omega
  · have := hs b i hb hi h1; omega
theorem butL_succ (L : List Nat) (b : Int) (k : Nat) : butL L b (k + 1) = butL L b k ++ if (k : Int) = b then [] else [L.getD k 0] := by
  unfold butL
  rw [List.range_succ, List.filter_append, List.map_append]
  congr 1
  by_cases h : (k : Int) = b
  · rw [if_pos h, List.filter_cons_of_neg (by simp [h])]; rfl
  · rw [if_neg h, List.filter_cons_of_pos (by simp [h])]; rfl
section
variable {d : Wat} (hw : watB d = true) (hnil : truthsL d = [])
include hw hnil
theorem named_all {b : Int} (hb : b < 0) : watE (subD d (butL (bitsL (conN d)) b (bitsL (conN d)).length)) = 3 := by
  have hok := watB_ok hw
  have hlt := conN_lt hok
  have hm20 := hok.m20
  have hin : ∀ i ∈ bitsL (conN d), i < d.smp.length := fun i hi => bitsL_lt hlt.1 hi
  have hl := bits_len hlt.1 (by omega)
  rw [butL_none hb]
  unfold watE
  rw [if_pos (sub_watB hw (by omega) hin), sub_truths hw (by omega) hin, if_pos (conN_none hok hnil)]
theorem named_but {b : Nat} (hb : b < (bitsL (conN d)).length) : watE (subD d (butL (bitsL (conN d)) (b : Int) (bitsL (conN d)).length)) = 0 := by
  have hok := watB_ok hw
  have hlt := conN_lt hok
  have hm20 := hok.m20
  have hin : ∀ i ∈ bitsL (conN d), i < d.smp.length := fun i hi => bitsL_lt hlt.1 hi
  have hl := bits_len hlt.1 (by omega)
  have hbi : (bitsL (conN d)).getD b 0 ∈ bitsL (conN d) := by rw [getD_at _ _ hb]; exact List.getElem_mem hb
  have hb20 := hin _ hbi
  rw [butL_one (bits_sorted _) hb, ← bits_dif (by omega) (by omega)]
  have hl2 : (bitsL (dif (conN d) (2 ^ (bitsL (conN d)).getD b 0))).length ≤ 20 := by
    rw [bits_dif (by omega) (by omega)]
    exact Nat.le_trans (List.length_filter_le _ _) (by omega)
  have hin2 : ∀ i ∈ bitsL (dif (conN d) (2 ^ (bitsL (conN d)).getD b 0)), i < d.smp.length := by
    rw [bits_dif (by omega) (by omega)]
    exact fun i hi => hin i (List.mem_filter.1 hi).1
  unfold watE
  rw [if_pos (sub_watB hw hl2 hin2), sub_truths hw hl2 hin2, if_neg (conN_some hok hnil hbi)]
end
theorem sorted_at {L : List Nat} (hs : L.Pairwise (· < ·)) {k : Nat} (hk : k + 1 < L.length) : L.getD k 0 < L.getD (k + 1) 0 := by
  rw [List.pairwise_iff_getElem] at hs
  rw [getD_at _ _ hk, getD_at _ _ (show k < L.length by omega)]
  exact hs k (k + 1) (by omega) hk (by omega)
theorem natL_at {L : List Nat} {k : Nat} (hk : k < L.length) : (L.map Int.ofNat).getD k 0 = ((L.getD k 0 : Nat) : Int) := by
  rw [getD_at _ _ (show k < (L.map Int.ofNat).length by rw [List.length_map]; exact hk), getD_at _ _ hk]
  simp
end Go.Proofs.YtcfijidlbimckaaDoor
