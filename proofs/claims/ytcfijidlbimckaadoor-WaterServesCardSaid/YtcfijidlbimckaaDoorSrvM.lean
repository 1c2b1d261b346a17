/- What is sure, and what may be, against one truth: no program. -/
import Derived.Test.YtcfijidlbimckaaDoorPPur
set_option linter.unusedSimpArgs false
set_option linter.unusedVariables false
namespace Go.Proofs.YtcfijidlbimckaaDoor
open Go.RowKit
theorem fold_dif_tb (i : Nat) : ∀ (l : List Nat) (s : Nat), s < 18446744073709551616 → (∀ t ∈ l, t < 256) → (l.foldl dif s).testBit i = (s.testBit i && l.all fun t => !t.testBit i)
  | [], s, _, _ => by simp
  | t :: l, s, hs, hl => by
    have ht := hl t (by simp)
    rw [List.foldl_cons, fold_dif_tb i l (dif s t) (Nat.lt_of_le_of_lt (dif_le s t) hs) (fun u hu => hl u (by simp [hu])), dif_tb hs (by omega), List.all_cons, Bool.and_assoc]
theorem fold_con_tb (i : Nat) : ∀ (l : List Nat) (s : Nat), (l.foldl con s).testBit i = (s.testBit i && l.all fun t => t.testBit i)
  | [], s => by simp
  | t :: l, s => by
    rw [List.foldl_cons, fold_con_tb i l (con s t), con_tb, List.all_cons, Bool.and_assoc]
theorem and_zero {a b : Nat} (h : ∀ i, (a.testBit i && b.testBit i) = false) : a &&& b = 0 := by
  apply Nat.eq_of_testBit_eq; intro i
  rw [Nat.testBit_and, h i]; simp
theorem and_zero_tb {a b : Nat} (h : a &&& b = 0) (i : Nat) : (a.testBit i && b.testBit i) = false := by
  rw [← Nat.testBit_and, h]; simp
section
variable {n : Nat} {tl : List Nat} (h8 : 2 ^ n - 1 < 256) (hl : ∀ t ∈ tl, t < 256)
include h8 hl
theorem sureN_tb (i : Nat) : (sureN n tl).testBit i = ((2 ^ n - 1).testBit i && tl.all fun t => !t.testBit i) := fold_dif_tb i tl _ (by omega) hl
theorem sureN_and {t : Nat} (ht : t ∈ tl) : sureN n tl &&& t = 0 := and_zero fun i => by
  rw [sureN_tb h8 hl]
  cases hb : t.testBit i
  · simp
  · have : (tl.all fun t => !t.testBit i) = false := List.all_eq_false.2 ⟨t, ht, by simp [hb]⟩
    rw [this]; simp
theorem mayN_all {t : Nat} (ht : t ∈ tl) : dif (dif (2 ^ n - 1) t) (mayN n tl) = 0 := by
  have hf := foulN_le n tl
  have hm : mayN n tl ≤ 2 ^ n - 1 := dif_le _ _
  have h2 := dif_le (2 ^ n - 1) t
  have htl := hl t ht
  apply Nat.eq_of_testBit_eq; intro i
  rw [dif_tb (by omega) (by omega), dif_tb (by omega) (by omega)]
  unfold mayN
  rw [dif_tb (by omega) (by omega)]
  unfold foulN
  rw [fold_con_tb]
  cases hb : t.testBit i
  · have : (tl.all fun t => t.testBit i) = false := List.all_eq_false.2 ⟨t, ht, by simp [hb]⟩
    rw [this]; simp
  · simp
theorem cleanN_of_sure {x : Nat} (hx : x < 256) (h : dif x (sureN n tl) = 0) : cleanN x tl = tl.length := by
  have hs := sureN_le n tl
  unfold cleanN
  rw [List.filter_eq_self.2]
  intro t ht
  have h0 : x &&& t = 0 := and_zero fun i => by
    have h1 : (dif x (sureN n tl)).testBit i = (0 : Nat).testBit i := congrArg (fun z => z.testBit i) h
    rw [dif_tb (by omega) (by omega)] at h1
    have h2 := and_zero_tb (sureN_and h8 hl ht) i
    revert h1 h2
    cases x.testBit i <;> cases (sureN n tl).testBit i <;> cases t.testBit i <;> simp
  simp [h0]
end
theorem cleanN_pos {x t : Nat} {tl : List Nat} (ht : t ∈ tl) (h : x &&& t = 0) : 0 < cleanN x tl := by
  unfold cleanN
  exact List.length_pos_iff.2 (List.ne_nil_of_mem (List.mem_filter.2 ⟨ht, by simp [h]⟩))
theorem cleanN_lt {x t : Nat} {tl : List Nat} (ht : t ∈ tl) (h : x &&& t ≠ 0) : cleanN x tl < tl.length := by
  unfold cleanN
  rcases Nat.lt_or_ge (tl.filter fun t => x &&& t == 0).length tl.length with h1 | h1
  · exact h1
  · have h2 : (tl.filter fun t => x &&& t == 0).length = tl.length := Nat.le_antisymm (List.length_filter_le _ _) h1
    have := List.length_filter_eq_length_iff.1 h2 t ht
    exact absurd (by simpa using this) h
theorem servQ_and {d : Wat} (hok : WOk d) (need : Int) : servP d need &&& servQ d need = 0 := by
  unfold servP servQ
  by_cases h0 : servE d need = 0
  · rw [if_pos h0, if_pos h0]
    unfold servT
    cases ho : servO d need with
    | none => simp
    | some p =>
      dsimp only
      rcases bestS_in d _ _ none p ho with h1 | h1
      · cases h1
      · have hb : dif (2 ^ d.spr.length - 1) (surN d) < 256 := Nat.lt_of_le_of_lt (dif_le _ _) hok.p256
        have h2 := (mem_subsL hb).1 h1
        have hs : surN d ≤ 2 ^ d.spr.length - 1 := sureN_le _ _
        have h256 := hok.p256
        refine and_zero fun i => ?_
        have h3 := congrArg (fun z => z.testBit i) h2
        simp only [Nat.testBit_and] at h3
        rw [dif_tb (by omega) (by omega)] at h3
        revert h3
        cases p.testBit i <;> cases (surN d).testBit i <;> simp
  · rw [if_neg h0]; simp
theorem posR_mem {d : Wat} (hok : WOk d) {t : Nat} (h : posR d d.smp t = true) : t ∈ truthsL d := by
  have h1 := h
  unfold posR at h1
  simp only [Bool.and_eq_true] at h1
  have h2 := (wB_true.1 h1.1).2
  have hp : 0 < 2 ^ d.spr.length := Nat.two_pow_pos _
  have hlt : t < 2 ^ d.spr.length := by omega
  exact mem_truthsL.2 ⟨hlt, by rw [← posR_eq hok hlt]; exact h⟩
theorem tlI_has {d : Wat} (hw : watB d = true) {t : Nat} (ht : t ∈ truthsL d) : ((tlI d).any fun y => y == (t : Int)) = true := by
  unfold tlI
  rw [if_pos hw, List.any_eq_true]
  exact ⟨(t : Int), List.mem_map.2 ⟨t, ht, rfl⟩, by simp⟩
end Go.Proofs.YtcfijidlbimckaaDoor
