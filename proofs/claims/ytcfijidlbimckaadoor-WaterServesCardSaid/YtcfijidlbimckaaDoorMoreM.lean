/- One more sample, or greater numbers: which truths remain. No program. -/
import Derived.Test.YtcfijidlbimckaaDoorSrvM
import Derived.Test.YtcfijidlbimckaaDoorRPur
set_option linter.unusedSimpArgs false
set_option linter.unusedVariables false
namespace Go.Proofs.YtcfijidlbimckaaDoor
open Go.RowKit
def moreD (d : Wat) (s : Smp) : Wat := ⟨d.spr, d.most, d.miss, d.al, d.smp ++ [s]⟩
def minI (a b : Int) : Int := if b < a then b else a
def laxD (d : Wat) (a b c : Int) : Wat := ⟨d.spr, minI 8 (d.most + c), minI 4 (d.miss + a), minI 4 (d.al + b), d.smp⟩
theorem minI_bd {a b : Int} : minI a b ≤ a ∧ minI a b ≤ b ∧ (minI a b = a ∨ minI a b = b) := by unfold minI; split <;> omega
theorem posB_R {d : Wat} (hok : WOk d) {t : Nat} : t ∈ truthsL d ↔ t < 2 ^ d.spr.length ∧ posR d d.smp t = true := by
  rw [mem_truthsL]
  constructor
  · rintro ⟨h1, h2⟩; exact ⟨h1, by rw [posR_eq hok h1]; exact h2⟩
  · rintro ⟨h1, h2⟩; exact ⟨h1, by rw [← posR_eq hok h1]; exact h2⟩
theorem more_sub {d : Wat} {s : Smp} (hok : WOk d) (hok2 : WOk (moreD d s)) {t : Nat} (h : t ∈ truthsL (moreD d s)) : t ∈ truthsL d := by
  rw [posB_R hok2] at h
  obtain ⟨h1, h2⟩ := h
  refine (posB_R hok).2 ⟨h1, ?_⟩
  have hm : missA t d.smp ≤ missA t (moreD d s).smp := by
    show (d.smp.filter _).length ≤ ((d.smp ++ [s]).filter _).length
    rw [List.filter_append, List.length_append]; omega
  have ha : alarmA t d.smp ≤ alarmA t (moreD d s).smp := by
    show (d.smp.filter _).length ≤ ((d.smp ++ [s]).filter _).length
    rw [List.filter_append, List.length_append]; omega
  unfold posR at h2 ⊢
  simp only [Bool.and_eq_true, decide_eq_true_eq] at h2 ⊢
  obtain ⟨h3, h4, h5, h6⟩ := h2
  refine ⟨h3, h4, ?_, ?_⟩
  · have h5' : (missA t (moreD d s).smp : Int) ≤ d.miss := h5
    omega
  · have h6' : (alarmA t (moreD d s).smp : Int) ≤ d.al := h6
    omega
theorem lax_watB {d : Wat} {a b c : Int} (h : watB d = true) (ha : 0 ≤ a) (hb : 0 ≤ b) (hc : 0 ≤ c) : watB (laxD d a b c) = true := by
  have h1 := minI_bd (a := 8) (b := d.most + c)
  have h2 := minI_bd (a := 4) (b := d.miss + a)
  have h3 := minI_bd (a := 4) (b := d.al + b)
  have hs : smpsB (laxD d a b c) = smpsB d := rfl
  unfold watB at h ⊢
  rw [hs]
  simp only [Bool.and_eq_true, wB_true] at h ⊢
  obtain ⟨k1, k2, k3, k4, k5, k6⟩ := h
  refine ⟨k1, k2, ?_, ?_, ?_, k6⟩
  · show 0 ≤ minI 8 (d.most + c) ∧ minI 8 (d.most + c) ≤ 8
    omega
  · show 0 ≤ minI 4 (d.miss + a) ∧ minI 4 (d.miss + a) ≤ 4
    omega
  · show 0 ≤ minI 4 (d.al + b) ∧ minI 4 (d.al + b) ≤ 4
    omega
theorem lax_sub {d : Wat} {a b c : Int} (hok : WOk d) (hok2 : WOk (laxD d a b c)) (ha : 0 ≤ a) (hb : 0 ≤ b) (hc : 0 ≤ c) {t : Nat} (h : t ∈ truthsL d) : t ∈ truthsL (laxD d a b c) := by
  rw [posB_R hok] at h
  obtain ⟨h1, h2⟩ := h
  refine (posB_R hok2).2 ⟨h1, ?_⟩
  have h3 := minI_bd (a := 8) (b := d.most + c)
  have h4 := minI_bd (a := 4) (b := d.miss + a)
  have h5 := minI_bd (a := 4) (b := d.al + b)
  have m1 := hok.most
  have m2 := hok.miss
  have m3 := hok.al
  unfold posR at h2 ⊢
  simp only [Bool.and_eq_true, decide_eq_true_eq] at h2 ⊢
  obtain ⟨k3, k4, k5, k6⟩ := h2
  refine ⟨k3, ?_, ?_, ?_⟩
  · show (pc t : Int) ≤ minI 8 (d.most + c)
    omega
  · show (missA t d.smp : Int) ≤ minI 4 (d.miss + a)
    omega
  · show (alarmA t d.smp : Int) ≤ minI 4 (d.al + b)
    omega
theorem tlI_of {d : Wat} (hw : watB d = true) : tlI d = (truthsL d).map Int.ofNat := by unfold tlI; rw [if_pos hw]
theorem has_sub {d d' : Wat} (hw : watB d = true) (hw' : watB d' = true) (h : ∀ t ∈ truthsL d', t ∈ truthsL d) : ∀ k, k < (tlI d').length → ((tlI d).any fun y => y == (tlI d').getD k 0) = true := by
  intro k hk
  have hm := getD_mem (d := (0 : Int)) hk
  rw [tlI_of hw'] at hm
  obtain ⟨t, ht, he⟩ := List.mem_map.1 hm
  rw [tlI_of hw', ← he]
  exact tlI_has hw (h t ht)
theorem watE_cases {d : Wat} (hw : watB d = true) : (watE d = 0 ∧ truthsL d ≠ []) ∨ (watE d = 3 ∧ truthsL d = []) := by
  unfold watE
  rw [if_pos hw]
  by_cases h : truthsL d = []
  · rw [if_pos h]; exact .inr ⟨rfl, h⟩
  · rw [if_neg h]; exact .inl ⟨rfl, h⟩
theorem fewer_zero {d d' : Wat} (hok : WOk d) (hok' : WOk d') (hn : d'.spr.length = d.spr.length) (h : ∀ t ∈ truthsL d, t ∈ truthsL d') : dif (sureN d'.spr.length (truthsL d')) (sureN d.spr.length (truthsL d)) = 0 := by
  have h8 := two8 hok.n8
  have h8' := two8 hok'.n8
  have hl := truths_lt hok
  have hl' := truths_lt hok'
  have hs := sureN_le d.spr.length (truthsL d)
  have hs' := sureN_le d'.spr.length (truthsL d')
  apply Nat.eq_of_testBit_eq; intro i
  rw [dif_tb (by omega) (by omega), sureN_tb h8 hl, sureN_tb h8' hl', hn, Nat.zero_testBit]
  cases h1 : (2 ^ d.spr.length - 1).testBit i
  · simp
  · cases h2 : (truthsL d').all fun t => !t.testBit i
    · simp
    · have h3 : ((truthsL d).all fun t => !t.testBit i) = true := List.all_eq_true.2 fun t ht => List.all_eq_true.1 h2 t (h t ht)
      rw [h3]; simp
end Go.Proofs.YtcfijidlbimckaaDoor
