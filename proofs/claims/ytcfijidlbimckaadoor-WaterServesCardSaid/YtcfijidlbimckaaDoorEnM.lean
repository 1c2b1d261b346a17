/- The need: what sets of springs yield together, and that no other set costs less. No program. -/
import Derived.Test.YtcfijidlbimckaaDoorSrvM
set_option linter.unusedSimpArgs false
set_option linter.unusedVariables false
namespace Go.Proofs.YtcfijidlbimckaaDoor
open Go.RowKit
def ifS (f : Nat → Int) (p : Nat → Bool) (l : List Nat) : Int := (l.map fun i => if p i = true then f i else 0).sum
theorem fold_filter (f : Nat → Int) (p : Nat → Bool) : ∀ (l : List Nat) (a : Int), (l.filter p).foldl (fun a i => a + f i) a = a + ifS f p l
  | [], a => by simp [ifS]
  | x :: l, a => by
    have ih := fold_filter f p l
    unfold ifS at ih ⊢
    rw [List.map_cons, List.sum_cons]
    by_cases h : p x = true
    · rw [List.filter_cons_of_pos h, List.foldl_cons, ih, if_pos h]; omega
    · rw [List.filter_cons_of_neg h, ih, if_neg h]; omega
theorem ifS_or (f : Nat → Int) (p q r : Nat → Bool) (l : List Nat) (h : ∀ i ∈ l, r i = (p i || q i) ∧ (p i && q i) = false) : ifS f r l = ifS f p l + ifS f q l := by
  induction l with
  | nil => rfl
  | cons x l ih =>
    have ih := ih fun i hi => h i (by simp [hi])
    have hx := h x (by simp)
    unfold ifS at ih ⊢
    rw [List.map_cons, List.sum_cons, List.map_cons, List.sum_cons, List.map_cons, List.sum_cons, ih, hx.1]
    revert hx
    cases p x <;> cases q x <;> simp <;> omega
theorem litN_if (spr : List Spr) (s : Nat) : litN spr (bitsL s) = ifS (fun i => (spr.getD i zeroSpr).low) (fun i => s.testBit i) (List.range 64) := by
  unfold litN bitsL
  rw [fold_filter]; omega
theorem fuelN_if (spr : List Spr) (s : Nat) : fuelN spr (bitsL s) = ifS (fun i => (spr.getD i zeroSpr).fuel) (fun i => s.testBit i) (List.range 64) := by
  unfold fuelN bitsL
  rw [fold_filter]; omega
theorem litN_or (spr : List Spr) {a b c : Nat} (h : ∀ i, c.testBit i = (a.testBit i || b.testBit i) ∧ (a.testBit i && b.testBit i) = false) : litN spr (bitsL c) = litN spr (bitsL a) + litN spr (bitsL b) := by
  rw [litN_if, litN_if, litN_if]
  exact ifS_or _ _ _ _ _ fun i _ => h i
theorem cheapB_true {f s f' s' : Int} (h : cheapB f s f' s' = true) : f ≤ f' := by
  unfold cheapB orI cmpI at h
  rw [decide_eq_true_eq] at h
  revert h
  split <;> split <;> (try split) <;> omega
theorem cheapB_false {f s f' s' : Int} (h : cheapB f s f' s' = false) : f' ≤ f := by
  unfold cheapB orI cmpI at h
  rw [decide_eq_false_iff_not] at h
  revert h
  split <;> (try split) <;> (try split) <;> omega
theorem pickS_least (d : Wat) (en : Nat → Bool) (o : Option Nat) (x : Nat) :
    (∀ q, o = some q → ∃ p, pickS d en o x = some p ∧ fuelN d.spr (bitsL p) ≤ fuelN d.spr (bitsL q)) ∧ (en x = true → ∃ p, pickS d en o x = some p ∧ fuelN d.spr (bitsL p) ≤ fuelN d.spr (bitsL x)) := by
  unfold pickS
  cases o with
  | none =>
    refine ⟨fun q h => (by cases h), fun h => ?_⟩
    dsimp only
    rw [if_pos h]
    exact ⟨x, rfl, Int.le_refl _⟩
  | some r =>
    dsimp only
    refine ⟨fun q h => ?_, fun h => ?_⟩
    · injection h with h
      subst h
      split
      · rename_i h1
        exact ⟨x, rfl, cheapB_true h1.2⟩
      · exact ⟨r, rfl, Int.le_refl _⟩
    · by_cases h1 : cheapS d x r = true
      · rw [if_pos ⟨h, h1⟩]; exact ⟨x, rfl, Int.le_refl _⟩
      · rw [if_neg (fun h2 => h1 h2.2)]
        exact ⟨r, rfl, cheapB_false (by simpa [cheapS] using h1)⟩
theorem bestS_least (d : Wat) (en : Nat → Bool) : ∀ (ps : List Nat) (o : Option Nat) (q : Nat), (o = some q ∨ (q ∈ ps ∧ en q = true)) → ∃ p, ps.foldl (pickS d en) o = some p ∧ fuelN d.spr (bitsL p) ≤ fuelN d.spr (bitsL q)
  | [], o, q, h => by
    rcases h with h | ⟨h, _⟩
    · exact ⟨q, h, Int.le_refl _⟩
    · cases h
  | x :: ps, o, q, h => by
    have hp := pickS_least d en o x
    rw [List.foldl_cons]
    rcases h with h | ⟨h, he⟩
    · obtain ⟨p, h1, h2⟩ := hp.1 q h
      obtain ⟨r, h3, h4⟩ := bestS_least d en ps (pickS d en o x) p (.inl h1)
      exact ⟨r, h3, Int.le_trans h4 h2⟩
    · rcases List.mem_cons.1 h with rfl | h
      · obtain ⟨p, h1, h2⟩ := hp.2 he
        obtain ⟨r, h3, h4⟩ := bestS_least d en ps (pickS d en o q) p (.inl h1)
        exact ⟨r, h3, Int.le_trans h4 h2⟩
      · exact bestS_least d en ps (pickS d en o x) q (.inr ⟨h, he⟩)
theorem bestS_en (d : Wat) (en : Nat → Bool) : ∀ (ps : List Nat) (o : Option Nat) (p : Nat), (∀ q, o = some q → en q = true) → ps.foldl (pickS d en) o = some p → en p = true
  | [], o, p, h, hp => h p hp
  | x :: ps, o, p, h, hp => bestS_en d en ps (pickS d en o x) p (fun q hq => by
      unfold pickS at hq
      cases o with
      | none =>
        dsimp only at hq
        split at hq
        · rename_i h1; injection hq with hq; exact hq ▸ h1
        · cases hq
      | some r =>
        dsimp only at hq
        split at hq
        · rename_i h1; injection hq with hq; exact hq ▸ h1.1
        · injection hq with hq; exact hq ▸ h r rfl) hp
section
variable {d : Wat} (hok : WOk d)
include hok
theorem surN_lt : surN d < 2 ^ d.spr.length := by
  have := hok.n8
  have hs : surN d ≤ 2 ^ d.spr.length - 1 := sureN_le _ _
  have : 0 < 2 ^ d.spr.length := Nat.two_pow_pos _
  omega
/-- What is in a set but not surely clean is one of the parts that Serve looks at. -/
theorem dif_part {x : Nat} (hx : x < 2 ^ d.spr.length) : dif x (surN d) ∈ subsL (dif (2 ^ d.spr.length - 1) (surN d)) := by
  have hp2 := hok.p2
  have hs := surN_lt hok
  have hb : dif (2 ^ d.spr.length - 1) (surN d) < 256 := Nat.lt_of_le_of_lt (dif_le _ _) hok.p256
  refine (mem_subsL hb).2 (Nat.eq_of_testBit_eq fun i => ?_)
  rw [Nat.testBit_and, dif_tb (by omega) (by omega), dif_tb (by omega) (by omega), Nat.testBit_two_pow_sub_one]
  by_cases hi : i < d.spr.length
  · simp [hi]
  · have : x.testBit i = false := Nat.testBit_lt_two_pow (Nat.lt_of_lt_of_le hx (Nat.pow_le_pow_right (by decide) (by omega)))
    simp [this]
theorem lit_other {x : Nat} (hx : x < 2 ^ d.spr.length) : litN d.spr (bitsL (surN d ||| x)) = litN d.spr (bitsL (surN d)) + litN d.spr (bitsL (dif x (surN d))) := by
  have hp2 := hok.p2
  have hs := surN_lt hok
  refine litN_or _ fun i => ?_
  rw [Nat.testBit_or, dif_tb (by omega) (by omega)]
  cases (surN d).testBit i <;> cases x.testBit i <;> simp
theorem lit_both (need : Int) : litN d.spr (bitsL (servP d need ||| servQ d need)) = litN d.spr (bitsL (servP d need)) + litN d.spr (bitsL (servQ d need)) := by
  have h := servQ_and hok need
  refine litN_or _ fun i => ?_
  rw [Nat.testBit_or]
  exact ⟨rfl, and_zero_tb h i⟩
/-- If nothing is served, the other set yields too little. -/
theorem none_little (hw : watB d = true) {need : Int} (hneed : wB need 0 10000 = true) (hne : truthsL d ≠ []) {x : Nat} (hx : x < 2 ^ d.spr.length) (h : servE d need = 3) : litN d.spr (bitsL (surN d ||| x)) < need := by
  rw [lit_other hok hx]
  rcases Int.lt_or_le (litN d.spr (bitsL (surN d)) + litN d.spr (bitsL (dif x (surN d)))) need with h1 | h1
  · exact h1
  · have he : enB d need (dif x (surN d)) = true := decide_eq_true h1
    obtain ⟨p, h2, _⟩ := bestS_least d (enB d need) _ none _ (.inr ⟨dif_part hok hx, he⟩)
    have h2' : servO d need = some p := h2
    unfold servE at h
    rw [if_pos hw, if_pos hneed, if_neg hne, h2'] at h
    simp at h
theorem serv_some {need : Int} (h : servE d need = 0) : watB d = true ∧ truthsL d ≠ [] ∧ wB need 0 10000 = true ∧ ∃ p, servO d need = some p ∧ servQ d need = p ∧ servF d need = fuelN d.spr (bitsL p) ∧ servP d need = surN d := by
  have := hok.n8
  have h0 := h
  unfold servE at h
  by_cases h1 : watB d = true
  · rw [if_pos h1] at h
    by_cases h2 : wB need 0 10000 = true
    · rw [if_pos h2] at h
      by_cases h3 : truthsL d = []
      · rw [if_pos h3] at h; cases h
      · rw [if_neg h3] at h
        refine ⟨h1, h3, h2, ?_⟩
        cases h4 : servO d need with
        | none => rw [h4] at h; simp at h
        | some p =>
          refine ⟨p, rfl, ?_, ?_, ?_⟩
          · unfold servQ servT; rw [if_pos h0, h4]
          · unfold servF servT; rw [if_pos h0, h4]
          · unfold servP; rw [if_pos h0]
    · rw [if_neg h2] at h; cases h
  · rw [if_neg h1] at h; cases h
theorem serv_enough {need : Int} (h : servE d need = 0) : need ≤ litN d.spr (bitsL (servP d need ||| servQ d need)) := by
  obtain ⟨_, _, _, p, h1, h2, _, h4⟩ := serv_some hok h
  rw [lit_both hok, h2, h4]
  have := bestS_en d (enB d need) _ none p (fun q hq => by cases hq) h1
  exact of_decide_eq_true this
theorem serv_least {need : Int} (h : servE d need = 0) {x : Nat} (hx : x < 2 ^ d.spr.length) (hl : need ≤ litN d.spr (bitsL (surN d ||| x))) : servF d need ≤ fuelN d.spr (bitsL (dif x (surN d))) := by
  obtain ⟨_, _, _, p, h1, _, h3, _⟩ := serv_some hok h
  rw [lit_other hok hx] at hl
  have he : enB d need (dif x (surN d)) = true := decide_eq_true hl
  obtain ⟨q, h5, h6⟩ := bestS_least d (enB d need) _ none _ (.inr ⟨dif_part hok hx, he⟩)
  have h5' : servO d need = some q := h5
  rw [h1] at h5'
  injection h5' with h5'
  subst h5'
  rw [h3]; exact h6
theorem serv_fuel {need : Int} (h : servE d need = 0) : servF d need = fuelN d.spr (bitsL (servQ d need)) := by
  obtain ⟨_, _, _, p, _, h2, h3, _⟩ := serv_some hok h
  rw [h2, h3]
theorem serv_bd {need : Int} (h : servE d need = 0) : servQ d need < 2 ^ d.spr.length := by
  obtain ⟨_, _, _, p, h1, h2, _, _⟩ := serv_some hok h
  rw [h2]; exact servO_lt hok h1
end
/-- The sum up to a spring. -/
def litTo (spr : List Spr) (s k : Nat) : Int := ifS (fun i => (spr.getD i zeroSpr).low) (fun i => s.testBit i) (List.range k)
def fuelTo (spr : List Spr) (s k : Nat) : Int := ifS (fun i => (spr.getD i zeroSpr).fuel) (fun i => s.testBit i) (List.range k)
theorem ifS_succ (f : Nat → Int) (p : Nat → Bool) (k : Nat) : ifS f p (List.range (k + 1)) = ifS f p (List.range k) + if p k = true then f k else 0 := by
  unfold ifS
  rw [List.range_succ, List.map_append, List.sum_append]; simp
theorem ifS_end {f : Nat → Int} {p : Nat → Bool} {n : Nat} (h : ∀ i, n ≤ i → p i = false) : ∀ k, ifS f p (List.range (n + k)) = ifS f p (List.range n)
  | 0 => rfl
  | k + 1 => by
    rw [← Nat.add_assoc, ifS_succ, ifS_end h k, h (n + k) (by omega)]; simp
theorem litTo_end {spr : List Spr} {s n : Nat} (hs : s < 2 ^ n) (hn : n ≤ 64) : litTo spr s n = litN spr (bitsL s) := by
  rw [litN_if]
  have := ifS_end (f := fun i => (spr.getD i zeroSpr).low) (p := fun i => s.testBit i) (n := n) (fun i hi => Nat.testBit_lt_two_pow (Nat.lt_of_lt_of_le hs (Nat.pow_le_pow_right (by decide) hi))) (64 - n)
  rw [show n + (64 - n) = 64 by omega] at this
  exact this.symm
theorem fuelTo_end {spr : List Spr} {s n : Nat} (hs : s < 2 ^ n) (hn : n ≤ 64) : fuelTo spr s n = fuelN spr (bitsL s) := by
  rw [fuelN_if]
  have := ifS_end (f := fun i => (spr.getD i zeroSpr).fuel) (p := fun i => s.testBit i) (n := n) (fun i hi => Nat.testBit_lt_two_pow (Nat.lt_of_lt_of_le hs (Nat.pow_le_pow_right (by decide) hi))) (64 - n)
  rw [show n + (64 - n) = 64 by omega] at this
  exact this.symm
theorem litTo_succ (spr : List Spr) (s k : Nat) : litTo spr s (k + 1) = litTo spr s k + if s.testBit k = true then (spr.getD k zeroSpr).low else 0 := ifS_succ _ _ k
theorem fuelTo_succ (spr : List Spr) (s k : Nat) : fuelTo spr s (k + 1) = fuelTo spr s k + if s.testBit k = true then (spr.getD k zeroSpr).fuel else 0 := ifS_succ _ _ k
theorem litTo_bd {d : Wat} (hok : WOk d) (s : Nat) : ∀ k, k ≤ d.spr.length → 0 ≤ litTo d.spr s k ∧ litTo d.spr s k ≤ 1000 * k
  | 0, _ => ⟨Int.le_refl _, Int.le_refl _⟩
  | k + 1, h => by
    have ih := litTo_bd hok s k (by omega)
    have hs := hok.spr k (by omega)
    rw [litTo_succ]
    split <;> omega
theorem fuelTo_bd {d : Wat} (hok : WOk d) (s : Nat) : ∀ k, k ≤ d.spr.length → 0 ≤ fuelTo d.spr s k ∧ fuelTo d.spr s k ≤ 1000 * k
  | 0, _ => ⟨Int.le_refl _, Int.le_refl _⟩
  | k + 1, h => by
    have ih := fuelTo_bd hok s k (by omega)
    have hs := hok.spr k (by omega)
    rw [fuelTo_succ]
    split <;> omega
end Go.Proofs.YtcfijidlbimckaaDoor
