/- A walk along a route, with waits and times; and the first minutes at which paths open. -/
import Derived.Test.YtndoghcglbpllaaRouteOk
set_option linter.unusedSimpArgs false
set_option linter.unusedVariables false
namespace Go.Proofs.Ytndoghcglbpllaa
open Go.RowKit
theorem enter_min (os : List (Int × Int)) (t c : Int) : ∀ f : Int, enter (min f c) os t = min (enter f os t) c := by
  unfold enter
  induction os with
  | nil => intro f; rfl
  | cons o os ih =>
    intro f
    simp only [List.foldl_cons]
    have h : enterStep t (min f c) o = min (enterStep t f o) c := by unfold enterStep; split <;> omega
    rw [h, ih]
theorem enter_top (os : List (Int × Int)) (t : Int) (hos : ∀ o, o ∈ os → o.1 ≤ o.2 ∧ o.2 ≤ 2880) (N : Int) : ∀ f : Int, (f = N ∨ f ≤ 2880) → (enter f os t = N ∨ enter f os t ≤ 2880) := by
  unfold enter
  induction os with
  | nil => intro f h; exact h
  | cons o os ih =>
    intro f h
    simp only [List.foldl_cons]
    refine ih (fun o' ho' => hos o' (List.mem_cons_of_mem _ ho')) _ ?_
    have := hos o List.mem_cons_self
    unfold enterStep
    split
    · right; omega
    · exact h
/-- The two ways to say never. -/
theorem enter_two (os : List (Int × Int)) (t : Int) (hos : ∀ o, o ∈ os → o.1 ≤ o.2 ∧ o.2 ≤ 2880) :
    (enter 1073741824 os t = 1073741824 ∧ enter 2881 os t = 2881) ∨ (enter 1073741824 os t ≤ 2880 ∧ enter 2881 os t = enter 1073741824 os t) := by
  have h1 := enter_min os t 2881 1073741824
  have h2 := enter_top os t hos 1073741824 1073741824 (.inl rfl)
  rw [show min (1073741824 : Int) 2881 = 2881 by omega] at h1
  omega
theorem vNet_opens {m : Int} {ps : List Pt} (h : vNet m ps = true) (i : Nat) (hi : i < ps.length) : ∀ o, o ∈ (ps.getD i zeroPt).opens → 0 ≤ o.1 ∧ o.1 ≤ o.2 ∧ o.2 ≤ 2880 := by
  unfold vNet at h
  simp only [Bool.and_eq_true, decide_eq_true_eq] at h
  obtain ⟨-, -, -, h4⟩ := h
  rw [List.all_eq_true] at h4
  have hv := h4 _ (List.getElem_mem hi)
  have hg : ps.getD i zeroPt = ps[i] := by simp [List.getD, List.getElem?_eq_getElem hi]
  rw [hg]
  unfold vPath at hv
  simp only [Bool.and_eq_true] at hv
  have ho := hv.2.2.2.2.2.2.2
  rw [List.all_eq_true] at ho
  intro o hm
  have := spanB_ok (ho o hm)
  omega
/-- What Step returns. -/
def stepV (sel : Int → Int → Int) (l pl ph : Int) (p : Pt) (t : Int) : Int := if arrive sel l pl ph p t = 2881 then 1073741824 else arrive sel l pl ph p t

/-- When one begins to wait for a path to open, and how long one takes for it. -/
def wIn (waits : List Int) (k : Nat) (a : Int) : Int := if k < waits.length then a + waits.getD k 0 else a
def wTm (times : List Int) (k : Nat) (hi : Int) : Int := if k < times.length then times.getD k 0 else hi
/-- A walk: when one is after the first paths of a route; none: a path does not open any more. -/
def wk (l pl ph : Int) (ps : List Pt) (s : Int) (r waits times : List Int) : Nat → Option Int
  | 0 => some s
  | k + 1 => match wk l pl ph ps s r waits times k with
    | none => none
    | some a =>
      if 1073741824 ≤ enter 1073741824 (ps.getD (r.getD k 0).toNat zeroPt).opens (wIn waits k a) then none
      else some (enter 1073741824 (ps.getD (r.getD k 0).toNat zeroPt).opens (wIn waits k a) + wTm times k (timeOf (ps.getD (r.getD k 0).toNat zeroPt).th ph (ps.getD (r.getD k 0).toNat zeroPt).sh l))
def wkEnd (o : Option Int) : Int := match o with | none => 1073741824 | some a => a
theorem wk_pre {l pl ph : Int} {ps : List Pt} {s : Int} {r waits times : List Int} {a : Int} : ∀ (K : Nat), wk l pl ph ps s r waits times K = some a → ∀ k, k ≤ K → ∃ b, wk l pl ph ps s r waits times k = some b
  | 0, h, k, hk => by
    obtain rfl : k = 0 := by omega
    exact ⟨a, h⟩
  | K + 1, h, k, hk => by
    by_cases hkk : k = K + 1
    · subst hkk; exact ⟨a, h⟩
    · rw [wk] at h
      cases hK : wk l pl ph ps s r waits times K with
      | none => rw [hK] at h; exact absurd h (by simp)
      | some b => exact wk_pre K hK k (by omega)
theorem wk_step {l pl ph : Int} {ps : List Pt} {s : Int} {r waits times : List Int} {k : Nat} {a b : Int} (ha : wk l pl ph ps s r waits times k = some a) (hb : wk l pl ph ps s r waits times (k + 1) = some b) :
    enter 1073741824 (ps.getD (r.getD k 0).toNat zeroPt).opens (wIn waits k a) < 1073741824 ∧
    b = enter 1073741824 (ps.getD (r.getD k 0).toNat zeroPt).opens (wIn waits k a) + wTm times k (timeOf (ps.getD (r.getD k 0).toNat zeroPt).th ph (ps.getD (r.getD k 0).toNat zeroPt).sh l) := by
  rw [wk, ha] at hb
  dsimp only at hb
  by_cases hc : 1073741824 ≤ enter 1073741824 (ps.getD (r.getD k 0).toNat zeroPt).opens (wIn waits k a)
  · rw [if_pos hc] at hb
    exact absurd hb (by simp)
  · rw [if_neg hc] at hb
    exact ⟨by omega, (Option.some.inj hb).symm⟩

/-- No walk is quicker than the lowest arrivals, with the times of sel. -/
theorem wk_low {sel : Int → Int → Int} {g l pl ph : Int} {ps : List Pt} {m : Nat} (hs : SelGe sel) (ha : PaOk l pl ph) (hm : 1 ≤ m) (hN : NOk m ps) (hO : ∀ i, i < ps.length → ∀ o, o ∈ (ps.getD i zeroPt).opens → 0 ≤ o.1 ∧ o.1 ≤ o.2 ∧ o.2 ≤ 2880)
    (from_ : Nat) (hfr : from_ < m) {s : Int} (h0 : 0 ≤ s) (h1 : s ≤ 2881) {r waits times : List Int} (hr : RouteOk g ps from_ r) (hw : ∀ k, k < waits.length → 0 ≤ waits.getD k 0)
    (ht : ∀ k, k < r.length → sel (timeOf (ps.getD (r.getD k 0).toNat zeroPt).tl pl (ps.getD (r.getD k 0).toNat zeroPt).sl l) (timeOf (ps.getD (r.getD k 0).toNat zeroPt).th ph (ps.getD (r.getD k 0).toNat zeroPt).sh l) ≤
      wTm times k (timeOf (ps.getD (r.getD k 0).toNat zeroPt).th ph (ps.getD (r.getD k 0).toNat zeroPt).sh l))
    {a : Int} (hk : wk l pl ph ps s r waits times r.length = some a) :
    (rows sel g l pl ph ps m from_ s (m - 1)).getD (stopAt ps from_ r r.length).toNat 0 ≤ a := by
  have hpre := wk_pre _ hk
  have h := rows_low (g := g) hs ha hm hN from_ hfr h0 h1 hr (fun k => wkEnd (wk l pl ph ps s r waits times k)) r.length (Nat.le_refl _) (by show s ≤ s; exact Int.le_refl _) (fun k hkl => by
    obtain ⟨b, hb⟩ := hpre k (by omega)
    obtain ⟨c, hc⟩ := hpre (k + 1) (by omega)
    have hst := wk_step hb hc
    have hlo := hr.lo k hkl
    have hhi := hr.hi k hkl
    have h2 := enter_two (ps.getD (r.getD k 0).toNat zeroPt).opens b (fun o ho => (hO _ (by omega) o ho).2)
    have hmo : enter 1073741824 (ps.getD (r.getD k 0).toNat zeroPt).opens b ≤ enter 1073741824 (ps.getD (r.getD k 0).toNat zeroPt).opens (wIn waits k b) := enter_mono (Int.le_refl _) (by
      unfold wIn
      split
      · rename_i hkw
        have := hw k hkw
        omega
      · exact Int.le_refl _)
    have htk := ht k hkl
    show arrive sel l pl ph _ (wkEnd (wk l pl ph ps s r waits times k)) ≤ wkEnd (wk l pl ph ps s r waits times (k + 1))
    rw [hb, hc]
    show arrive sel l pl ph _ b ≤ c
    rw [hst.2]
    unfold arrive
    omega)
  rw [hk] at h
  exact h

theorem arriveHi (l pl ph : Int) (p : Pt) (t : Int) : arrive selHi l pl ph p t = min (enter 2881 p.opens t + timeOf p.th ph p.sh l) 2881 := rfl
/-- Who takes no longer than the upper ends is not later than the sure times. -/
theorem wk_high {g l pl ph : Int} {ps : List Pt} {m : Nat} (ha : PaOk l pl ph) (hN : NOk m ps) (hO : ∀ i, i < ps.length → ∀ o, o ∈ (ps.getD i zeroPt).opens → 0 ≤ o.1 ∧ o.1 ≤ o.2 ∧ o.2 ≤ 2880)
    {from_ : Int} {s : Int} (h0 : 0 ≤ s) (h1 : s ≤ 2881) {r times : List Int} (hr : RouteOk g ps from_ r)
    (ht : ∀ k, k < r.length → wTm times k (timeOf (ps.getD (r.getD k 0).toNat zeroPt).th ph (ps.getD (r.getD k 0).toNat zeroPt).sh l) ≤ timeOf (ps.getD (r.getD k 0).toNat zeroPt).th ph (ps.getD (r.getD k 0).toNat zeroPt).sh l) :
    ∀ K, K ≤ r.length → minAt selHi l pl ph ps s r K ≤ 2880 → ∃ a, wk l pl ph ps s r [] times K = some a ∧ a ≤ minAt selHi l pl ph ps s r K
  | 0, _, _ => ⟨s, rfl, Int.le_refl _⟩
  | K + 1, hK, hM => by
    have hlo := hr.lo K (by omega)
    have hhi := hr.hi K (by omega)
    have hbd := minAt_ge selHi_pos ha hN h0 h1 (r := r) (fun j hj => ⟨hr.lo j hj, hr.hi j hj⟩) K (by omega)
    have hge := arrive_geS selHi_pos ha (hN.ok (r.getD K 0).toNat (by omega)) hbd.2
    have hMe : minAt selHi l pl ph ps s r (K + 1) = arrive selHi l pl ph (ps.getD (r.getD K 0).toNat zeroPt) (minAt selHi l pl ph ps s r K) := rfl
    rw [hMe] at hM ⊢
    obtain ⟨a, hka, hle⟩ := wk_high ha hN hO h0 h1 hr ht K (by omega) (by omega)
    have h2 := enter_two (ps.getD (r.getD K 0).toNat zeroPt).opens (minAt selHi l pl ph ps s r K) (fun o ho => (hO _ (by omega) o ho).2)
    have hmo : enter 1073741824 (ps.getD (r.getD K 0).toNat zeroPt).opens a ≤ enter 1073741824 (ps.getD (r.getD K 0).toNat zeroPt).opens (minAt selHi l pl ph ps s r K) := enter_mono (Int.le_refl _) hle
    have htk := ht K (by omega)
    have hpt := hN.ok (r.getD K 0).toNat (by omega)
    have ⟨b5, b6⟩ := timeOf_bd (t := (ps.getD (r.getD K 0).toNat zeroPt).th) (p := ph) (s := (ps.getD (r.getD K 0).toNat zeroPt).sh) (l := l) (by have := hpt.t1; have := hpt.t2; omega) hpt.t3 (by have := ha.p1; have := ha.p2; omega) ha.p3 (by have := hpt.s1; have := hpt.s2; omega) hpt.s3 ha.l1 ha.l2
    rw [arriveHi] at hM
    refine ⟨enter 1073741824 (ps.getD (r.getD K 0).toNat zeroPt).opens a + wTm times K (timeOf (ps.getD (r.getD K 0).toNat zeroPt).th ph (ps.getD (r.getD K 0).toNat zeroPt).sh l), ?_, ?_⟩
    · rw [wk, hka]
      dsimp only
      have hw : wIn [] K a = a := by unfold wIn; rw [if_neg (by simp)]
      rw [hw, if_neg (by omega)]
    · rw [arriveHi]
      omega
/-- With the upper ends one is there at the sure times. -/
theorem wk_same {g l pl ph : Int} {ps : List Pt} {m : Nat} (ha : PaOk l pl ph) (hN : NOk m ps) (hO : ∀ i, i < ps.length → ∀ o, o ∈ (ps.getD i zeroPt).opens → 0 ≤ o.1 ∧ o.1 ≤ o.2 ∧ o.2 ≤ 2880)
    {from_ : Int} {s : Int} (h0 : 0 ≤ s) (h1 : s ≤ 2881) {r : List Int} (hr : RouteOk g ps from_ r) :
    ∀ K, K ≤ r.length → minAt selHi l pl ph ps s r K ≤ 2880 → wk l pl ph ps s r [] [] K = some (minAt selHi l pl ph ps s r K)
  | 0, _, _ => rfl
  | K + 1, hK, hM => by
    have hlo := hr.lo K (by omega)
    have hhi := hr.hi K (by omega)
    have hbd := minAt_ge selHi_pos ha hN h0 h1 (r := r) (fun j hj => ⟨hr.lo j hj, hr.hi j hj⟩) K (by omega)
    have hge := arrive_geS selHi_pos ha (hN.ok (r.getD K 0).toNat (by omega)) hbd.2
    have hMe : minAt selHi l pl ph ps s r (K + 1) = arrive selHi l pl ph (ps.getD (r.getD K 0).toNat zeroPt) (minAt selHi l pl ph ps s r K) := rfl
    rw [hMe] at hM ⊢
    have ih := wk_same ha hN hO h0 h1 hr K (by omega) (by omega)
    have h2 := enter_two (ps.getD (r.getD K 0).toNat zeroPt).opens (minAt selHi l pl ph ps s r K) (fun o ho => (hO _ (by omega) o ho).2)
    rw [arriveHi] at hM ⊢
    rw [wk, ih]
    dsimp only
    have hpt := hN.ok (r.getD K 0).toNat (by omega)
    have ⟨b5, b6⟩ := timeOf_bd (t := (ps.getD (r.getD K 0).toNat zeroPt).th) (p := ph) (s := (ps.getD (r.getD K 0).toNat zeroPt).sh) (l := l) (by have := hpt.t1; have := hpt.t2; omega) hpt.t3 (by have := ha.p1; have := ha.p2; omega) ha.p3 (by have := hpt.s1; have := hpt.s2; omega) hpt.s3 ha.l1 ha.l2
    have hw : ∀ a, wIn [] K a = a := fun a => by unfold wIn; rw [if_neg (by simp)]
    have ht : ∀ a, wTm [] K a = a := fun a => by unfold wTm; rw [if_neg (by simp)]
    rw [hw, ht, if_neg (by omega)]
    congr 1
    omega
end Go.Proofs.Ytndoghcglbpllaa
