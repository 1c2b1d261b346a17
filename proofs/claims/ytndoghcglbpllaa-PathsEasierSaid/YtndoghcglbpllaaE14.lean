/- A walk along a route, with waits and times; and the first minutes at which paths open. -/
import Derived.Test.YtndoghcglbpllaaE13
import Derived.Test.YtndoghcglbpllaaE11
import Derived.Test.YtndoghcglbpllaaE07
set_option linter.unusedSimpArgs false
set_option linter.unusedVariables false
namespace Go.Proofs.Ytndoghcglbpllaa
open Go.RowKit
theorem enter_min (os : List (Int × Int)) (t c : Int) : ∀ f : Int, enter (min f c) os t = min (enter f os t) c := by
  unfold enter
  induction os with
  | nil => intro f; rfl
  | cons o os ih =>
    intro f
    simp only [List.foldl_cons]
    have h : enterStep t (min f c) o = min (enterStep t f o) c := by unfold enterStep; split <;> omega
    rw [h, ih]
theorem enter_top (os : List (Int × Int)) (t : Int) (hos : ∀ o, o ∈ os → o.1 ≤ o.2 ∧ o.2 ≤ 2880) (N : Int) : ∀ f : Int, (f = N ∨ f ≤ 2880) → (enter f os t = N ∨ enter f os t ≤ 2880) := by
  unfold enter
  induction os with
  | nil => intro f h; exact h
  | cons o os ih =>
    intro f h
    simp only [List.foldl_cons]
    refine ih (fun o' ho' => hos o' (List.mem_cons_of_mem _ ho')) _ ?_
    have := hos o List.mem_cons_self
    unfold enterStep
    split
    · right; omega
    · exact h
/-- The two ways to say never. -/
theorem enter_two (os : List (Int × Int)) (t : Int) (hos : ∀ o, o ∈ os → o.1 ≤ o.2 ∧ o.2 ≤ 2880) :
    (enter 1073741824 os t = 1073741824 ∧ enter 2881 os t = 2881) ∨ (enter 1073741824 os t ≤ 2880 ∧ enter 2881 os t = enter 1073741824 os t) := by
  have h1 := enter_min os t 2881 1073741824
  have h2 := enter_top os t hos 1073741824 1073741824 (.inl rfl)
  rw [show min (1073741824 : Int) 2881 = 2881 by omega] at h1
  omega
theorem vNet_opens {m : Int} {ps : List Pt} (h : vNet m ps = true) (i : Nat) (hi : i < ps.length) : ∀ o, o ∈ (ps.getD i zeroPt).opens → 0 ≤ o.1 ∧ o.1 ≤ o.2 ∧ o.2 ≤ 2880 := by
  unfold vNet at h
  simp only [Bool.and_eq_true, decide_eq_true_eq] at h
  obtain ⟨-, -, -, h4⟩ := h
  rw [List.all_eq_true] at h4
  have hv := h4 _ (List.getElem_mem hi)
  have hg : ps.getD i zeroPt = ps[i] := by simp [List.getD, List.getElem?_eq_getElem hi]
  rw [hg]
  unfold vPath at hv
  simp only [Bool.and_eq_true] at hv
  have ho := hv.2.2.2.2.2.2.2
  rw [List.all_eq_true] at ho
  intro o hm
  have := spanB_ok (ho o hm)
  omega
/-- What Step returns. -/
def stepV (sel : Int → Int → Int) (l pl ph : Int) (p : Pt) (t : Int) : Int := if arrive sel l pl ph p t = 2881 then 1073741824 else arrive sel l pl ph p t

/-- When one begins to wait for a path to open, and how long one takes for it. -/
def wIn (waits : List Int) (k : Nat) (a : Int) : Int := if k < waits.length then a + waits.getD k 0 else a
def wTm (times : List Int) (k : Nat) (hi : Int) : Int := if k < times.length then times.getD k 0 else hi
/-- A walk: when one is after the first paths of a route; none: a path does not open any more. -/
def wk (l pl ph : Int) (ps : List Pt) (s : Int) (r waits times : List Int) : Nat → Option Int
  | 0 => some s
  | k + 1 => match wk l pl ph ps s r waits times k with
    | none => none
    | some a =>
      if 1073741824 ≤ enter 1073741824 (ps.getD (r.getD k 0).toNat zeroPt).opens (wIn waits k a) then none
      else some (enter 1073741824 (ps.getD (r.getD k 0).toNat zeroPt).opens (wIn waits k a) + wTm times k (timeOf (ps.getD (r.getD k 0).toNat zeroPt).th ph (ps.getD (r.getD k 0).toNat zeroPt).sh l))
def wkEnd (o : Option Int) : Int := match o with | none => 1073741824 | some a => a
theorem wk_pre {l pl ph : Int} {ps : List Pt} {s : Int} {r waits times : List Int} {a : Int} : ∀ (K : Nat), wk l pl ph ps s r waits times K = some a → ∀ k, k ≤ K → ∃ b, wk l pl ph ps s r waits times k = some b
  | 0, h, k, hk => by
    obtain rfl : k = 0 := by omega
    exact ⟨a, h⟩
  | K + 1, h, k, hk => by
    by_cases hkk : k = K + 1
    · subst hkk; exact ⟨a, h⟩
    · rw [wk] at h
      cases hK : wk l pl ph ps s r waits times K with
      | none => rw [hK] at h; exact absurd h (by simp)
      | some b => exact wk_pre K hK k (by omega)
theorem wk_step {l pl ph : Int} {ps : List Pt} {s : Int} {r waits times : List Int} {k : Nat} {a b : Int} (ha : wk l pl ph ps s r waits times k = some a) (hb : wk l pl ph ps s r waits times (k + 1) = some b) :
    enter 1073741824 (ps.getD (r.getD k 0).toNat zeroPt).opens (wIn waits k a) < 1073741824 ∧
    b = enter 1073741824 (ps.getD (r.getD k 0).toNat zeroPt).opens (wIn waits k a) + wTm times k (timeOf (ps.getD (r.getD k 0).toNat zeroPt).th ph (ps.getD (r.getD k 0).toNat zeroPt).sh l) := by
  rw [wk, ha] at hb
  dsimp only at hb
  by_cases hc : 1073741824 ≤ enter 1073741824 (ps.getD (r.getD k 0).toNat zeroPt).opens (wIn waits k a)
  · rw [if_pos hc] at hb
    exact absurd hb (by simp)
  · rw [if_neg hc] at hb
    exact ⟨by omega, (Option.some.inj hb).symm⟩

/-- No walk is quicker than the lowest arrivals, with the times of sel. -/
theorem wk_low {sel : Int → Int → Int} {g l pl ph : Int} {ps : List Pt} {m : Nat} (hs : SelGe sel) (ha : PaOk l pl ph) (hm : 1 ≤ m) (hN : NOk m ps) (hO : ∀ i, i < ps.length → ∀ o, o ∈ (ps.getD i zeroPt).opens → 0 ≤ o.1 ∧ o.1 ≤ o.2 ∧ o.2 ≤ 2880)
    (from_ : Nat) (hfr : from_ < m) {s : Int} (h0 : 0 ≤ s) (h1 : s ≤ 2881) {r waits times : List Int} (hr : RouteOk g ps from_ r) (hw : ∀ k, k < waits.length → 0 ≤ waits.getD k 0)
    (ht : ∀ k, k < r.length → sel (timeOf (ps.getD (r.getD k 0).toNat zeroPt).tl pl (ps.getD (r.getD k 0).toNat zeroPt).sl l) (timeOf (ps.getD (r.getD k 0).toNat zeroPt).th ph (ps.getD (r.getD k 0).toNat zeroPt).sh l) ≤
      wTm times k (timeOf (ps.getD (r.getD k 0).toNat zeroPt).th ph (ps.getD (r.getD k 0).toNat zeroPt).sh l))
    {a : Int} (hk : wk l pl ph ps s r waits times r.length = some a) :
    (rows sel g l pl ph ps m from_ s (m - 1)).getD (stopAt ps from_ r r.length).toNat 0 ≤ a := by
  have hpre := wk_pre _ hk
  have h := rows_low (g := g) hs ha hm hN from_ hfr h0 h1 hr (fun k => wkEnd (wk l pl ph ps s r waits times k)) r.length (Nat.le_refl _) (by show s ≤ s; exact Int.le_refl _) (fun k hkl => by
    obtain ⟨b, hb⟩ := hpre k (by omega)
    obtain ⟨c, hc⟩ := hpre (k + 1) (by omega)
    have hst := wk_step hb hc
    have hlo := hr.lo k hkl
    have hhi := hr.hi k hkl
    have h2 := enter_two (ps.getD (r.getD k 0).toNat zeroPt).opens b (fun o ho => (hO _ (by omega) o ho).2)
    have hmo : enter 1073741824 (ps.getD (r.getD k 0).toNat zeroPt).opens b ≤ enter 1073741824 (ps.getD (r.getD k 0).toNat zeroPt).opens (wIn waits k b) := enter_mono (Int.le_refl _) (by
      unfold wIn
      split
      · rename_i hkw
        have := hw k hkw
        omega
      · exact Int.le_refl _)
    have htk := ht k hkl
    show arrive sel l pl ph _ (wkEnd (wk l pl ph ps s r waits times k)) ≤ wkEnd (wk l pl ph ps s r waits times (k + 1))
    rw [hb, hc]
    show arrive sel l pl ph _ b ≤ c
    rw [hst.2]
    unfold arrive
    omega)
  rw [hk] at h
  exact h

theorem arriveHi (l pl ph : Int) (p : Pt) (t : Int) : arrive selHi l pl ph p t = min (enter 2881 p.opens t + timeOf p.th ph p.sh l) 2881 := rfl
/-- Who takes no longer than the upper ends is not later than the sure times. -/
theorem wk_high {g l pl ph : Int} {ps : List Pt} {m : Nat} (ha : PaOk l pl ph) (hN : NOk m ps) (hO : ∀ i, i < ps.length → ∀ o, o ∈ (ps.getD i zeroPt).opens → 0 ≤ o.1 ∧ o.1 ≤ o.2 ∧ o.2 ≤ 2880)
    {from_ : Int} {s : Int} (h0 : 0 ≤ s) (h1 : s ≤ 2881) {r times : List Int} (hr : RouteOk g ps from_ r)
    (ht : ∀ k, k < r.length → wTm times k (timeOf (ps.getD (r.getD k 0).toNat zeroPt).th ph (ps.getD (r.getD k 0).toNat zeroPt).sh l) ≤ timeOf (ps.getD (r.getD k 0).toNat zeroPt).th ph (ps.getD (r.getD k 0).toNat zeroPt).sh l) :
    ∀ K, K ≤ r.length → minAt selHi l pl ph ps s r K ≤ 2880 → ∃ a, wk l pl ph ps s r [] times K = some a ∧ a ≤ minAt selHi l pl ph ps s r K
  | 0, _, _ => ⟨s, rfl, Int.le_refl _⟩
  | K + 1, hK, hM => by
    have hlo := hr.lo K (by omega)
    have hhi := hr.hi K (by omega)
    have hbd := minAt_ge selHi_pos ha hN h0 h1 (r := r) (fun j hj => ⟨hr.lo j hj, hr.hi j hj⟩) K (by omega)
    have hge := arrive_geS selHi_pos ha (hN.ok (r.getD K 0).toNat (by omega)) hbd.2
    have hMe : minAt selHi l pl ph ps s r (K + 1) = arrive selHi l pl ph (ps.getD (r.getD K 0).toNat zeroPt) (minAt selHi l pl ph ps s r K) := rfl
    rw [hMe] at hM ⊢
    obtain ⟨a, hka, hle⟩ := wk_high ha hN hO h0 h1 hr ht K (by omega) (by omega)
    have h2 := enter_two (ps.getD (r.getD K 0).toNat zeroPt).opens (minAt selHi l pl ph ps s r K) (fun o ho => (hO _ (by omega) o ho).2)
    have hmo : enter 1073741824 (ps.getD (r.getD K 0).toNat zeroPt).opens a ≤ enter 1073741824 (ps.getD (r.getD K 0).toNat zeroPt).opens (minAt selHi l pl ph ps s r K) := enter_mono (Int.le_refl _) hle
    have htk := ht K (by omega)
    have hpt := hN.ok (r.getD K 0).toNat (by omega)
    have ⟨b5, b6⟩ := timeOf_bd (t := (ps.getD (r.getD K 0).toNat zeroPt).th) (p := ph) (s := (ps.getD (r.getD K 0).toNat zeroPt).sh) (l := l) (by have := hpt.t1; have := hpt.t2; omega) hpt.t3 (by have := ha.p1; have := ha.p2; omega) ha.p3 (by have := hpt.s1; have := hpt.s2; omega) hpt.s3 ha.l1 ha.l2
    rw [arriveHi] at hM
    refine ⟨enter 1073741824 (ps.getD (r.getD K 0).toNat zeroPt).opens a + wTm times K (timeOf (ps.getD (r.getD K 0).toNat zeroPt).th ph (ps.getD (r.getD K 0).toNat zeroPt).sh l), ?_, ?_⟩
    · rw [wk, hka]
      dsimp only
      have hw : wIn [] K a = a := by unfold wIn; rw [if_neg (by simp)]
      rw [hw, if_neg (by omega)]
    · rw [arriveHi]
      omega
/-- With the upper ends one is there at the sure times. -/
theorem wk_same {g l pl ph : Int} {ps : List Pt} {m : Nat} (ha : PaOk l pl ph) (hN : NOk m ps) (hO : ∀ i, i < ps.length → ∀ o, o ∈ (ps.getD i zeroPt).opens → 0 ≤ o.1 ∧ o.1 ≤ o.2 ∧ o.2 ≤ 2880)
    {from_ : Int} {s : Int} (h0 : 0 ≤ s) (h1 : s ≤ 2881) {r : List Int} (hr : RouteOk g ps from_ r) :
    ∀ K, K ≤ r.length → minAt selHi l pl ph ps s r K ≤ 2880 → wk l pl ph ps s r [] [] K = some (minAt selHi l pl ph ps s r K)
  | 0, _, _ => rfl
  | K + 1, hK, hM => by
    have hlo := hr.lo K (by omega)
    have hhi := hr.hi K (by omega)
    have hbd := minAt_ge selHi_pos ha hN h0 h1 (r := r) (fun j hj => ⟨hr.lo j hj, hr.hi j hj⟩) K (by omega)
    have hge := arrive_geS selHi_pos ha (hN.ok (r.getD K 0).toNat (by omega)) hbd.2
    have hMe : minAt selHi l pl ph ps s r (K + 1) = arrive selHi l pl ph (ps.getD (r.getD K 0).toNat zeroPt) (minAt selHi l pl ph ps s r K) := rfl
    rw [hMe] at hM ⊢
    have ih := wk_same ha hN hO h0 h1 hr K (by omega) (by omega)
    have h2 := enter_two (ps.getD (r.getD K 0).toNat zeroPt).opens (minAt selHi l pl ph ps s r K) (fun o ho => (hO _ (by omega) o ho).2)
    rw [arriveHi] at hM ⊢
    rw [wk, ih]
    dsimp only
    have hpt := hN.ok (r.getD K 0).toNat (by omega)
    have ⟨b5, b6⟩ := timeOf_bd (t := (ps.getD (r.getD K 0).toNat zeroPt).th) (p := ph) (s := (ps.getD (r.getD K 0).toNat zeroPt).sh) (l := l) (by have := hpt.t1; have := hpt.t2; omega) hpt.t3 (by have := ha.p1; have := ha.p2; omega) ha.p3 (by have := hpt.s1; have := hpt.s2; omega) hpt.s3 ha.l1 ha.l2
    have hw : ∀ a, wIn [] K a = a := fun a => by unfold wIn; rw [if_neg (by simp)]
    have ht : ∀ a, wTm [] K a = a := fun a => by unfold wTm; rw [if_neg (by simp)]
    rw [hw, ht, if_neg (by omega)]
    congr 1
    omega
end Go.Proofs.Ytndoghcglbpllaa
/- What makes a way easier: no sure arrival becomes later. -/
set_option linter.unusedSimpArgs false
set_option linter.unusedVariables false
namespace Go.Proofs.Ytndoghcglbpllaa
open Go.RowKit
/-- A path that is not harder than another one. -/
structure EasyPt (p q : Pt) : Prop where
  frm : q.frm = p.frm
  dst : q.dst = p.dst
  grade : q.grade ≤ p.grade
  tl : q.tl = p.tl
  th : q.th = p.th
  sl : q.sl ≤ p.sl
  sh : q.sh ≤ p.sh
  opens : ∀ f t, enter f q.opens t ≤ enter f p.opens t
theorem EasyPt.refl (p : Pt) : EasyPt p p := ⟨rfl, rfl, Int.le_refl _, rfl, rfl, Int.le_refl _, Int.le_refl _, fun _ _ => Int.le_refl _⟩
theorem enter_le (os : List (Int × Int)) (f t : Int) : enter f os t ≤ f := by
  unfold enter
  induction os generalizing f with
  | nil => exact Int.le_refl _
  | cons o os ih =>
    rw [List.foldl_cons]
    refine Int.le_trans (ih _) ?_
    unfold enterStep
    split <;> omega
/-- One more span in which a path opens. -/
theorem enter_more (os xs : List (Int × Int)) (f t : Int) : enter f (os ++ xs) t ≤ enter f os t := by
  unfold enter
  rw [List.foldl_append]
  exact enter_le xs _ t
theorem timeOf_mono {t p p' s s' l l' : Int} (ht : 1 ≤ t) (hp : 0 ≤ p') (hpp : p' ≤ p) (hs : 0 ≤ s') (hss : s' ≤ s) (hl : 0 ≤ l') (hll : l' ≤ l) : timeOf t p' s' l' ≤ timeOf t p s l := by
  unfold timeOf
  have h1 : t * p' ≤ t * p := Int.mul_le_mul_of_nonneg_left hpp (by omega)
  have h2 : t * p' * (100 + 5 * s' + l') ≤ t * p * (100 + 5 * s + l) := Int.mul_le_mul h1 (by omega) (by omega) (Int.mul_nonneg (by omega) (by omega))
  omega
theorem arrive_easy {l l' pl pl' ph ph' : Int} {p q : Pt} (he : EasyPt p q) (ht : 1 ≤ p.th) (hs : 0 ≤ q.sh) (hl0 : 0 ≤ l') (hl : l' ≤ l) (hp0 : 0 ≤ ph') (hp : ph' ≤ ph) {t t' : Int} (h : t ≤ t') : arrive selHi l' pl' ph' q t ≤ arrive selHi l pl ph p t' := by
  have h1 : enter 2881 q.opens t ≤ enter 2881 p.opens t' := Int.le_trans (he.opens _ _) (enter_mono (Int.le_refl _) h)
  have h2 : timeOf q.th ph' q.sh l' ≤ timeOf p.th ph p.sh l := by rw [he.th]; exact timeOf_mono ht hp0 hp hs he.sh hl0 hl
  unfold arrive selHi
  omega
/-- A net and a party for which nothing is harder. -/
structure EasyNet (ps qs : List Pt) : Prop where
  len : ps.length ≤ qs.length
  pt : ∀ i, i < ps.length → EasyPt (ps.getD i zeroPt) (qs.getD i zeroPt)
theorem rows_easy {g l l' pl pl' ph ph' : Int} {ps qs : List Pt} {m : Nat} (hE : EasyNet ps qs) (hN : NOk m ps) (hQ : NOk m qs) (hl0 : 0 ≤ l') (hl : l' ≤ l) (hp0 : 0 ≤ ph') (hp : ph' ≤ ph) (from_ : Nat) (s : Int) (v : Nat) (hv : v < m) :
    ∀ k, (rows selHi g l' pl' ph' qs m from_ s k).getD v 0 ≤ (rows selHi g l pl ph ps m from_ s k).getD v 0 := by
  intro k
  induction k generalizing v with
  | zero => rw [rows_zero from_ s v hv, rows_zero from_ s v hv]; exact Int.le_refl _
  | succ k ih =>
    rcases rows_got (sel := selHi) (g := g) (l := l) (pl := pl) (ph := ph) (ps := ps) (m := m) from_ s k v with h | ⟨i, hi, hg, hd, h⟩
    · rw [h]
      exact Int.le_trans (rows_le from_ s k v) (ih v hv)
    · have he := hE.pt i hi
      have hi' : i < qs.length := by have := hE.len; omega
      have h1 := rows_hit (sel := selHi) (g := g) (l := l') (pl := pl') (ph := ph') hQ from_ s k hi' (Int.le_trans he.grade hg)
      rw [he.dst, he.frm, hd] at h1
      have hf := hN.frm i hi
      refine Int.le_trans h1 ?_
      rw [h]
      exact arrive_easy he (by have := (hN.ok i hi).t1; have := (hN.ok i hi).t2; omega) (by have := (hQ.ok i hi').s1; have := (hQ.ok i hi').s2; omega) hl0 hl hp0 hp (ih _ (by omega))
theorem vNet_at {m : Int} {ps : List Pt} (h : vNet m ps = true) (i : Nat) (hi : i < ps.length) : vPath m (ps.getD i zeroPt) = true := by
  unfold vNet at h
  simp only [Bool.and_eq_true, decide_eq_true_eq] at h
  obtain ⟨-, -, -, h4⟩ := h
  rw [List.all_eq_true] at h4
  have hv := h4 _ (List.getElem_mem hi)
  have hg : ps.getD i zeroPt = ps[i] := by simp [List.getD, List.getElem?_eq_getElem hi]
  rw [hg]
  exact hv
theorem grade_of {m : Int} {ps : List Pt} (h : vNet m ps = true) (i : Nat) (hi : i < ps.length) : 1 ≤ (ps.getD i zeroPt).grade ∧ (ps.getD i zeroPt).grade ≤ 6 := by
  have hv := vNet_at h i hi
  unfold vPath gradeB at hv
  simp only [Bool.and_eq_true, decide_eq_true_eq] at hv
  omega
end Go.Proofs.Ytndoghcglbpllaa
/- The table of the specification: the lowest arrivals, path by path in place. -/
set_option linter.unusedSimpArgs false
set_option linter.unusedVariables false
namespace Go.Proofs.Ytndoghcglbpllaa
open Go.RowKit
section
variable (sel : Int → Int → Int) (g l pl ph : Int) (ps : List Pt) (but : Int)
def ipStep (acc : List Int) (i : Nat) : List Int :=
  if (i : Int) ≠ but ∧ (ps.getD i zeroPt).grade ≤ g then acc.set (ps.getD i zeroPt).dst.toNat (min (acc.getD (ps.getD i zeroPt).dst.toNat 0) (arrive sel l pl ph (ps.getD i zeroPt) (acc.getD (ps.getD i zeroPt).frm.toNat 0))) else acc
def ipTo (acc : List Int) (k : Nat) : List Int := (List.range k).foldl (ipStep sel g l pl ph ps but) acc
def ipRows (m from_ : Nat) (start : Int) : Nat → List Int
  | 0 => (List.replicate m 2881).set from_ start
  | k + 1 => ipTo sel g l pl ph ps but (ipRows m from_ start k) ps.length
theorem ipTo_succ (acc : List Int) (k : Nat) : ipTo sel g l pl ph ps but acc (k + 1) = ipStep sel g l pl ph ps but (ipTo sel g l pl ph ps but acc k) k := by
  unfold ipTo
  rw [List.range_succ, List.foldl_append]
  rfl
end
section
variable {sel : Int → Int → Int} {g l pl ph : Int} {ps : List Pt} {but : Int} {m : Nat}
theorem ipStep_len (acc : List Int) (i : Nat) : (ipStep sel g l pl ph ps but acc i).length = acc.length := by
  unfold ipStep
  split
  · simp
  · rfl
theorem ipStep_le (acc : List Int) (i : Nat) : LeRow (ipStep sel g l pl ph ps but acc i) acc := by
  refine ⟨ipStep_len acc i, fun k => ?_⟩
  unfold ipStep
  split
  · rw [getD_set]
    split
    · rename_i h; rw [h.1]; omega
    · exact Int.le_refl _
  · exact Int.le_refl _
theorem ipTo_len (acc : List Int) : ∀ k, (ipTo sel g l pl ph ps but acc k).length = acc.length
  | 0 => rfl
  | k + 1 => by rw [ipTo_succ, ipStep_len]; exact ipTo_len acc k
theorem ipTo_le (acc : List Int) : ∀ k, LeRow (ipTo sel g l pl ph ps but acc k) acc
  | 0 => LeRow.refl _
  | k + 1 => by
    rw [ipTo_succ]
    have h1 := ipStep_le (sel := sel) (g := g) (l := l) (pl := pl) (ph := ph) (ps := ps) (but := but) (ipTo sel g l pl ph ps but acc k) k
    have h2 := ipTo_le acc k
    exact ⟨h1.1.trans h2.1, fun j => Int.le_trans (h1.2 j) (h2.2 j)⟩
theorem ipRows_len (from_ : Nat) (start : Int) : ∀ k, (ipRows sel g l pl ph ps but m from_ start k).length = m
  | 0 => by simp [ipRows]
  | k + 1 => by rw [ipRows, ipTo_len]; exact ipRows_len from_ start k
theorem ipStep_bd (hs : SelGe sel) (ha : PaOk l pl ph) (hN : NOk m ps) {acc : List Int} (h : BdRow m acc) {i : Nat} (hi : i < ps.length) : BdRow m (ipStep sel g l pl ph ps but acc i) := by
  unfold ipStep
  split
  · have hd := hN.dst i hi
    have hf := hN.frm i hi
    have h1 := h.2 (ps.getD i zeroPt).dst.toNat (by omega)
    have h2 := h.2 (ps.getD i zeroPt).frm.toNat (by omega)
    have h3 := arrive_bd hs ha (hN.ok i hi) h2.1
    exact bd_set h _ (by omega) (by omega)
  · exact h
theorem ipTo_bd (hs : SelGe sel) (ha : PaOk l pl ph) (hN : NOk m ps) {acc : List Int} (h : BdRow m acc) : ∀ k, k ≤ ps.length → BdRow m (ipTo sel g l pl ph ps but acc k)
  | 0, _ => h
  | k + 1, hk => by
    rw [ipTo_succ]
    exact ipStep_bd hs ha hN (ipTo_bd hs ha hN h k (by omega)) hk
theorem ipRows_bd (hs : SelGe sel) (ha : PaOk l pl ph) (hN : NOk m ps) {from_ : Nat} {start : Int} (h0 : 0 ≤ start) (h1 : start ≤ 2881) : ∀ k, BdRow m (ipRows sel g l pl ph ps but m from_ start k)
  | 0 => bd_set ⟨by simp, fun k hk => by simp [List.getD, hk]⟩ _ h0 h1
  | k + 1 => ipTo_bd hs ha hN (ipRows_bd hs ha hN h0 h1 k) _ (Nat.le_refl _)
/-- In place is not later than round by round. -/
theorem ipTo_pm (hbut : ∀ i : Nat, i < ps.length → (i : Int) ≠ but) {acc low : List Int} (h : LeRow acc low) : ∀ k, k ≤ ps.length → LeRow (ipTo sel g l pl ph ps but acc k) (pmFold sel l pl ph ps low (walkIdx ps g k))
  | 0, _ => h
  | k + 1, hk => by
    have ih := ipTo_pm hbut h k (by omega)
    have hle := ipTo_le (sel := sel) (g := g) (l := l) (pl := pl) (ph := ph) (ps := ps) (but := but) acc k
    rw [ipTo_succ]
    unfold ipStep
    by_cases hg : (ps.getD k zeroPt).grade ≤ g
    · rw [if_pos ⟨hbut k hk, hg⟩, walkIdx_yes hg, pmFold_snoc]
      unfold pmStep
      refine ih.set _ ?_
      have h1 := ih.2 (ps.getD k zeroPt).dst.toNat
      have h2 := arrive_mono sel l pl ph (ps.getD k zeroPt) (Int.le_trans (hle.2 (ps.getD k zeroPt).frm.toNat) (h.2 (ps.getD k zeroPt).frm.toNat))
      omega
    · rw [if_neg (fun h => hg h.2), walkIdx_no hg]
      exact ih
theorem ipRows_le (hbut : ∀ i : Nat, i < ps.length → (i : Int) ≠ but) (from_ : Nat) (start : Int) : ∀ k, LeRow (ipRows sel g l pl ph ps but m from_ start k) (rows sel g l pl ph ps m from_ start k)
  | 0 => LeRow.refl _
  | k + 1 => ipTo_pm hbut (ipRows_le hbut from_ start k) ps.length (Nat.le_refl _)
/-- In place is not sooner than the lowest arrivals. -/
theorem ipStep_low (hs : SelGe sel) (ha : PaOk l pl ph) (hm : 1 ≤ m) (hN : NOk m ps) (from_ : Nat) {s : Int} (h0 : 0 ≤ s) (h1 : s ≤ 2881) {acc : List Int} (h : LeRow (rows sel g l pl ph ps m from_ s (m - 1)) acc) {i : Nat} (hi : i < ps.length) :
    LeRow (rows sel g l pl ph ps m from_ s (m - 1)) (ipStep sel g l pl ph ps but acc i) := by
  refine ⟨h.1.trans (ipStep_len acc i).symm, fun k => ?_⟩
  unfold ipStep
  split
  · rename_i hc
    rw [getD_set]
    split
    · rename_i hk
      have hfx := rows_fix (g := g) hs ha hm hN from_ h0 h1 hi hc.2
      have h2 := arrive_mono sel l pl ph (ps.getD i zeroPt) (h.2 (ps.getD i zeroPt).frm.toNat)
      have h3 := h.2 k
      rw [hk.1] at hfx ⊢
      omega
    · exact h.2 k
  · exact h.2 k
theorem ipTo_low (hs : SelGe sel) (ha : PaOk l pl ph) (hm : 1 ≤ m) (hN : NOk m ps) (from_ : Nat) {s : Int} (h0 : 0 ≤ s) (h1 : s ≤ 2881) {acc : List Int} (h : LeRow (rows sel g l pl ph ps m from_ s (m - 1)) acc) :
    ∀ k, k ≤ ps.length → LeRow (rows sel g l pl ph ps m from_ s (m - 1)) (ipTo sel g l pl ph ps but acc k)
  | 0, _ => h
  | k + 1, hk => by
    rw [ipTo_succ]
    exact ipStep_low hs ha hm hN from_ h0 h1 (ipTo_low hs ha hm hN from_ h0 h1 h k (by omega)) hk
theorem ipRows_low (hs : SelGe sel) (ha : PaOk l pl ph) (hm : 1 ≤ m) (hN : NOk m ps) (from_ : Nat) {s : Int} (h0 : 0 ≤ s) (h1 : s ≤ 2881) : ∀ k, LeRow (rows sel g l pl ph ps m from_ s (m - 1)) (ipRows sel g l pl ph ps but m from_ s k)
  | 0 => ⟨(rows_len from_ s (m - 1)).trans (rows_len (sel := sel) (g := g) (l := l) (pl := pl) (ph := ph) (ps := ps) from_ s 0).symm, fun v => rows_anti from_ s v (Nat.zero_le _)⟩
  | k + 1 => ipTo_low hs ha hm hN from_ h0 h1 (ipRows_low hs ha hm hN from_ h0 h1 k) _ (Nat.le_refl _)
/-- The table is the lowest arrivals. -/
theorem ipRows_eq (hs : SelGe sel) (ha : PaOk l pl ph) (hm : 1 ≤ m) (hN : NOk m ps) (hbut : ∀ i : Nat, i < ps.length → (i : Int) ≠ but) (from_ : Nat) {s : Int} (h0 : 0 ≤ s) (h1 : s ≤ 2881) : ipRows sel g l pl ph ps but m from_ s m = rows sel g l pl ph ps m from_ s (m - 1) := by
  refine same_of ((ipRows_len from_ s m).trans (rows_len from_ s (m - 1)).symm) fun j _ => ?_
  have h2 := (ipRows_low (g := g) (but := but) hs ha hm hN from_ h0 h1 m).2 j
  have h3 := (ipRows_le (sel := sel) (g := g) (l := l) (pl := pl) (ph := ph) (m := m) hbut from_ s m).2 j
  have h4 := rows_anti (sel := sel) (g := g) (l := l) (pl := pl) (ph := ph) (ps := ps) (m := m) from_ s j (show m - 1 ≤ m by omega)
  omega
/-- The other way to say never. -/
def phi (x : Int) : Int := if x = 2881 then 1073741824 else x
theorem phi_min {a b : Int} (ha : a ≤ 2881) (hb : b ≤ 2881) : phi (min a b) = min (phi a) (phi b) := by
  unfold phi
  split <;> split <;> split <;> omega
end

theorem map_getD (acc : List Int) (k : Nat) (h : k < acc.length) : (acc.map phi).getD k 0 = phi (acc.getD k 0) := by
  rw [List.getD_eq_getElem?_getD, List.getD_eq_getElem?_getD, List.getElem?_map, List.getElem?_eq_getElem h]
  rfl
theorem set_self (acc : List Int) (k : Nat) : acc.set k (acc.getD k 0) = acc := by
  refine List.ext_getElem? fun i => ?_
  rw [List.getElem?_set]
  split
  · rename_i h
    subst h
    split
    · rename_i hl
      simp [List.getD, List.getElem?_eq_getElem hl]
    · rename_i hl
      rw [List.getElem?_eq_none (by omega)]
  · rfl
theorem map_set (acc : List Int) (k : Nat) (v : Int) : (acc.map phi).set k (phi v) = (acc.set k v).map phi := by rw [List.map_set]
theorem ip_skip {sel : Int → Int → Int} {g l pl ph : Int} {ps : List Pt} {but : Int} {acc : List Int} {i : Nat} (h : (i : Int) = but ∨ ¬ (ps.getD i zeroPt).grade ≤ g) : ipStep sel g l pl ph ps but acc i = acc := by
  unfold ipStep
  rw [if_neg]
  rintro ⟨h1, h2⟩
  rcases h with h | h
  · exact h1 h
  · exact h h2
theorem ip_never {sel : Int → Int → Int} (hs : SelGe sel) {g l pl ph : Int} (ha : PaOk l pl ph) {ps : List Pt} {but : Int} {acc : List Int} {i : Nat} (hok : PtOk (ps.getD i zeroPt)) (hD : acc.getD (ps.getD i zeroPt).dst.toNat 0 ≤ 2881) (h : acc.getD (ps.getD i zeroPt).frm.toNat 0 = 2881) : ipStep sel g l pl ph ps but acc i = acc := by
  unfold ipStep
  split
  · have h1 := arrive_geS hs ha hok (Int.le_refl 2881)
    have h2 : arrive sel l pl ph (ps.getD i zeroPt) 2881 ≤ 2881 := by unfold arrive; omega
    rw [h, show min (acc.getD (ps.getD i zeroPt).dst.toNat 0) (arrive sel l pl ph (ps.getD i zeroPt) 2881) = acc.getD (ps.getD i zeroPt).dst.toNat 0 by omega]
    exact set_self _ _
  · rfl
theorem ip_yes {sel : Int → Int → Int} {g l pl ph : Int} {ps : List Pt} {but : Int} {acc : List Int} {i : Nat} (h1 : (i : Int) ≠ but) (h2 : (ps.getD i zeroPt).grade ≤ g) : ipStep sel g l pl ph ps but acc i = acc.set (ps.getD i zeroPt).dst.toNat (min (acc.getD (ps.getD i zeroPt).dst.toNat 0) (arrive sel l pl ph (ps.getD i zeroPt) (acc.getD (ps.getD i zeroPt).frm.toNat 0))) := by
  unfold ipStep
  rw [if_pos ⟨h1, h2⟩]
theorem fill_set (k m : Nat) (v : Int) (h : k < m) : (fillTo k m v).set k (.int .i64 v) = fillTo (k + 1) m v := by
  unfold fillTo
  obtain ⟨s, hs⟩ : ∃ s, m - k = s + 1 := ⟨m - k - 1, by omega⟩
  rw [hs, show m - (k + 1) = s by omega, List.set_append_right _ _ (by simp), List.length_replicate, Nat.sub_self, List.replicate_succ, List.set_cons_zero, List.replicate_succ', List.append_assoc]
  rfl
theorem fill_get0 (k m : Nat) (v : Int) (h : k < m) : (fillTo k m v)[k]? = some (.int .i64 0) := by
  unfold fillTo
  rw [List.getElem?_append_right (by simp), List.length_replicate, Nat.sub_self, List.getElem?_replicate]
  rw [if_pos (by omega)]
end Go.Proofs.Ytndoghcglbpllaa
