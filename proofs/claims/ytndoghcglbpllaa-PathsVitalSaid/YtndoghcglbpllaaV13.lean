/- The route of the program is one, and arrives when the table says. -/
import Derived.Test.YtndoghcglbpllaaV10
import Derived.Test.YtndoghcglbpllaaV12
set_option linter.unusedSimpArgs false
set_option linter.unusedVariables false
namespace Go.Proofs.Ytndoghcglbpllaa
open Go.RowKit
section
variable {g l pl ph : Int} {ps : List Pt} {m : Nat}
theorem arrive_never {sel : Int → Int → Int} (hs : SelGe sel) (ha : PaOk l pl ph) {p : Pt} (hp : PtOk p) {t : Int} (ht : 2881 ≤ t) : arrive sel l pl ph p t = 2881 := by
  have h1 := arrive_geS hs ha hp (Int.le_refl 2881)
  have h2 := arrive_mono sel l pl ph p ht
  have h3 : arrive sel l pl ph p t ≤ 2881 := by unfold arrive; omega
  omega
theorem rows_first {sel : Int → Int → Int} (hN : NOk m ps) {i : Nat} (hi : i < ps.length) (hg : (ps.getD i zeroPt).grade ≤ g) (hb : ∀ (s : Int) (k v : Nat), 0 ≤ s → s ≤ 2881 → v < m → (rows sel g l pl ph ps m (ps.getD i zeroPt).frm.toNat s k).getD v 0 ≤ 2881) (t : Int) (h0 : 0 ≤ t) (h1 : t ≤ 2881) : ∀ (k v : Nat), v < m →
    (rows sel g l pl ph ps m (ps.getD i zeroPt).frm.toNat t (k + 1)).getD v 0 ≤ (rows sel g l pl ph ps m (ps.getD i zeroPt).dst.toNat (arrive sel l pl ph (ps.getD i zeroPt) t) k).getD v 0
  | 0, v, hv => by
    have hf := hN.frm i hi
    rw [rows_zero (ps.getD i zeroPt).dst.toNat _ v hv]
    split
    · rename_i hd
      have h := rows_hit (sel := sel) (l := l) (pl := pl) (ph := ph) hN (ps.getD i zeroPt).frm.toNat t 0 hi hg
      rw [rows_zero _ _ _ (by omega), if_pos rfl, hd] at h
      exact h
    · exact hb t 1 v h0 h1 hv
  | k + 1, v, hv => by
    have ih := rows_first hN hi hg hb t h0 h1 k
    have hl : LeRow (rows sel g l pl ph ps m (ps.getD i zeroPt).frm.toNat t (k + 1)) (rows sel g l pl ph ps m (ps.getD i zeroPt).dst.toNat (arrive sel l pl ph (ps.getD i zeroPt) t) k) := ⟨by rw [rows_len, rows_len], fun v => by
      by_cases hv : v < m
      · exact ih v hv
      · have e : ∀ xs : List Int, xs.length = m → xs.getD v 0 = 0 := fun xs hx => by simp [List.getD, hx, hv]
        rw [e _ (rows_len _ _ _), e _ (rows_len _ _ _)]
        exact Int.le_refl _⟩
    exact (pmFold_mono sel l pl ph ps hl (walkIdx ps g ps.length)).2 v
theorem rows_by {sel : Int → Int → Int} (hs : SelGe sel) (ha : PaOk l pl ph) (hN : NOk m ps) (p : Nat) (hp : p < m) (t : Int) (h0 : 0 ≤ t) (h1 : t ≤ 2881) : ∀ (k v : Nat), v < m →
    (rows sel g l pl ph ps m p t (k + 1)).getD v 0 < (rows sel g l pl ph ps m p t 0).getD v 0 →
    ∃ i, i < ps.length ∧ (ps.getD i zeroPt).grade ≤ g ∧ (ps.getD i zeroPt).frm = (p : Int) ∧ (rows sel g l pl ph ps m (ps.getD i zeroPt).dst.toNat (arrive sel l pl ph (ps.getD i zeroPt) t) k).getD v 0 ≤ (rows sel g l pl ph ps m p t (k + 1)).getD v 0 := by
  have hb := rows_bd (g := g) hs ha hN (from_ := p) h0 h1
  have key : ∀ (k q : Nat) (v : Nat), v < m → q < ps.length → (ps.getD q zeroPt).grade ≤ g → (ps.getD q zeroPt).dst.toNat = v → (ps.getD q zeroPt).frm = (p : Int) →
      (rows sel g l pl ph ps m (ps.getD q zeroPt).dst.toNat (arrive sel l pl ph (ps.getD q zeroPt) t) k).getD v 0 ≤ arrive sel l pl ph (ps.getD q zeroPt) t := fun k q v hv hq hg hd hf => by
    have h2 := rows_anti (sel := sel) (g := g) (l := l) (pl := pl) (ph := ph) (ps := ps) (m := m) (ps.getD q zeroPt).dst.toNat (arrive sel l pl ph (ps.getD q zeroPt) t) v (Nat.zero_le k)
    rw [rows_zero _ _ v hv, if_pos hd] at h2
    exact h2
  intro k
  induction k with
  | zero =>
    intro v hv hlt
    rcases rows_got (sel := sel) (g := g) (l := l) (pl := pl) (ph := ph) (ps := ps) (m := m) p t 0 v with h | ⟨i, hi, hg, hd, h⟩
    · omega
    · have hf := hN.frm i hi
      by_cases hpf : (ps.getD i zeroPt).frm.toNat = p
      · rw [rows_zero p t _ (by omega), if_pos hpf.symm] at h
        have hfp : (ps.getD i zeroPt).frm = (p : Int) := by omega
        exact ⟨i, hi, hg, hfp, by rw [h]; exact key 0 i v hv hi hg hd hfp⟩
      · rw [rows_zero p t _ (by omega), if_neg (fun e => hpf e.symm), arrive_never hs ha (hN.ok i hi) (Int.le_refl _)] at h
        have := ((hb 0).2 v hv).2
        omega
  | succ k ih =>
    intro v hv hlt
    rcases rows_got (sel := sel) (g := g) (l := l) (pl := pl) (ph := ph) (ps := ps) (m := m) p t (k + 1) v with h | ⟨q, hq, hg, hd, h⟩
    · obtain ⟨i, hi, hg, hf, h2⟩ := ih v hv (by omega)
      exact ⟨i, hi, hg, hf, by rw [h]; exact Int.le_trans (rows_le _ _ k v) h2⟩
    · have hf := hN.frm q hq
      by_cases hu : (rows sel g l pl ph ps m p t (k + 1)).getD (ps.getD q zeroPt).frm.toNat 0 < (rows sel g l pl ph ps m p t 0).getD (ps.getD q zeroPt).frm.toNat 0
      · obtain ⟨i, hi, hgi, hfi, h2⟩ := ih _ (by omega) hu
        refine ⟨i, hi, hgi, hfi, ?_⟩
        have h3 := rows_hit (sel := sel) (l := l) (pl := pl) (ph := ph) hN (ps.getD i zeroPt).dst.toNat (arrive sel l pl ph (ps.getD i zeroPt) t) k hq hg
        rw [hd] at h3
        have := arrive_mono sel l pl ph (ps.getD q zeroPt) h2
        omega
      · have hanti := rows_anti (sel := sel) (g := g) (l := l) (pl := pl) (ph := ph) (ps := ps) (m := m) p t (ps.getD q zeroPt).frm.toNat (Nat.zero_le (k + 1))
        have he : (rows sel g l pl ph ps m p t (k + 1)).getD (ps.getD q zeroPt).frm.toNat 0 = (rows sel g l pl ph ps m p t 0).getD (ps.getD q zeroPt).frm.toNat 0 := by omega
        rw [he, rows_zero p t _ (by omega)] at h
        by_cases hpf : p = (ps.getD q zeroPt).frm.toNat
        · rw [if_pos hpf] at h
          have hfp : (ps.getD q zeroPt).frm = (p : Int) := by omega
          exact ⟨q, hq, hg, hfp, by rw [h]; exact key (k + 1) q v hv hq hg hd hfp⟩
        · rw [if_neg hpf, arrive_never hs ha (hN.ok q hq) (Int.le_refl _)] at h
          have := ((hb 0).2 v hv).2
          omega

theorem leftGo_spec (p : Nat → Bool) : ∀ r k, (∀ j, j < k → p j = true) → (∀ j, j < leftGo p r k → p j = true) ∧ (leftGo p r k < k + r → p (leftGo p r k) = false)
  | 0, k, h => ⟨h, fun hh => by unfold leftGo at hh; omega⟩
  | r + 1, k, h => by
    unfold leftGo
    by_cases hk : p k = true
    · rw [if_pos hk]
      have := leftGo_spec p r (k + 1) (fun j hj => by
        by_cases hjk : j = k
        · subst hjk; exact hk
        · exact h j (by omega))
      exact ⟨this.1, fun hh => this.2 (by omega)⟩
    · rw [if_neg hk]
      exact ⟨h, fun _ => by simpa using hk⟩
theorem leftGo_hit (p : Nat → Bool) (r : Nat) (h : p r = false) : p (leftGo p r 0) = false := by
  have hl := leftGo_le p r 0
  by_cases he : leftGo p r 0 = r
  · rw [he]; exact h
  · exact (leftGo_spec p r 0 (fun j hj => by omega)).2 (by omega)

theorem stopAt_cons (ps : List Pt) (from_ : Int) (i : Int) (r : List Int) (k : Nat) : stopAt ps from_ (i :: r) (k + 1) = stopAt ps (ps.getD i.toNat zeroPt).dst r k := by
  cases k with
  | zero => rfl
  | succ k => simp [stopAt, List.getD]
theorem minAt_cons (sel : Int → Int → Int) (l pl ph : Int) (ps : List Pt) (s : Int) (i : Int) (r : List Int) : ∀ k, minAt sel l pl ph ps s (i :: r) (k + 1) = minAt sel l pl ph ps (arrive sel l pl ph (ps.getD i.toNat zeroPt) s) r k
  | 0 => rfl
  | k + 1 => by
    show arrive sel l pl ph (ps.getD ((i :: r).getD (k + 1) 0).toNat zeroPt) (minAt sel l pl ph ps s (i :: r) (k + 1)) = arrive sel l pl ph (ps.getD (r.getD k 0).toNat zeroPt) (minAt sel l pl ph ps (arrive sel l pl ph (ps.getD i.toNat zeroPt) s) r k)
    rw [minAt_cons sel l pl ph ps s i r k]
    simp [List.getD]

/-- What is so of a route that is found step by step. -/
def WayOk (g l pl ph : Int) (ps : List Pt) (from_ to_ : Int) (s D : Int) (k : Nat) (r : List Int) : Prop :=
  r.length = k ∧ (∀ j, j < k → 0 ≤ r.getD j 0 ∧ r.getD j 0 < ps.length ∧ (ps.getD (r.getD j 0).toNat zeroPt).grade ≤ g ∧ (ps.getD (r.getD j 0).toNat zeroPt).frm = stopAt ps from_ r j) ∧
  stopAt ps from_ r k = to_ ∧ minAt selHi l pl ph ps s r k ≤ D
theorem routeGo_ok (ha : PaOk l pl ph) (hN : NOk m ps) (to_ : Nat) (hto : to_ < m) (D : Int) (hD : D ≤ 2880) : ∀ (k p : Nat) (t : Int), p < m → 0 ≤ t → t ≤ 2881 →
    tooLate g l pl ph ps m to_ D p t k = false → (∀ j, j < k → tooLate g l pl ph ps m to_ D p t j = true) →
    WayOk g l pl ph ps (p : Int) (to_ : Int) t D k ((routeGo g l pl ph ps m to_ D k p t).map Int.ofNat)
  | 0, p, t, hp, h0, h1, hk, _ => by
    unfold tooLate at hk
    have hk := of_decide_eq_false hk
    rw [rows_zero p t to_ hto] at hk
    have hpt : p = to_ := by
      apply Classical.byContradiction
      intro hn
      rw [if_neg hn] at hk
      omega
    rw [if_pos hpt] at hk
    refine ⟨rfl, fun j hj => by omega, by rw [hpt]; rfl, ?_⟩
    show t ≤ D
    omega
  | k + 1, p, t, hp, h0, h1, hk, hj => by
    have hk' := of_decide_eq_false hk
    have h00 := of_decide_eq_true (hj 0 (by omega))
    obtain ⟨i, hi, hg, hf, h2⟩ := rows_by (sel := selHi) (g := g) selHi_pos ha hN p hp t h0 h1 k to_ hto (by omega)
    have hfit : fits_ g l pl ph ps m to_ D p t k i = true := by
      unfold fits_ tooLate
      rw [Bool.and_eq_true, Bool.not_eq_true', decide_eq_false_iff_not]
      exact ⟨by simpa using hf, by omega⟩
    have hmem : i ∈ walkIdx ps g ps.length := mem_walkIdx.2 ⟨hi, hg⟩
    cases hfi : (walkIdx ps g ps.length).find? (fits_ g l pl ph ps m to_ D p t k) with
    | none =>
      have := List.find?_eq_none.1 hfi i hmem
      exact absurd hfit this
    | some q =>
      have hq := List.find?_some hfi
      have hqm := mem_walkIdx.1 (List.mem_of_find?_eq_some hfi)
      unfold fits_ at hq
      rw [Bool.and_eq_true, Bool.not_eq_true'] at hq
      have hqf : (ps.getD q zeroPt).frm = (p : Int) := by simpa using hq.1
      have hd := hN.dst q hqm.1
      have hbd := arrive_bd selHi_pos ha (hN.ok q hqm.1) h0
      have hj2 : ∀ j, j < k → tooLate g l pl ph ps m to_ D (ps.getD q zeroPt).dst.toNat (arrive selHi l pl ph (ps.getD q zeroPt) t) j = true := fun j hjk => by
        have h5 := of_decide_eq_true (hj (j + 1) (by omega))
        have hpq : (ps.getD q zeroPt).frm.toNat = p := by omega
        have h6 := rows_first (sel := selHi) (g := g) (l := l) (pl := pl) (ph := ph) hN hqm.1 hqm.2 (fun s k v hs0 hs1 hv => ((rows_bd selHi_pos (g := g) ha hN (from_ := (ps.getD q zeroPt).frm.toNat) hs0 hs1 k).2 v hv).2) t h0 h1 j to_ hto
        rw [hpq] at h6
        unfold tooLate
        rw [decide_eq_true_eq]
        omega
      obtain ⟨w1, w2, w3, w4⟩ := routeGo_ok ha hN to_ hto D hD k (ps.getD q zeroPt).dst.toNat (arrive selHi l pl ph (ps.getD q zeroPt) t) (by omega) hbd.1 hbd.2 hq.2 hj2
      have hro : routeGo g l pl ph ps m to_ D (k + 1) p t = q :: routeGo g l pl ph ps m to_ D k (ps.getD q zeroPt).dst.toNat (arrive selHi l pl ph (ps.getD q zeroPt) t) := by
        rw [routeGo, hfi]
      rw [hro]
      revert w1 w2 w3 w4
      generalize routeGo g l pl ph ps m to_ D k (ps.getD q zeroPt).dst.toNat (arrive selHi l pl ph (ps.getD q zeroPt) t) = rest
      intro w1 w2 w3 w4
      have hdd : (((ps.getD q zeroPt).dst.toNat : Nat) : Int) = (ps.getD q zeroPt).dst := by omega
      rw [hdd] at w2 w3
      rw [List.map_cons]
      have hqq : (Int.ofNat q).toNat = q := rfl
      refine ⟨by simpa using w1, fun j hj => ?_, ?_, ?_⟩
      · cases j with
        | zero => exact ⟨Int.natCast_nonneg q, Int.ofNat_lt.2 hqm.1, hqm.2, hqf⟩
        | succ j =>
          have := w2 j (by omega)
          rw [stopAt_cons, hqq]
          simpa [List.getD] using this
      · rw [stopAt_cons, hqq]
        exact w3
      · rw [minAt_cons, hqq]
        exact w4
/-- The route of the program. -/
theorem routeOf_ok (ha : PaOk l pl ph) (hm : 1 ≤ m) (hm2 : m ≤ 12) (hN : NOk m ps) (from_ to_ : Nat) (hfr : from_ < m) (hto : to_ < m) {s : Int} (h0 : 0 ≤ s) (h1 : s ≤ 2881) {X : Int} (hX : (rows selHi g l pl ph ps m from_ s (m - 1)).getD to_ 0 = X) (hX1 : X ≠ 2881) :
    RouteOk g ps (from_ : Int) ((routeOf g l pl ph ps m from_ to_ s X).map Int.ofNat) ∧ ((routeOf g l pl ph ps m from_ to_ s X).map Int.ofNat).length ≤ 11 ∧
      stopAt ps (from_ : Int) ((routeOf g l pl ph ps m from_ to_ s X).map Int.ofNat) ((routeOf g l pl ph ps m from_ to_ s X).map Int.ofNat).length = (to_ : Int) ∧
      minAt selHi l pl ph ps s ((routeOf g l pl ph ps m from_ to_ s X).map Int.ofNat) ((routeOf g l pl ph ps m from_ to_ s X).map Int.ofNat).length = X := by
  have hb := (rows_bd selHi_pos (g := g) ha hN (from_ := from_) h0 h1 (m - 1)).2 to_ hto
  have hXb : X ≤ 2880 := by omega
  have hlate : tooLate g l pl ph ps m to_ X from_ s (m - 1) = false := by unfold tooLate; rw [decide_eq_false_iff_not]; omega
  have hsp := leftGo_spec (tooLate g l pl ph ps m to_ X from_ s) (m - 1) 0 (fun j hj => by omega)
  have hl := leftGo_le (tooLate g l pl ph ps m to_ X from_ s) (m - 1) 0
  obtain ⟨w1, w2, w3, w4⟩ := routeGo_ok ha hN to_ hto X hXb _ from_ s hfr h0 h1 (leftGo_hit _ _ hlate) hsp.1
  have hro : routeOf g l pl ph ps m from_ to_ s X = routeGo g l pl ph ps m to_ X (leftGo (tooLate g l pl ph ps m to_ X from_ s) (m - 1) 0) from_ s := rfl
  rw [← hro] at w1 w2 w3 w4
  revert w1 w2 w3 w4
  generalize (routeOf g l pl ph ps m from_ to_ s X).map Int.ofNat = r
  intro w1 w2 w3 w4
  rw [← w1] at w2 w3 w4 hl
  have hR : RouteOk g ps (from_ : Int) r := ⟨by omega, fun k hk => (w2 k hk).1, fun k hk => (w2 k hk).2.1, fun k hk => (w2 k hk).2.2.1, fun k hk => (w2 k hk).2.2.2⟩
  refine ⟨hR, by omega, w3, ?_⟩
  have hlow := rows_low (g := g) selHi_pos ha hm hN from_ hfr h0 h1 hR (minAt selHi l pl ph ps s r) r.length (Nat.le_refl _) (Int.le_refl _) (fun k _ => Int.le_refl _)
  rw [w3, Int.toNat_natCast, hX] at hlow
  omega
end
end Go.Proofs.Ytndoghcglbpllaa
/- A walk along a route, with waits and times; and the first minutes at which paths open. -/
set_option linter.unusedSimpArgs false
set_option linter.unusedVariables false
namespace Go.Proofs.Ytndoghcglbpllaa
open Go.RowKit
theorem enter_min (os : List (Int × Int)) (t c : Int) : ∀ f : Int, enter (min f c) os t = min (enter f os t) c := by
  unfold enter
  induction os with
  | nil => intro f; rfl
  | cons o os ih =>
    intro f
    simp only [List.foldl_cons]
    have h : enterStep t (min f c) o = min (enterStep t f o) c := by unfold enterStep; split <;> omega
    rw [h, ih]
theorem enter_top (os : List (Int × Int)) (t : Int) (hos : ∀ o, o ∈ os → o.1 ≤ o.2 ∧ o.2 ≤ 2880) (N : Int) : ∀ f : Int, (f = N ∨ f ≤ 2880) → (enter f os t = N ∨ enter f os t ≤ 2880) := by
  unfold enter
  induction os with
  | nil => intro f h; exact h
  | cons o os ih =>
    intro f h
    simp only [List.foldl_cons]
    refine ih (fun o' ho' => hos o' (List.mem_cons_of_mem _ ho')) _ ?_
    have := hos o List.mem_cons_self
    unfold enterStep
    split
    · right; omega
    · exact h
/-- The two ways to say never. -/
theorem enter_two (os : List (Int × Int)) (t : Int) (hos : ∀ o, o ∈ os → o.1 ≤ o.2 ∧ o.2 ≤ 2880) :
    (enter 1073741824 os t = 1073741824 ∧ enter 2881 os t = 2881) ∨ (enter 1073741824 os t ≤ 2880 ∧ enter 2881 os t = enter 1073741824 os t) := by
  have h1 := enter_min os t 2881 1073741824
  have h2 := enter_top os t hos 1073741824 1073741824 (.inl rfl)
  rw [show min (1073741824 : Int) 2881 = 2881 by omega] at h1
  omega
theorem vNet_opens {m : Int} {ps : List Pt} (h : vNet m ps = true) (i : Nat) (hi : i < ps.length) : ∀ o, o ∈ (ps.getD i zeroPt).opens → 0 ≤ o.1 ∧ o.1 ≤ o.2 ∧ o.2 ≤ 2880 := by
  unfold vNet at h
  simp only [Bool.and_eq_true, decide_eq_true_eq] at h
  obtain ⟨-, -, -, h4⟩ := h
  rw [List.all_eq_true] at h4
  have hv := h4 _ (List.getElem_mem hi)
  have hg : ps.getD i zeroPt = ps[i] := by simp [List.getD, List.getElem?_eq_getElem hi]
  rw [hg]
  unfold vPath at hv
  simp only [Bool.and_eq_true] at hv
  have ho := hv.2.2.2.2.2.2.2
  rw [List.all_eq_true] at ho
  intro o hm
  have := spanB_ok (ho o hm)
  omega
/-- What Step returns. -/
def stepV (sel : Int → Int → Int) (l pl ph : Int) (p : Pt) (t : Int) : Int := if arrive sel l pl ph p t = 2881 then 1073741824 else arrive sel l pl ph p t

/-- When one begins to wait for a path to open, and how long one takes for it. -/
def wIn (waits : List Int) (k : Nat) (a : Int) : Int := if k < waits.length then a + waits.getD k 0 else a
def wTm (times : List Int) (k : Nat) (hi : Int) : Int := if k < times.length then times.getD k 0 else hi
/-- A walk: when one is after the first paths of a route; none: a path does not open any more. -/
def wk (l pl ph : Int) (ps : List Pt) (s : Int) (r waits times : List Int) : Nat → Option Int
  | 0 => some s
  | k + 1 => match wk l pl ph ps s r waits times k with
    | none => none
    | some a =>
      if 1073741824 ≤ enter 1073741824 (ps.getD (r.getD k 0).toNat zeroPt).opens (wIn waits k a) then none
      else some (enter 1073741824 (ps.getD (r.getD k 0).toNat zeroPt).opens (wIn waits k a) + wTm times k (timeOf (ps.getD (r.getD k 0).toNat zeroPt).th ph (ps.getD (r.getD k 0).toNat zeroPt).sh l))
def wkEnd (o : Option Int) : Int := match o with | none => 1073741824 | some a => a
theorem wk_pre {l pl ph : Int} {ps : List Pt} {s : Int} {r waits times : List Int} {a : Int} : ∀ (K : Nat), wk l pl ph ps s r waits times K = some a → ∀ k, k ≤ K → ∃ b, wk l pl ph ps s r waits times k = some b
  | 0, h, k, hk => by
    obtain rfl : k = 0 := by omega
    exact ⟨a, h⟩
  | K + 1, h, k, hk => by
    by_cases hkk : k = K + 1
    · subst hkk; exact ⟨a, h⟩
    · rw [wk] at h
      cases hK : wk l pl ph ps s r waits times K with
      | none => rw [hK] at h; exact absurd h (by simp)
      | some b => exact wk_pre K hK k (by omega)
theorem wk_step {l pl ph : Int} {ps : List Pt} {s : Int} {r waits times : List Int} {k : Nat} {a b : Int} (ha : wk l pl ph ps s r waits times k = some a) (hb : wk l pl ph ps s r waits times (k + 1) = some b) :
    enter 1073741824 (ps.getD (r.getD k 0).toNat zeroPt).opens (wIn waits k a) < 1073741824 ∧
    b = enter 1073741824 (ps.getD (r.getD k 0).toNat zeroPt).opens (wIn waits k a) + wTm times k (timeOf (ps.getD (r.getD k 0).toNat zeroPt).th ph (ps.getD (r.getD k 0).toNat zeroPt).sh l) := by
  rw [wk, ha] at hb
  dsimp only at hb
  by_cases hc : 1073741824 ≤ enter 1073741824 (ps.getD (r.getD k 0).toNat zeroPt).opens (wIn waits k a)
  · rw [if_pos hc] at hb
    exact absurd hb (by simp)
  · rw [if_neg hc] at hb
    exact ⟨by omega, (Option.some.inj hb).symm⟩

/-- No walk is quicker than the lowest arrivals, with the times of sel. -/
theorem wk_low {sel : Int → Int → Int} {g l pl ph : Int} {ps : List Pt} {m : Nat} (hs : SelGe sel) (ha : PaOk l pl ph) (hm : 1 ≤ m) (hN : NOk m ps) (hO : ∀ i, i < ps.length → ∀ o, o ∈ (ps.getD i zeroPt).opens → 0 ≤ o.1 ∧ o.1 ≤ o.2 ∧ o.2 ≤ 2880)
    (from_ : Nat) (hfr : from_ < m) {s : Int} (h0 : 0 ≤ s) (h1 : s ≤ 2881) {r waits times : List Int} (hr : RouteOk g ps from_ r) (hw : ∀ k, k < waits.length → 0 ≤ waits.getD k 0)
    (ht : ∀ k, k < r.length → sel (timeOf (ps.getD (r.getD k 0).toNat zeroPt).tl pl (ps.getD (r.getD k 0).toNat zeroPt).sl l) (timeOf (ps.getD (r.getD k 0).toNat zeroPt).th ph (ps.getD (r.getD k 0).toNat zeroPt).sh l) ≤
      wTm times k (timeOf (ps.getD (r.getD k 0).toNat zeroPt).th ph (ps.getD (r.getD k 0).toNat zeroPt).sh l))
    {a : Int} (hk : wk l pl ph ps s r waits times r.length = some a) :
    (rows sel g l pl ph ps m from_ s (m - 1)).getD (stopAt ps from_ r r.length).toNat 0 ≤ a := by
  have hpre := wk_pre _ hk
  have h := rows_low (g := g) hs ha hm hN from_ hfr h0 h1 hr (fun k => wkEnd (wk l pl ph ps s r waits times k)) r.length (Nat.le_refl _) (by show s ≤ s; exact Int.le_refl _) (fun k hkl => by
    obtain ⟨b, hb⟩ := hpre k (by omega)
    obtain ⟨c, hc⟩ := hpre (k + 1) (by omega)
    have hst := wk_step hb hc
    have hlo := hr.lo k hkl
    have hhi := hr.hi k hkl
    have h2 := enter_two (ps.getD (r.getD k 0).toNat zeroPt).opens b (fun o ho => (hO _ (by omega) o ho).2)
    have hmo : enter 1073741824 (ps.getD (r.getD k 0).toNat zeroPt).opens b ≤ enter 1073741824 (ps.getD (r.getD k 0).toNat zeroPt).opens (wIn waits k b) := enter_mono (Int.le_refl _) (by
      unfold wIn
      split
      · rename_i hkw
        have := hw k hkw
        omega
      · exact Int.le_refl _)
    have htk := ht k hkl
    show arrive sel l pl ph _ (wkEnd (wk l pl ph ps s r waits times k)) ≤ wkEnd (wk l pl ph ps s r waits times (k + 1))
    rw [hb, hc]
    show arrive sel l pl ph _ b ≤ c
    rw [hst.2]
    unfold arrive
    omega)
  rw [hk] at h
  exact h

theorem arriveHi (l pl ph : Int) (p : Pt) (t : Int) : arrive selHi l pl ph p t = min (enter 2881 p.opens t + timeOf p.th ph p.sh l) 2881 := rfl
/-- Who takes no longer than the upper ends is not later than the sure times. -/
theorem wk_high {g l pl ph : Int} {ps : List Pt} {m : Nat} (ha : PaOk l pl ph) (hN : NOk m ps) (hO : ∀ i, i < ps.length → ∀ o, o ∈ (ps.getD i zeroPt).opens → 0 ≤ o.1 ∧ o.1 ≤ o.2 ∧ o.2 ≤ 2880)
    {from_ : Int} {s : Int} (h0 : 0 ≤ s) (h1 : s ≤ 2881) {r times : List Int} (hr : RouteOk g ps from_ r)
    (ht : ∀ k, k < r.length → wTm times k (timeOf (ps.getD (r.getD k 0).toNat zeroPt).th ph (ps.getD (r.getD k 0).toNat zeroPt).sh l) ≤ timeOf (ps.getD (r.getD k 0).toNat zeroPt).th ph (ps.getD (r.getD k 0).toNat zeroPt).sh l) :
    ∀ K, K ≤ r.length → minAt selHi l pl ph ps s r K ≤ 2880 → ∃ a, wk l pl ph ps s r [] times K = some a ∧ a ≤ minAt selHi l pl ph ps s r K
  | 0, _, _ => ⟨s, rfl, Int.le_refl _⟩
  | K + 1, hK, hM => by
    have hlo := hr.lo K (by omega)
    have hhi := hr.hi K (by omega)
    have hbd := minAt_ge selHi_pos ha hN h0 h1 (r := r) (fun j hj => ⟨hr.lo j hj, hr.hi j hj⟩) K (by omega)
    have hge := arrive_geS selHi_pos ha (hN.ok (r.getD K 0).toNat (by omega)) hbd.2
    have hMe : minAt selHi l pl ph ps s r (K + 1) = arrive selHi l pl ph (ps.getD (r.getD K 0).toNat zeroPt) (minAt selHi l pl ph ps s r K) := rfl
    rw [hMe] at hM ⊢
    obtain ⟨a, hka, hle⟩ := wk_high ha hN hO h0 h1 hr ht K (by omega) (by omega)
    have h2 := enter_two (ps.getD (r.getD K 0).toNat zeroPt).opens (minAt selHi l pl ph ps s r K) (fun o ho => (hO _ (by omega) o ho).2)
    have hmo : enter 1073741824 (ps.getD (r.getD K 0).toNat zeroPt).opens a ≤ enter 1073741824 (ps.getD (r.getD K 0).toNat zeroPt).opens (minAt selHi l pl ph ps s r K) := enter_mono (Int.le_refl _) hle
    have htk := ht K (by omega)
    have hpt := hN.ok (r.getD K 0).toNat (by omega)
    have ⟨b5, b6⟩ := timeOf_bd (t := (ps.getD (r.getD K 0).toNat zeroPt).th) (p := ph) (s := (ps.getD (r.getD K 0).toNat zeroPt).sh) (l := l) (by have := hpt.t1; have := hpt.t2; omega) hpt.t3 (by have := ha.p1; have := ha.p2; omega) ha.p3 (by have := hpt.s1; have := hpt.s2; omega) hpt.s3 ha.l1 ha.l2
    rw [arriveHi] at hM
    refine ⟨enter 1073741824 (ps.getD (r.getD K 0).toNat zeroPt).opens a + wTm times K (timeOf (ps.getD (r.getD K 0).toNat zeroPt).th ph (ps.getD (r.getD K 0).toNat zeroPt).sh l), ?_, ?_⟩
    · rw [wk, hka]
      dsimp only
      have hw : wIn [] K a = a := by unfold wIn; rw [if_neg (by simp)]
      rw [hw, if_neg (by omega)]
    · rw [arriveHi]
      omega
/-- With the upper ends one is there at the sure times. -/
theorem wk_same {g l pl ph : Int} {ps : List Pt} {m : Nat} (ha : PaOk l pl ph) (hN : NOk m ps) (hO : ∀ i, i < ps.length → ∀ o, o ∈ (ps.getD i zeroPt).opens → 0 ≤ o.1 ∧ o.1 ≤ o.2 ∧ o.2 ≤ 2880)
    {from_ : Int} {s : Int} (h0 : 0 ≤ s) (h1 : s ≤ 2881) {r : List Int} (hr : RouteOk g ps from_ r) :
    ∀ K, K ≤ r.length → minAt selHi l pl ph ps s r K ≤ 2880 → wk l pl ph ps s r [] [] K = some (minAt selHi l pl ph ps s r K)
  | 0, _, _ => rfl
  | K + 1, hK, hM => by
    have hlo := hr.lo K (by omega)
    have hhi := hr.hi K (by omega)
    have hbd := minAt_ge selHi_pos ha hN h0 h1 (r := r) (fun j hj => ⟨hr.lo j hj, hr.hi j hj⟩) K (by omega)
    have hge := arrive_geS selHi_pos ha (hN.ok (r.getD K 0).toNat (by omega)) hbd.2
    have hMe : minAt selHi l pl ph ps s r (K + 1) = arrive selHi l pl ph (ps.getD (r.getD K 0).toNat zeroPt) (minAt selHi l pl ph ps s r K) := rfl
    rw [hMe] at hM ⊢
    have ih := wk_same ha hN hO h0 h1 hr K (by omega) (by omega)
    have h2 := enter_two (ps.getD (r.getD K 0).toNat zeroPt).opens (minAt selHi l pl ph ps s r K) (fun o ho => (hO _ (by omega) o ho).2)
    rw [arriveHi] at hM ⊢
    rw [wk, ih]
    dsimp only
    have hpt := hN.ok (r.getD K 0).toNat (by omega)
    have ⟨b5, b6⟩ := timeOf_bd (t := (ps.getD (r.getD K 0).toNat zeroPt).th) (p := ph) (s := (ps.getD (r.getD K 0).toNat zeroPt).sh) (l := l) (by have := hpt.t1; have := hpt.t2; omega) hpt.t3 (by have := ha.p1; have := ha.p2; omega) ha.p3 (by have := hpt.s1; have := hpt.s2; omega) hpt.s3 ha.l1 ha.l2
    have hw : ∀ a, wIn [] K a = a := fun a => by unfold wIn; rw [if_neg (by simp)]
    have ht : ∀ a, wTm [] K a = a := fun a => by unfold wTm; rw [if_neg (by simp)]
    rw [hw, ht, if_neg (by omega)]
    congr 1
    omega
end Go.Proofs.Ytndoghcglbpllaa
