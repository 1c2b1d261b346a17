/- Nobody arrives sooner: the facts. -/
import Derived.Test.YtbfmcclbbeobkaaWalked
import Derived.Test.YtbfmcclbbeobkaaOwn
import Derived.Test.YtbfmcclbbeobkaaStart
set_option linter.unusedSimpArgs false
set_option linter.unusedVariables false
namespace Go.Proofs.Ytbfmcclbbeobkaa
open Go.RowKit
def lowsOf (l pl : Int) (ps : List Pt) (r : List Int) : List Int := r.map fun i => timeOf (ps.getD i.toNat zeroPt).tl pl (ps.getD i.toNat zeroPt).sl l
theorem lowsOf_len (l pl : Int) (ps : List Pt) (r : List Int) : (lowsOf l pl ps r).length = r.length := by simp [lowsOf]
theorem lowsOf_at (l pl : Int) (ps : List Pt) (r : List Int) (k : Nat) (h : k < r.length) : (lowsOf l pl ps r).getD k 0 = timeOf (ps.getD (r.getD k 0).toNat zeroPt).tl pl (ps.getD (r.getD k 0).toNat zeroPt).sl l := by
  unfold lowsOf
  rw [List.getD_eq_getElem?_getD, List.getElem?_map, List.getElem?_eq_getElem h]
  simp [List.getD, List.getElem?_eq_getElem h]
theorem take_snoc (xs : List Int) (k : Nat) (h : k < xs.length) : xs.take (k + 1) = xs.take k ++ [xs.getD k 0] := by
  rw [List.take_succ_eq_append_getElem h]
  simp [List.getD, List.getElem?_eq_getElem h]
theorem wkEnd_le {l pl ph : Int} {ps : List Pt} {s : Int} {r waits times : List Int} {k : Nat} (h : wkEnd (wk l pl ph ps s r waits times k) ≤ 2880) : wk l pl ph ps s r waits times k = some (wkEnd (wk l pl ph ps s r waits times k)) := by
  cases hk : wk l pl ph ps s r waits times k with
  | none => rw [hk] at h; unfold wkEnd at h; exact absurd h (by decide)
  | some a => rfl
/-- The lowest arrival with the best times. -/
def bestAt (g l pl ph : Int) (ps : List Pt) (m from_ to_ s : Int) : Int := (rows selLo g l pl ph ps m.toNat from_.toNat s (m.toNat - 1)).getD to_.toNat 0
theorem low_facts {m g l pl ph from_ to_ start D : Int} {ps : List Pt} (hF : Fit m g l pl ph from_ to_ start D ps) {r waits : List Int} (hr : RouteOk g ps from_ r) (hw : ∀ k, k < waits.length → 0 ≤ waits.getD k 0) :
    (0 ≤ stopAt ps from_ r r.length ∧ stopAt ps from_ r r.length < m) ∧ (0 ≤ sureAt g l pl ph ps m from_ (stopAt ps from_ r r.length) start ∧ sureAt g l pl ph ps m from_ (stopAt ps from_ r r.length) start ≤ 2881) ∧
    (0 ≤ bestAt g l pl ph ps m from_ (stopAt ps from_ r r.length) start ∧ bestAt g l pl ph ps m from_ (stopAt ps from_ r r.length) start ≤ 2881) ∧
    (wkEnd (wk l pl ph ps start r waits [] r.length) ≤ 2880 → sureAt g l pl ph ps m from_ (stopAt ps from_ r r.length) start ≤ wkEnd (wk l pl ph ps start r waits [] r.length)) ∧
    (wkEnd (wk l pl ph ps start r waits (lowsOf l pl ps r) r.length) ≤ 2880 → bestAt g l pl ph ps m from_ (stopAt ps from_ r r.length) start ≤ wkEnd (wk l pl ph ps start r waits (lowsOf l pl ps r) r.length)) := by
  obtain ⟨k1, k2, k3, k4, k5, k6⟩ := hF
  obtain ⟨hm1, hm2, hN⟩ := vNet_ok k1
  have ha := vParty_ok k2
  have hO := vNet_opens k1
  rw [placeB_iff] at k3 k4
  rw [minuteB_iff] at k5 k6
  have hst := hr.stop (m := m.toNat) hN k3.1 (by omega) r.length (Nat.le_refl _)
  have hfr : ((from_.toNat : Nat) : Int) = from_ := by omega
  have hr2 : RouteOk g ps ((from_.toNat : Nat) : Int) r := by rw [hfr]; exact hr
  have hb1 := (rows_bd selHi_pos (g := g) ha hN (from_ := from_.toNat) k5.1 (by omega : start ≤ 2881) (m.toNat - 1)).2 (stopAt ps from_ r r.length).toNat (by omega)
  have hb2 := (rows_bd selLo_pos (g := g) ha hN (from_ := from_.toNat) k5.1 (by omega : start ≤ 2881) (m.toNat - 1)).2 (stopAt ps from_ r r.length).toNat (by omega)
  refine ⟨⟨hst.1, by omega⟩, hb1, hb2, fun hs => ?_, fun hs => ?_⟩
  · have h := wk_low (g := g) (sel := selHi) selHi_pos ha (by omega : 1 ≤ m.toNat) hN hO from_.toNat (by omega) k5.1 (by omega : start ≤ 2881) hr2 hw (times := []) (fun k hk => by unfold wTm; rw [if_neg (by simp)]; exact Int.le_refl _) (wkEnd_le hs)
    rw [hfr] at h
    exact h
  · have h := wk_low (g := g) (sel := selLo) selLo_pos ha (by omega : 1 ≤ m.toNat) hN hO from_.toNat (by omega) k5.1 (by omega : start ≤ 2881) hr2 hw (times := lowsOf l pl ps r) (fun k hk => by
      unfold wTm
      rw [if_pos (by rw [lowsOf_len]; exact hk), lowsOf_at _ _ _ _ _ hk]
      exact Int.le_refl _) (wkEnd_le hs)
    rw [hfr] at h
    exact h
theorem arr_facts2 {g l pl ph from_ s : Int} {ps : List Pt} {mm tt : Nat} (h1 : vNet (mm : Int) ps = true) (h2 : vParty g l pl ph = true) (ht : tt < mm) (h0 : 0 ≤ s) (h9 : s ≤ 2880) :
    (arrList selLo g l pl ph ps (mm : Int) from_ s).length = mm ∧ (arrList selLo g l pl ph ps (mm : Int) from_ s).getD tt 0 = orN (bestAt g l pl ph ps (mm : Int) from_ (tt : Int) s) := by
  obtain ⟨hm1, hm2, hN⟩ := vNet_ok h1
  have ha := vParty_ok h2
  have hb := (rows_bd selLo_pos (g := g) ha hN (from_ := from_.toNat) h0 (by omega : s ≤ 2881) ((mm : Int).toNat - 1)).1
  rw [Int.toNat_natCast] at hb
  unfold arrList bestAt
  rw [Int.toNat_natCast, Int.toNat_natCast]
  refine ⟨by rw [List.length_map]; exact hb, ?_⟩
  rw [List.getD_eq_getElem?_getD, List.getD_eq_getElem?_getD, List.getElem?_map, List.getElem?_eq_getElem (by omega)]
  rfl
end Go.Proofs.Ytbfmcclbbeobkaa
