/- Who walks the best route: the facts. -/
import Derived.Test.YtbfmcclbbeobkaaBest
import Derived.Test.YtbfmcclbbeobkaaRStep3
set_option linter.unusedSimpArgs false
set_option linter.unusedVariables false
namespace Go.Proofs.Ytbfmcclbbeobkaa
open Go.RowKit
theorem share_bd {d s : Int} (h0 : 0 ≤ d) (h1 : d ≤ 10000) (s0 : 0 ≤ s) (s1 : s ≤ 100) : 0 ≤ d * s ∧ d * s ≤ 1000000 ∧ 0 ≤ d * s / 100 ∧ d * s / 100 ≤ d := by
  have h2 := Int.mul_nonneg h0 s0
  have h3 := Int.mul_le_mul h1 s1 s0 (by omega)
  have h4 : d * s ≤ d * 100 := Int.mul_le_mul_of_nonneg_left s1 h0
  omega
/-- The upper ends of the times of a route. -/
def highsOf (l ph : Int) (ps : List Pt) (r : List Int) (k : Nat) : Int := timeOf (ps.getD (r.getD k 0).toNat zeroPt).th ph (ps.getD (r.getD k 0).toNat zeroPt).sh l
def lowsAt (l pl : Int) (ps : List Pt) (r : List Int) (k : Nat) : Int := timeOf (ps.getD (r.getD k 0).toNat zeroPt).tl pl (ps.getD (r.getD k 0).toNat zeroPt).sl l
theorem timeOf_mono {t t' p p' s s' l : Int} (h1 : 1 ≤ t) (h2 : t ≤ t') (h3 : 50 ≤ p) (h4 : p ≤ p') (h5 : 0 ≤ s) (h6 : s ≤ s') (h7 : 0 ≤ l) : timeOf t p s l ≤ timeOf t' p' s' l := by
  have a1 : t * p ≤ t' * p' := Int.mul_le_mul h2 h4 (by omega) (by omega)
  have a0 : 0 ≤ t * p := Int.mul_nonneg (by omega) (by omega)
  have a2 : t * p * (100 + 5 * s + l) ≤ t' * p' * (100 + 5 * s' + l) := Int.mul_le_mul a1 (by omega) (by omega) (by omega)
  unfold timeOf
  omega
theorem walk_facts {m g l pl ph from_ to_ start D : Int} {ps : List Pt} (hF : Fit m g l pl ph from_ to_ start D ps) {X : Int} (hX : sureAt g l pl ph ps m from_ to_ start = X) (hX1 : X ≠ 2881) {r : List Int} (hro : (routeOf g l pl ph ps m.toNat from_.toNat to_.toNat start X).map Int.ofNat = r) :
    RouteOk g ps from_ r ∧ r.length ≤ 11 ∧ stopAt ps from_ r r.length = to_ ∧ (0 ≤ X ∧ X ≤ 2880) ∧ wkEnd (wk l pl ph ps start r [] [] r.length) = X ∧
    (∀ k, k < r.length → 1 ≤ lowsAt l pl ps r k ∧ lowsAt l pl ps r k ≤ highsOf l ph ps r k ∧ highsOf l ph ps r k ≤ 10000) ∧
    ∀ ts : List Int, ts.length = r.length → (∀ k, k < r.length → lowsAt l pl ps r k ≤ ts.getD k 0 ∧ ts.getD k 0 ≤ highsOf l ph ps r k) →
      wkEnd (wk l pl ph ps start r [] ts r.length) ≤ X ∧ bestAt g l pl ph ps m from_ to_ start ≤ wkEnd (wk l pl ph ps start r [] ts r.length) ∧ 0 ≤ bestAt g l pl ph ps m from_ to_ start := by
  obtain ⟨k1, k2, k3, k4, k5, k6⟩ := hF
  obtain ⟨hm1, hm2, hN⟩ := vNet_ok k1
  have ha := vParty_ok k2
  have hO := vNet_opens k1
  rw [placeB_iff] at k3 k4
  rw [minuteB_iff] at k5 k6
  obtain ⟨h1, h2, h3, h4⟩ := routeOf_ok (g := g) ha (by omega : 1 ≤ m.toNat) (by omega) hN from_.toNat to_.toNat (by omega) (by omega) k5.1 (by omega : start ≤ 2881) hX hX1
  have hb1 := (rows_bd selHi_pos (g := g) ha hN (from_ := from_.toNat) k5.1 (by omega : start ≤ 2881) (m.toNat - 1)).2 to_.toNat (by omega)
  have hb2 := (rows_bd selLo_pos (g := g) ha hN (from_ := from_.toNat) k5.1 (by omega : start ≤ 2881) (m.toNat - 1)).2 to_.toNat (by omega)
  unfold sureAt at hX
  rw [hro] at h1 h2 h3 h4
  have hfr : ((from_.toNat : Nat) : Int) = from_ := by omega
  have hto : ((to_.toNat : Nat) : Int) = to_ := by omega
  have h1' := h1
  rw [hfr] at h1' h3
  rw [hto] at h3
  have hXb : 0 ≤ X ∧ X ≤ 2880 := by omega
  have hsame := wk_same ha hN hO k5.1 (by omega : start ≤ 2881) h1' r.length (Nat.le_refl _) (by omega)
  refine ⟨h1', h2, h3, hXb, by rw [hsame, h4]; rfl, fun k hk => ?_, fun ts hl hts => ?_⟩
  · have hlo := h1'.lo k hk
    have hhi := h1'.hi k hk
    have hok := hN.ok (r.getD k 0).toNat (by omega)
    obtain ⟨t1, t2, t3, s1, s2, s3, hos⟩ := hok
    obtain ⟨p1, p2, p3, l1, l2⟩ := ha
    have ⟨b3, b4⟩ := timeOf_bd t1 (by omega) p1 (by omega) s1 (by omega) l1 l2
    have ⟨b5, b6⟩ := timeOf_bd (t := (ps.getD (r.getD k 0).toNat zeroPt).th) (p := ph) (s := (ps.getD (r.getD k 0).toNat zeroPt).sh) (by omega) t3 (by omega) p3 (by omega) s3 l1 l2
    exact ⟨b3, timeOf_mono t1 t2 p1 p2 s1 s2 l1, b6⟩
  · obtain ⟨a, hwa, hal⟩ := wk_high ha hN hO k5.1 (by omega : start ≤ 2881) h1' (times := ts) (fun k hk => by
      unfold wTm
      rw [if_pos (by omega)]
      exact (hts k hk).2) r.length (Nat.le_refl _) (by omega)
    have hlow := wk_low (g := g) (sel := selLo) selLo_pos ha (by omega : 1 ≤ m.toNat) hN hO from_.toNat (by omega) k5.1 (by omega : start ≤ 2881) h1 (waits := []) (fun k hk => absurd hk (by simp)) (times := ts) (fun k hk => by
      unfold wTm
      rw [if_pos (by omega)]
      exact (hts k hk).1) hwa
    rw [hfr, h3] at hlow
    rw [hwa]
    exact ⟨by show a ≤ X; omega, hlow, hb2.1⟩
end Go.Proofs.Ytbfmcclbbeobkaa
