/- Step. -/
import Derived.Test.YtndoghcglbpllaaV14
set_option linter.unusedSimpArgs false
set_option linter.unusedVariables false
namespace Go.Proofs.Ytndoghcglbpllaa
open Go.RowKit
def selB (hi : Bool) : Int → Int → Int := if hi = true then selHi else selLo
theorem selB_pos (hi : Bool) {a b : Int} (h1 : 1 ≤ a) (h2 : 1 ≤ b) : 1 ≤ selB hi a b := by
  cases hi
  · exact h1
  · exact h2
theorem stepV_never {sel : Int → Int → Int} {l pl ph : Int} {p : Pt} {t : Int} (hs : 1 ≤ sel (timeOf p.tl pl p.sl l) (timeOf p.th ph p.sh l)) (h : enter 2881 p.opens t = 2881) : stepV sel l pl ph p t = 1073741824 := by
  have ha : arrive sel l pl ph p t = 2881 := by unfold arrive; rw [h]; omega
  unfold stepV
  rw [if_pos ha]
theorem stepV_late {sel : Int → Int → Int} {l pl ph : Int} {p : Pt} {t : Int} (h : 2880 < enter 2881 p.opens t + sel (timeOf p.tl pl p.sl l) (timeOf p.th ph p.sh l)) : stepV sel l pl ph p t = 1073741824 := by
  have ha : arrive sel l pl ph p t = 2881 := by unfold arrive; omega
  unfold stepV
  rw [if_pos ha]
theorem stepV_in {sel : Int → Int → Int} {l pl ph : Int} {p : Pt} {t : Int} (h : enter 2881 p.opens t + sel (timeOf p.tl pl p.sl l) (timeOf p.th ph p.sh l) ≤ 2880) : stepV sel l pl ph p t = enter 2881 p.opens t + sel (timeOf p.tl pl p.sl l) (timeOf p.th ph p.sh l) := by
  have ha : arrive sel l pl ph p t = enter 2881 p.opens t + sel (timeOf p.tl pl p.sl l) (timeOf p.th ph p.sh l) := by unfold arrive; omega
  unfold stepV
  rw [ha, if_neg (by omega)]
set_option maxRecDepth 100000 in
set_option maxHeartbeats 4000000 in
theorem rStep_any (hi : Bool) (m g l pl ph : Int) (ha : PaOk l pl ph) (A : Option Addr) (n c : Nat) (ps : List Pt) (hn : ps.length = n) (k : Nat) (hk : k < n) (hok : PtOk (ps.getD k zeroPt)) (hO : ∀ o, o ∈ (ps.getD k zeroPt).opens → 0 ≤ o.1 ∧ o.1 ≤ o.2 ∧ o.2 ≤ 2880) (t : Int) (h0 : 0 ≤ t) (w : World) (hp : PathsAt w A ps) :
    Calls Try.prog 39 #[.agg #[.int .i64 m, .slice A n c], .agg #[.int .i64 g, .int .i64 l, .int .i64 pl, .int .i64 ph], .int .i64 (k : Int), .int .i64 t, .bool hi] w fun e w' =>
      e = .returned (.int .i64 (stepV (selB hi) l pl ph (ps.getD k zeroPt) t)) ∧ Ext w w' := by
  have HSP := hid (fun (W : World) (hW : Ext w W) => rSpan_any m g l pl ph ha A n c ps hn k hk hok W (hp.ext hW))
  obtain ⟨b, off, A', c', rfl, hb, hpt⟩ := hp.at_ hn hk
  have hk0 : (0 : Int) ≤ (k : Int) := by omega
  have hk1 : (k : Int) < (n : Int) := by omega
  clear hp hn
  obtain ⟨p, hpq⟩ : ∃ p, ps.getD k zeroPt = p := ⟨_, rfl⟩
  rw [hpq] at hpt hok hO HSP ⊢
  clear hpq
  have h2 := enter_two p.opens t (fun o ho => (hO o ho).2)
  have hen := (enter_bd (never := 1073741824) p.opens h0 (by omega)).1
  have hT1 := timeOf_bd (t := p.tl) (p := pl) (s := p.sl) (l := l) hok.t1 (by have := hok.t2; have := hok.t3; omega) ha.p1 (by have := ha.p2; have := ha.p3; omega) hok.s1 (by have := hok.s2; have := hok.s3; omega) ha.l1 ha.l2
  have hT2 := timeOf_bd (t := p.th) (p := ph) (s := p.sh) (l := l) (by have := hok.t1; have := hok.t2; omega) hok.t3 (by have := ha.p1; have := ha.p2; omega) ha.p3 (by have := hok.s1; have := hok.s2; omega) hok.s3 ha.l1 ha.l2
  have hos6 := hok.os
  have HOP := hid hpt.opens
  have HV1 := hid (fun (hs : 1 ≤ selB hi (timeOf p.tl pl p.sl l) (timeOf p.th ph p.sh l)) => stepV_never (sel := selB hi) (l := l) (pl := pl) (ph := ph) (p := p) (t := t) hs)
  have HV2 := hid (stepV_late (sel := selB hi) (l := l) (pl := pl) (ph := ph) (p := p) (t := t))
  have HV3 := hid (stepV_in (sel := selB hi) (l := l) (pl := pl) (ph := ph) (p := p) (t := t))
  revert HV1 HV2 HV3
  generalize stepV (selB hi) l pl ph p t = V
  intro HV1 HV2 HV3
  obtain ⟨d0, d1, d2, d3, d4, d5, d6, d7, hcap, hop⟩ := hpt.ext hb (show Ext w ((w.alloc (.cells #[.int .i64 m, .slice (some ⟨b, off, none⟩) n c] 24)).alloc (.cells #[.int .i64 g, .int .i64 l, .int .i64 pl, .int .i64 ph] 28)) by (repeat' (first | with_reducible assumption | with_reducible exact Ext.refl _ | with_reducible refine Ext.alloc ?_ _ | with_reducible refine Ext.set ?_ ?_ _ | with_reducible refine Ext.drew ?_ | with_reducible refine Ext.drewN ?_ _ | with_reducible refine Ext.trans ?_ (by assumption) | (dsimp only; omega))))
  have HR := hid (fun (v0 v1 v2 v3 v4 v5 v6 : Value) (W : World) (ho : OpensAt W A' p.opens) => rEnter_any v0 v1 v2 v3 v4 v5 v6 A' p.opens.length c' p.opens rfl (by omega) t W ho)
  revert h2 hen HR HV1 HV2 HV3
  generalize enter 1073741824 p.opens t = E
  generalize enter 2881 p.opens t = E2
  revert hT1 hT2 HSP
  generalize timeOf p.tl pl p.sl l = T1
  generalize timeOf p.th ph p.sh l = T2
  intro HSP hT1 hT2 h2 hen HV1 HV2 HV3 HR
  obtain ⟨f, d, gg, tl, th, sl, sh, os⟩ := p
  dsimp only at d0 d1 d2 d3 d4 d5 d6 d7 HOP hos6 HR
  clear hop hcap hok hO ha hpt
  go_enter Try.func39, Try.ntmps39
  go_wp2_with fail
  refine (HR.out _ _ _ _ _ _ _ _ (HOP.out.ext (by (repeat' (first | with_reducible assumption | with_reducible exact Ext.refl _ | with_reducible refine Ext.alloc ?_ _ | with_reducible refine Ext.set ?_ ?_ _ | with_reducible refine Ext.drew ?_ | with_reducible refine Ext.drewN ?_ _ | with_reducible refine Ext.trans ?_ (by assumption) | (dsimp only; omega)))))).mono ?_
  rintro e w2 ⟨rfl, hE⟩
  (first | (have hK := KC.step (n := w.heap.size + 2) (by with_reducible assumption) hE) | (have hK := KC.step (KC.step (n := w.heap.size + 2) (by with_reducible assumption) (ext_alloc1 _ _)) hE) | (have hK := KC.step (KC.refl (n := w.heap.size + 2) (by simp)) hE)); have hC := hK.cell; have hF := hK.fro; have hX := hK.ext
  have hE2 : Ext w w2 := by (repeat' (first | with_reducible assumption | with_reducible exact Ext.refl _ | with_reducible refine Ext.alloc ?_ _ | with_reducible refine Ext.set ?_ ?_ _ | with_reducible refine Ext.drew ?_ | with_reducible refine Ext.drewN ?_ _ | with_reducible refine Ext.trans ?_ (by assumption) | (dsimp only; omega)))
  clear d0 d1 d2 d3 d4 d5 d6 d7 hE hK hF hX HR HOP
  rcases h2 with ⟨rfl, rfl⟩ | ⟨hle, rfl⟩
  · have HV := hid (HV1.out (selB_pos hi hT1.1 hT2.1) rfl)
    go_wp2
    go_ret
    exact ⟨ret_int HV.out.symm, hE2⟩
  · go_wp2_with fail
    refine (HSP.out _ hE2).mono ?_
    rintro e w3 ⟨rfl, hE⟩
    have hE3 : Ext w w3 := hE2.trans hE
    clear hE hC HSP HV1
    cases hi
    · by_cases hl : 2880 < E2 + T1
      · have HV := hid (HV2.out hl)
        go_wp2
        go_ret
        exact ⟨ret_int HV.out.symm, by (repeat' (first | with_reducible assumption | with_reducible exact Ext.refl _ | with_reducible refine Ext.alloc ?_ _ | with_reducible refine Ext.set ?_ ?_ _ | with_reducible refine Ext.drew ?_ | with_reducible refine Ext.drewN ?_ _ | with_reducible refine Ext.trans ?_ (by assumption) | (dsimp only; omega)))⟩
      · have HV := hid (HV3.out (Int.not_lt.1 hl))
        go_wp2
        go_ret
        exact ⟨ret_int HV.out.symm, by (repeat' (first | with_reducible assumption | with_reducible exact Ext.refl _ | with_reducible refine Ext.alloc ?_ _ | with_reducible refine Ext.set ?_ ?_ _ | with_reducible refine Ext.drew ?_ | with_reducible refine Ext.drewN ?_ _ | with_reducible refine Ext.trans ?_ (by assumption) | (dsimp only; omega)))⟩
    · by_cases hl : 2880 < E2 + T2
      · have HV := hid (HV2.out hl)
        go_wp2
        go_ret
        exact ⟨ret_int HV.out.symm, by (repeat' (first | with_reducible assumption | with_reducible exact Ext.refl _ | with_reducible refine Ext.alloc ?_ _ | with_reducible refine Ext.set ?_ ?_ _ | with_reducible refine Ext.drew ?_ | with_reducible refine Ext.drewN ?_ _ | with_reducible refine Ext.trans ?_ (by assumption) | (dsimp only; omega)))⟩
      · have HV := hid (HV3.out (Int.not_lt.1 hl))
        go_wp2
        go_ret
        exact ⟨ret_int HV.out.symm, by (repeat' (first | with_reducible assumption | with_reducible exact Ext.refl _ | with_reducible refine Ext.alloc ?_ _ | with_reducible refine Ext.set ?_ ?_ _ | with_reducible refine Ext.drew ?_ | with_reducible refine Ext.drewN ?_ _ | with_reducible refine Ext.trans ?_ (by assumption) | (dsimp only; omega)))⟩
end Go.Proofs.Ytndoghcglbpllaa
