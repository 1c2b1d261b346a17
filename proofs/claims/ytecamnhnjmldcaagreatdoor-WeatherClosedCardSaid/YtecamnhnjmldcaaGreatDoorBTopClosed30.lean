/- The law of the open paths: walked to its end. -/
import Derived.Test.YtecamnhnjmldcaaGreatDoorBTopClosed29
import Derived.Test.YtecamnhnjmldcaaGreatDoorB14
set_option linter.unusedSimpArgs false
set_option linter.unusedVariables false
namespace Go.Proofs.YtecamnhnjmldcaaGreatDoor
open Go.RowKit
theorem wthB_ok {f : List (List Hr)} {seen : List Sg} {skies : List Sk} {m : Nat} (hm : seen.length = m) (h : wthB f seen skies = true) : farB f m = false ∧ seenE f seen = 0 ∧ weaB f seen skies = true := by
  unfold wthB at h
  rw [hm] at h
  simp only [Bool.and_eq_true, decide_eq_true_eq, Bool.not_eq_true'] at h
  exact h
theorem safP_at (rs : List Rl) (ss : List (List Hr)) (N : Nat) (ps : List Pt) (k : Nat) (hk : k < ps.length) : ((safP rs ss N ps).getD k zeroPt).opens = safeM (forP rs k) ss N (ps.getD k zeroPt).opens := by
  unfold safP
  simp only [List.getD_eq_getElem?_getD, List.getElem?_mapIdx, List.getElem?_eq_getElem hk]
  rfl
theorem safP_len (rs : List Rl) (ss : List (List Hr)) (N : Nat) (ps : List Pt) : (safP rs ss N ps).length = ps.length := by unfold safP; simp
set_option maxHeartbeats 16000000 in
set_option maxRecDepth 100000 in
theorem lclosed_any (f : List (List Hr)) (A : Option Addr) (n c : Nat) (seen : List Sg) (SA : Option Addr) (sm sc : Nat) (m : Int) (ps : List Pt) (NA : Option Addr) (nn nc : Nat) (hpn : ps.length = nn) (rs : List Rl) (RA : Option Addr) (rn rc : Nat) (hrn : rs.length = rn) (path : Int)
    (skies : List Sk) (KA : Option Addr) (kn kc : Nat) (hkn : skies.length = kn) (l : Lm) (len : Int) (w : World) (h : AIn w f A n seen SA sm) (hp : PathsAt w NA ps) (hr : RlsAt w RA rs) (hks : SksAt w KA skies) :
    Calls Tryz.prog 5 #[.agg #[.slice A n c], .agg #[.int .i64 m, .slice NA nn nc, .slice RA rn rc, .int .i64 path], .agg #[.slice SA sm sc, .slice KA kn kc, .int .i64 l.wind, .int .i64 l.rain, .int .i64 l.tl, .int .i64 l.th, .int .i64 len]] w fun e w' => e = .returned (.bool true) ∧ Ext w w' := by
  have HWK := hid (fun (W : World) (hW : Ext w W) => works_any W (h.wid.ext hW))
  have HFR := hid (fun (W : World) (hW : Ext w W) => lfarRules_any m ps NA nn nc hpn RA rn rc path W (hp.ext hW))
  obtain ⟨wi, ra, tl, th⟩ := l
  dsimp only
  have HB0 := hid (show Blk _ _ _ _ from blk_old (blk_old (blk_last w (.cells #[.slice A n c] 24)) (.cells #[.int .i64 m, .slice NA nn nc, .slice RA rn rc, .int .i64 path] 50)) (.cells #[.slice SA sm sc, .slice KA kn kc, .int .i64 wi, .int .i64 ra, .int .i64 tl, .int .i64 th, .int .i64 len] 60))
  have HB1 := hid (show Blk _ _ _ _ from blk_old (blk_last (w.alloc (.cells #[.slice A n c] 24)) (.cells #[.int .i64 m, .slice NA nn nc, .slice RA rn rc, .int .i64 path] 50)) (.cells #[.slice SA sm sc, .slice KA kn kc, .int .i64 wi, .int .i64 ra, .int .i64 tl, .int .i64 th, .int .i64 len] 60))
  have HB2 := hid (show Blk _ _ _ _ from blk_last ((w.alloc (.cells #[.slice A n c] 24)).alloc (.cells #[.int .i64 m, .slice NA nn nc, .slice RA rn rc, .int .i64 path] 50)) (.cells #[.slice SA sm sc, .slice KA kn kc, .int .i64 wi, .int .i64 ra, .int .i64 tl, .int .i64 th, .int .i64 len] 60))
  rw [World.size_alloc] at HB1
  rw [World.size_alloc, World.size_alloc] at HB2
  have E : Ext w (((w.alloc (.cells #[.slice A n c] 24)).alloc (.cells #[.int .i64 m, .slice NA nn nc, .slice RA rn rc, .int .i64 path] 50)).alloc (.cells #[.slice SA sm sc, .slice KA kn kc, .int .i64 wi, .int .i64 ra, .int .i64 tl, .int .i64 th, .int .i64 len] 60)) := by (repeat' (first | with_reducible assumption | with_reducible exact Ext.refl _ | with_reducible refine Ext.alloc ?_ _ | with_reducible refine Ext.set ?_ ?_ _ | with_reducible refine Ext.drew ?_ | with_reducible refine Ext.drewN ?_ _ | with_reducible refine Ext.trans ?_ (by assumption) | (dsimp only; omega)))
  by_cases hnear : NearOk m ps ∧ rn ≤ 14
  case neg =>
    clear h hp hr hks
    go_enter Tryz.func5, Tryz.ntmps5
    go_wp2_with fail
    refine (HFR.out _ E).mono ?_
    rintro e w2 ⟨⟨B, rfl, hB⟩, hE⟩
    cases B
    case false => exact absurd (hB rfl) hnear
    replace E := E.trans hE
    replace HB0 := hid (HB0.out.ext hE)
    replace HB1 := hid (HB1.out.ext hE)
    replace HB2 := hid (HB2.out.ext hE)
    (try replace HB7 := hid (HB7.out.ext hE))
    (try replace HPA := hid (HPA.out.ext hE))
    (try replace HO1 := hid (HO1.out.ext hE))
    (try replace HO2 := hid (HO2.out.ext hE))
    clear hE
    (try clear a0 z0 zE z1 l0 l1 l2 l3 r0 r1 z2)
    (try clear a7 a8 z7)
    have a0 := HB0.out.cell 0
    have z0 := HB0.out.lt
    obtain ⟨l0, l1, l2, l3⟩ : _ ∧ _ ∧ _ ∧ _ := ⟨HB1.out.cell 0, HB1.out.cell 1, HB1.out.cell 2, HB1.out.cell 3⟩
    have z1 := HB1.out.lt
    obtain ⟨r0, r1⟩ : _ ∧ _ := ⟨HB2.out.cell 0, HB2.out.cell 1⟩
    have z2 := HB2.out.lt
    have zE := E.size
    simp only [List.getElem?_toArray, List.getElem?_cons_zero, List.getElem?_cons_succ] at a0 l0 l1 l2 l3 r0 r1
    (try (have a7 := HB7.out.cell 0; have a8 := HB7.out.cell 1; have z7 := HB7.out.lt; simp only [List.getElem?_toArray, List.getElem?_cons_zero, List.getElem?_cons_succ] at a7 a8))
    clear hB
    go_wp2_with fail
    refine (HWK.out _ (by (repeat' (first | with_reducible assumption | with_reducible exact Ext.refl _ | with_reducible refine Ext.alloc ?_ _ | with_reducible refine Ext.set ?_ ?_ _ | with_reducible refine Ext.drew ?_ | with_reducible refine Ext.drewN ?_ _ | with_reducible refine Ext.trans ?_ (by assumption) | (dsimp only; omega))))).mono ?_
    rintro e w9 ⟨rfl, hE9⟩
    have EZ : Ext w w9 := by (repeat' (first | with_reducible assumption | with_reducible exact Ext.refl _ | with_reducible refine Ext.alloc ?_ _ | with_reducible refine Ext.set ?_ ?_ _ | with_reducible refine Ext.drew ?_ | with_reducible refine Ext.drewN ?_ _ | with_reducible refine Ext.trans ?_ (by assumption) | (dsimp only; omega)))
    go_wp2
    go_ret
    exact ⟨rfl, EZ⟩
  by_cases h60 : 60 < kn
  case pos =>
    clear h hp hr hks hnear
    go_enter Tryz.func5, Tryz.ntmps5
    go_wp2_with fail
    refine (HFR.out _ E).mono ?_
    rintro e w2 ⟨⟨B, rfl, hB⟩, hE⟩
    replace E := E.trans hE
    replace HB0 := hid (HB0.out.ext hE)
    replace HB1 := hid (HB1.out.ext hE)
    replace HB2 := hid (HB2.out.ext hE)
    (try replace HB7 := hid (HB7.out.ext hE))
    (try replace HPA := hid (HPA.out.ext hE))
    (try replace HO1 := hid (HO1.out.ext hE))
    (try replace HO2 := hid (HO2.out.ext hE))
    clear hE
    (try clear a0 z0 zE z1 l0 l1 l2 l3 r0 r1 z2)
    (try clear a7 a8 z7)
    have a0 := HB0.out.cell 0
    have z0 := HB0.out.lt
    obtain ⟨l0, l1, l2, l3⟩ : _ ∧ _ ∧ _ ∧ _ := ⟨HB1.out.cell 0, HB1.out.cell 1, HB1.out.cell 2, HB1.out.cell 3⟩
    have z1 := HB1.out.lt
    obtain ⟨r0, r1⟩ : _ ∧ _ := ⟨HB2.out.cell 0, HB2.out.cell 1⟩
    have z2 := HB2.out.lt
    have zE := E.size
    simp only [List.getElem?_toArray, List.getElem?_cons_zero, List.getElem?_cons_succ] at a0 l0 l1 l2 l3 r0 r1
    (try (have a7 := HB7.out.cell 0; have a8 := HB7.out.cell 1; have z7 := HB7.out.lt; simp only [List.getElem?_toArray, List.getElem?_cons_zero, List.getElem?_cons_succ] at a7 a8))
    cases B
    case true =>
      clear hB
      go_wp2_with fail
      refine (HWK.out _ (by (repeat' (first | with_reducible assumption | with_reducible exact Ext.refl _ | with_reducible refine Ext.alloc ?_ _ | with_reducible refine Ext.set ?_ ?_ _ | with_reducible refine Ext.drew ?_ | with_reducible refine Ext.drewN ?_ _ | with_reducible refine Ext.trans ?_ (by assumption) | (dsimp only; omega))))).mono ?_
      rintro e w9 ⟨rfl, hE9⟩
      have EZ : Ext w w9 := by (repeat' (first | with_reducible assumption | with_reducible exact Ext.refl _ | with_reducible refine Ext.alloc ?_ _ | with_reducible refine Ext.set ?_ ?_ _ | with_reducible refine Ext.drew ?_ | with_reducible refine Ext.drewN ?_ _ | with_reducible refine Ext.trans ?_ (by assumption) | (dsimp only; omega)))
      go_wp2
      go_ret
      exact ⟨rfl, EZ⟩
    clear hB
    go_wp2_with fail
    refine (HWK.out _ (by (repeat' (first | with_reducible assumption | with_reducible exact Ext.refl _ | with_reducible refine Ext.alloc ?_ _ | with_reducible refine Ext.set ?_ ?_ _ | with_reducible refine Ext.drew ?_ | with_reducible refine Ext.drewN ?_ _ | with_reducible refine Ext.trans ?_ (by assumption) | (dsimp only; omega))))).mono ?_
    rintro e w9 ⟨rfl, hE9⟩
    have EZ : Ext w w9 := by (repeat' (first | with_reducible assumption | with_reducible exact Ext.refl _ | with_reducible refine Ext.alloc ?_ _ | with_reducible refine Ext.set ?_ ?_ _ | with_reducible refine Ext.drew ?_ | with_reducible refine Ext.drewN ?_ _ | with_reducible refine Ext.trans ?_ (by assumption) | (dsimp only; omega)))
    go_wp2
    go_ret
    exact ⟨rfl, EZ⟩
  have HWT := hid (fun (W : World) (hW : Ext w W) => weathers_any f A n c seen SA sm sc skies KA kn kc hkn (by omega) W (h.ext hW) (hks.ext hW))
  cases hwt : wthB f seen skies
  case false =>
    rw [hwt] at HWT
    clear h hp hr hks hnear hwt
    go_enter Tryz.func5, Tryz.ntmps5
    go_wp2_with fail
    refine (HFR.out _ E).mono ?_
    rintro e w2 ⟨⟨B, rfl, hB⟩, hE⟩
    replace E := E.trans hE
    replace HB0 := hid (HB0.out.ext hE)
    replace HB1 := hid (HB1.out.ext hE)
    replace HB2 := hid (HB2.out.ext hE)
    (try replace HB7 := hid (HB7.out.ext hE))
    (try replace HPA := hid (HPA.out.ext hE))
    (try replace HO1 := hid (HO1.out.ext hE))
    (try replace HO2 := hid (HO2.out.ext hE))
    clear hE
    (try clear a0 z0 zE z1 l0 l1 l2 l3 r0 r1 z2)
    (try clear a7 a8 z7)
    have a0 := HB0.out.cell 0
    have z0 := HB0.out.lt
    obtain ⟨l0, l1, l2, l3⟩ : _ ∧ _ ∧ _ ∧ _ := ⟨HB1.out.cell 0, HB1.out.cell 1, HB1.out.cell 2, HB1.out.cell 3⟩
    have z1 := HB1.out.lt
    obtain ⟨r0, r1⟩ : _ ∧ _ := ⟨HB2.out.cell 0, HB2.out.cell 1⟩
    have z2 := HB2.out.lt
    have zE := E.size
    simp only [List.getElem?_toArray, List.getElem?_cons_zero, List.getElem?_cons_succ] at a0 l0 l1 l2 l3 r0 r1
    (try (have a7 := HB7.out.cell 0; have a8 := HB7.out.cell 1; have z7 := HB7.out.lt; simp only [List.getElem?_toArray, List.getElem?_cons_zero, List.getElem?_cons_succ] at a7 a8))
    cases B
    case true =>
      clear hB
      go_wp2_with fail
      refine (HWK.out _ (by (repeat' (first | with_reducible assumption | with_reducible exact Ext.refl _ | with_reducible refine Ext.alloc ?_ _ | with_reducible refine Ext.set ?_ ?_ _ | with_reducible refine Ext.drew ?_ | with_reducible refine Ext.drewN ?_ _ | with_reducible refine Ext.trans ?_ (by assumption) | (dsimp only; omega))))).mono ?_
      rintro e w9 ⟨rfl, hE9⟩
      have EZ : Ext w w9 := by (repeat' (first | with_reducible assumption | with_reducible exact Ext.refl _ | with_reducible refine Ext.alloc ?_ _ | with_reducible refine Ext.set ?_ ?_ _ | with_reducible refine Ext.drew ?_ | with_reducible refine Ext.drewN ?_ _ | with_reducible refine Ext.trans ?_ (by assumption) | (dsimp only; omega)))
      go_wp2
      go_ret
      exact ⟨rfl, EZ⟩
    clear hB
    go_wp2_with fail
    refine (HWT.out _ E).mono ?_
    rintro e w3 ⟨rfl, hE⟩
    replace E := E.trans hE
    replace HB0 := hid (HB0.out.ext hE)
    replace HB1 := hid (HB1.out.ext hE)
    replace HB2 := hid (HB2.out.ext hE)
    (try replace HB7 := hid (HB7.out.ext hE))
    (try replace HPA := hid (HPA.out.ext hE))
    (try replace HO1 := hid (HO1.out.ext hE))
    (try replace HO2 := hid (HO2.out.ext hE))
    clear hE
    (try clear a0 z0 zE z1 l0 l1 l2 l3 r0 r1 z2)
    (try clear a7 a8 z7)
    have a0 := HB0.out.cell 0
    have z0 := HB0.out.lt
    obtain ⟨l0, l1, l2, l3⟩ : _ ∧ _ ∧ _ ∧ _ := ⟨HB1.out.cell 0, HB1.out.cell 1, HB1.out.cell 2, HB1.out.cell 3⟩
    have z1 := HB1.out.lt
    obtain ⟨r0, r1⟩ : _ ∧ _ := ⟨HB2.out.cell 0, HB2.out.cell 1⟩
    have z2 := HB2.out.lt
    have zE := E.size
    simp only [List.getElem?_toArray, List.getElem?_cons_zero, List.getElem?_cons_succ] at a0 l0 l1 l2 l3 r0 r1
    (try (have a7 := HB7.out.cell 0; have a8 := HB7.out.cell 1; have z7 := HB7.out.lt; simp only [List.getElem?_toArray, List.getElem?_cons_zero, List.getElem?_cons_succ] at a7 a8))
    go_wp2_with fail
    refine (HWK.out _ (by (repeat' (first | with_reducible assumption | with_reducible exact Ext.refl _ | with_reducible refine Ext.alloc ?_ _ | with_reducible refine Ext.set ?_ ?_ _ | with_reducible refine Ext.drew ?_ | with_reducible refine Ext.drewN ?_ _ | with_reducible refine Ext.trans ?_ (by assumption) | (dsimp only; omega))))).mono ?_
    rintro e w9 ⟨rfl, hE9⟩
    have EZ : Ext w w9 := by (repeat' (first | with_reducible assumption | with_reducible exact Ext.refl _ | with_reducible refine Ext.alloc ?_ _ | with_reducible refine Ext.set ?_ ?_ _ | with_reducible refine Ext.drew ?_ | with_reducible refine Ext.drewN ?_ _ | with_reducible refine Ext.trans ?_ (by assumption) | (dsimp only; omega)))
    go_wp2
    go_ret
    exact ⟨rfl, EZ⟩
  rw [hwt] at HWT
  obtain ⟨hfar, hse, hwe⟩ := wthB_ok h.hl hwt
  have hfin := h.fin hfar
  have hn26 : nn ≤ 26 := by have := hnear.1.1; omega
  have hr14 : rn ≤ 14 := hnear.2
  have HCR := hid (fun (W : World) (hW : Ext w W) => by
    have := rchkRules_any f A n c seen SA sm sc m ps NA nn nc hpn (by omega) rs RA rn rc hrn (by omega) true W (hfin.ext hW) (hp.ext hW) (hr.ext hW)
    rw [rcrE_safe] at this
    exact this)
  by_cases hs0 : safE f seen m ps rs = 0
  case neg =>
    have hsb : (safE f seen m ps rs != 0) = true := by simp [hs0]
    generalize safE f seen m ps rs = se at *
    clear h hp hr hks hnear hwt hfar hse hwe hfin
    go_enter Tryz.func5, Tryz.ntmps5
    go_wp2_with fail
    refine (HFR.out _ E).mono ?_
    rintro e w2 ⟨⟨B, rfl, hB⟩, hE⟩
    replace E := E.trans hE
    replace HB0 := hid (HB0.out.ext hE)
    replace HB1 := hid (HB1.out.ext hE)
    replace HB2 := hid (HB2.out.ext hE)
    (try replace HB7 := hid (HB7.out.ext hE))
    (try replace HPA := hid (HPA.out.ext hE))
    (try replace HO1 := hid (HO1.out.ext hE))
    (try replace HO2 := hid (HO2.out.ext hE))
    clear hE
    (try clear a0 z0 zE z1 l0 l1 l2 l3 r0 r1 z2)
    (try clear a7 a8 z7)
    have a0 := HB0.out.cell 0
    have z0 := HB0.out.lt
    obtain ⟨l0, l1, l2, l3⟩ : _ ∧ _ ∧ _ ∧ _ := ⟨HB1.out.cell 0, HB1.out.cell 1, HB1.out.cell 2, HB1.out.cell 3⟩
    have z1 := HB1.out.lt
    obtain ⟨r0, r1⟩ : _ ∧ _ := ⟨HB2.out.cell 0, HB2.out.cell 1⟩
    have z2 := HB2.out.lt
    have zE := E.size
    simp only [List.getElem?_toArray, List.getElem?_cons_zero, List.getElem?_cons_succ] at a0 l0 l1 l2 l3 r0 r1
    (try (have a7 := HB7.out.cell 0; have a8 := HB7.out.cell 1; have z7 := HB7.out.lt; simp only [List.getElem?_toArray, List.getElem?_cons_zero, List.getElem?_cons_succ] at a7 a8))
    cases B
    case true =>
      clear hB
      go_wp2_with fail
      refine (HWK.out _ (by (repeat' (first | with_reducible assumption | with_reducible exact Ext.refl _ | with_reducible refine Ext.alloc ?_ _ | with_reducible refine Ext.set ?_ ?_ _ | with_reducible refine Ext.drew ?_ | with_reducible refine Ext.drewN ?_ _ | with_reducible refine Ext.trans ?_ (by assumption) | (dsimp only; omega))))).mono ?_
      rintro e w9 ⟨rfl, hE9⟩
      have EZ : Ext w w9 := by (repeat' (first | with_reducible assumption | with_reducible exact Ext.refl _ | with_reducible refine Ext.alloc ?_ _ | with_reducible refine Ext.set ?_ ?_ _ | with_reducible refine Ext.drew ?_ | with_reducible refine Ext.drewN ?_ _ | with_reducible refine Ext.trans ?_ (by assumption) | (dsimp only; omega)))
      go_wp2
      go_ret
      exact ⟨rfl, EZ⟩
    clear hB
    go_wp2_with fail
    refine (HWT.out _ E).mono ?_
    rintro e w3 ⟨rfl, hE⟩
    replace E := E.trans hE
    replace HB0 := hid (HB0.out.ext hE)
    replace HB1 := hid (HB1.out.ext hE)
    replace HB2 := hid (HB2.out.ext hE)
    (try replace HB7 := hid (HB7.out.ext hE))
    (try replace HPA := hid (HPA.out.ext hE))
    (try replace HO1 := hid (HO1.out.ext hE))
    (try replace HO2 := hid (HO2.out.ext hE))
    clear hE
    (try clear a0 z0 zE z1 l0 l1 l2 l3 r0 r1 z2)
    (try clear a7 a8 z7)
    have a0 := HB0.out.cell 0
    have z0 := HB0.out.lt
    obtain ⟨l0, l1, l2, l3⟩ : _ ∧ _ ∧ _ ∧ _ := ⟨HB1.out.cell 0, HB1.out.cell 1, HB1.out.cell 2, HB1.out.cell 3⟩
    have z1 := HB1.out.lt
    obtain ⟨r0, r1⟩ : _ ∧ _ := ⟨HB2.out.cell 0, HB2.out.cell 1⟩
    have z2 := HB2.out.lt
    have zE := E.size
    simp only [List.getElem?_toArray, List.getElem?_cons_zero, List.getElem?_cons_succ] at a0 l0 l1 l2 l3 r0 r1
    (try (have a7 := HB7.out.cell 0; have a8 := HB7.out.cell 1; have z7 := HB7.out.lt; simp only [List.getElem?_toArray, List.getElem?_cons_zero, List.getElem?_cons_succ] at a7 a8))
    go_wp2_with fail
    refine (HCR.out _ E).mono ?_
    rintro e w4 ⟨rfl, hE⟩
    replace E := E.trans hE
    replace HB0 := hid (HB0.out.ext hE)
    replace HB1 := hid (HB1.out.ext hE)
    replace HB2 := hid (HB2.out.ext hE)
    (try replace HB7 := hid (HB7.out.ext hE))
    (try replace HPA := hid (HPA.out.ext hE))
    (try replace HO1 := hid (HO1.out.ext hE))
    (try replace HO2 := hid (HO2.out.ext hE))
    clear hE
    (try clear a0 z0 zE z1 l0 l1 l2 l3 r0 r1 z2)
    (try clear a7 a8 z7)
    have a0 := HB0.out.cell 0
    have z0 := HB0.out.lt
    obtain ⟨l0, l1, l2, l3⟩ : _ ∧ _ ∧ _ ∧ _ := ⟨HB1.out.cell 0, HB1.out.cell 1, HB1.out.cell 2, HB1.out.cell 3⟩
    have z1 := HB1.out.lt
    obtain ⟨r0, r1⟩ : _ ∧ _ := ⟨HB2.out.cell 0, HB2.out.cell 1⟩
    have z2 := HB2.out.lt
    have zE := E.size
    simp only [List.getElem?_toArray, List.getElem?_cons_zero, List.getElem?_cons_succ] at a0 l0 l1 l2 l3 r0 r1
    (try (have a7 := HB7.out.cell 0; have a8 := HB7.out.cell 1; have z7 := HB7.out.lt; simp only [List.getElem?_toArray, List.getElem?_cons_zero, List.getElem?_cons_succ] at a7 a8))
    go_wp2_with fail
    refine (HWK.out _ (by (repeat' (first | with_reducible assumption | with_reducible exact Ext.refl _ | with_reducible refine Ext.alloc ?_ _ | with_reducible refine Ext.set ?_ ?_ _ | with_reducible refine Ext.drew ?_ | with_reducible refine Ext.drewN ?_ _ | with_reducible refine Ext.trans ?_ (by assumption) | (dsimp only; omega))))).mono ?_
    rintro e w9 ⟨rfl, hE9⟩
    have EZ : Ext w w9 := by (repeat' (first | with_reducible assumption | with_reducible exact Ext.refl _ | with_reducible refine Ext.alloc ?_ _ | with_reducible refine Ext.set ?_ ?_ _ | with_reducible refine Ext.drew ?_ | with_reducible refine Ext.drewN ?_ _ | with_reducible refine Ext.trans ?_ (by assumption) | (dsimp only; omega)))
    go_wp2
    go_ret
    exact ⟨rfl, EZ⟩
  have okS := safE_ok hs0
  have okC := closed_ok rs okS.fc okS.sg hwe
  rw [hs0] at HCR
  have HSA := hid (fun (W : World) (hW : Ext w W) => by
    have := safe_any f A n c seen SA sm sc m ps NA nn nc hpn (by omega) rs RA rn rc hrn (by omega) W (hfin.ext hW) (hp.ext hW) (hr.ext hW)
    unfold SafeIs at this
    rw [hs0] at this
    exact this)
  have HOP := hid (fun (i : Nat) (hi : i < nn) (W : World) (hW : Ext w W) => by
    have := open_any f A n c seen SA sm sc m ps NA nn nc hpn (by omega) rs RA rn rc hrn (by omega) (i : Int) W (hfin.ext hW) (hp.ext hW) (hr.ext hW)
    unfold OpenIs opnS opnM at this
    rw [opnE_zero hs0 i (by omega), if_pos rfl, if_pos rfl] at this
    exact this)
  have hkN : kn = hoursN f := by rw [← hkn]; exact okC.len
  have hN1 := hfin.hours
  have HIS := hid (fun (i : Nat) (y : Nat) (hy : y < kn) (W : World) (hW : Ext w W) => risOpen_any rs RA rn rc hrn (by omega) (rlsB_aft okS.ru) skies KA kn kc hkn (by omega) (i : Int) y hy W (hr.ext hW) (hks.ext hW))
  have HLS := hid (fun (i : Nat) (A5 : Option Addr) (c5 : Nat) (x : Int) (W : World) (ho : OpensAt W A5 (sureM (forP rs i) (scsM seen f) (hoursN f))) => linside_any (sureM (forP rs i) (scsM seen f) (hoursN f)) A5 _ c5 rfl (by
    have := spansM_len (fun h => (scsM seen f).all fun hs => isOpenM surB (forP rs i) hs h) (hoursN f)
    unfold sureM; omega) x W ho)
  have HLM := hid (fun (i : Nat) (A5 : Option Addr) (c5 : Nat) (x : Int) (W : World) (ho : OpensAt W A5 (mayM (forP rs i) (scsM seen f) (hoursN f))) => linside_any (mayM (forP rs i) (scsM seen f) (hoursN f)) A5 _ c5 rfl (by
    have := spansM_len (fun h => (scsM seen f).any fun hs => isOpenM mayB (forP rs i) hs h) (hoursN f)
    unfold mayM; omega) x W ho)
  have hop6 : ∀ i, i < nn → (ps.getD i zeroPt).opens.length ≤ 6 := fun i hi => vNet_ops okS.net _ (mem_at ps zeroPt i (by omega))
  have HLO := hid (fun (os : List (Int × Int)) (h6 : os.length ≤ 6) (A5 : Option Addr) (c5 : Nat) (x : Int) (W : World) (ho : OpensAt W A5 os) => linside_any os A5 _ c5 rfl (by omega) x W ho)
  have HSO := hid (fun (i : Nat) (hi : i < nn) => show ((safP rs (scsM seen f) (hoursN f) ps).getD i zeroPt).opens = safeM (forP rs i) (scsM seen f) (hoursN f) (ps.getD i zeroPt).opens from safP_at rs _ _ ps i (by omega))
  have HS6 := hid (fun (i : Nat) (hi : i < nn) => safeM_len (forP rs i) (scsM seen f) (hoursN f) (ps.getD i zeroPt).opens (hop6 i hi))
  have HP6 := hid hop6
  have HK1 := hid (fun (i y : Nat) (hy : y < kn) => okC.sure i y (by omega))
  have HK2 := hid (fun (i y : Nat) (hy : y < kn) => okC.may i y (by omega))
  have HK3 := hid (fun (i y t : Nat) (hy : y < kn) (h1 : 60 * y ≤ t) (h2 : t < 60 * y + 60) => okC.safe i (ps.getD i zeroPt).opens y t (by omega) h1 h2)
  have HNP := hid hp
  have HPN := hid hpn
  have HSL := hid (show (safP rs (scsM seen f) (hoursN f) ps).length = nn by rw [safP_len, hpn])
  clear h hp hr hks hnear hwt hfar hse hwe hfin okS okC hs0 hop6 hkN hN1
  generalize safP rs (scsM seen f) (hoursN f) ps = SP at *
  generalize hSF : (fun i : Nat => safeM (forP rs i) (scsM seen f) (hoursN f) (ps.getD i zeroPt).opens) = SF
  generalize hSU : (fun i : Nat => sureM (forP rs i) (scsM seen f) (hoursN f)) = SU
  generalize hSM : (fun i : Nat => mayM (forP rs i) (scsM seen f) (hoursN f)) = SM
  have e1 : ∀ i : Nat, safeM (forP rs i) (scsM seen f) (hoursN f) (ps.getD i zeroPt).opens = SF i := fun i => by rw [← hSF]
  have e2 : ∀ i : Nat, sureM (forP rs i) (scsM seen f) (hoursN f) = SU i := fun i => by rw [← hSU]
  have e3 : ∀ i : Nat, mayM (forP rs i) (scsM seen f) (hoursN f) = SM i := fun i => by rw [← hSM]
  simp only [e1] at HSO HS6 HK3
  simp only [e2] at HOP HLS HK1
  simp only [e3] at HOP HLM HK2
  clear hSF hSU hSM e1 e2 e3
  go_enter Tryz.func5, Tryz.ntmps5
  go_wp2_with fail
  refine (HFR.out _ E).mono ?_
  rintro e w2 ⟨⟨B, rfl, hB⟩, hE⟩
  replace E := E.trans hE
  replace HB0 := hid (HB0.out.ext hE)
  replace HB1 := hid (HB1.out.ext hE)
  replace HB2 := hid (HB2.out.ext hE)
  (try replace HB7 := hid (HB7.out.ext hE))
  (try replace HPA := hid (HPA.out.ext hE))
  (try replace HO1 := hid (HO1.out.ext hE))
  (try replace HO2 := hid (HO2.out.ext hE))
  clear hE
  (try clear a0 z0 zE z1 l0 l1 l2 l3 r0 r1 z2)
  (try clear a7 a8 z7)
  have a0 := HB0.out.cell 0
  have z0 := HB0.out.lt
  obtain ⟨l0, l1, l2, l3⟩ : _ ∧ _ ∧ _ ∧ _ := ⟨HB1.out.cell 0, HB1.out.cell 1, HB1.out.cell 2, HB1.out.cell 3⟩
  have z1 := HB1.out.lt
  obtain ⟨r0, r1⟩ : _ ∧ _ := ⟨HB2.out.cell 0, HB2.out.cell 1⟩
  have z2 := HB2.out.lt
  have zE := E.size
  simp only [List.getElem?_toArray, List.getElem?_cons_zero, List.getElem?_cons_succ] at a0 l0 l1 l2 l3 r0 r1
  (try (have a7 := HB7.out.cell 0; have a8 := HB7.out.cell 1; have z7 := HB7.out.lt; simp only [List.getElem?_toArray, List.getElem?_cons_zero, List.getElem?_cons_succ] at a7 a8))
  cases B
  case true =>
    clear hB
    go_wp2_with fail
    refine (HWK.out _ (by (repeat' (first | with_reducible assumption | with_reducible exact Ext.refl _ | with_reducible refine Ext.alloc ?_ _ | with_reducible refine Ext.set ?_ ?_ _ | with_reducible refine Ext.drew ?_ | with_reducible refine Ext.drewN ?_ _ | with_reducible refine Ext.trans ?_ (by assumption) | (dsimp only; omega))))).mono ?_
    rintro e w9 ⟨rfl, hE9⟩
    have EZ : Ext w w9 := by (repeat' (first | with_reducible assumption | with_reducible exact Ext.refl _ | with_reducible refine Ext.alloc ?_ _ | with_reducible refine Ext.set ?_ ?_ _ | with_reducible refine Ext.drew ?_ | with_reducible refine Ext.drewN ?_ _ | with_reducible refine Ext.trans ?_ (by assumption) | (dsimp only; omega)))
    go_wp2
    go_ret
    exact ⟨rfl, EZ⟩
  clear hB
  go_wp2_with fail
  refine (HWT.out _ E).mono ?_
  rintro e w3 ⟨rfl, hE⟩
  replace E := E.trans hE
  replace HB0 := hid (HB0.out.ext hE)
  replace HB1 := hid (HB1.out.ext hE)
  replace HB2 := hid (HB2.out.ext hE)
  (try replace HB7 := hid (HB7.out.ext hE))
  (try replace HPA := hid (HPA.out.ext hE))
  (try replace HO1 := hid (HO1.out.ext hE))
  (try replace HO2 := hid (HO2.out.ext hE))
  clear hE
  (try clear a0 z0 zE z1 l0 l1 l2 l3 r0 r1 z2)
  (try clear a7 a8 z7)
  have a0 := HB0.out.cell 0
  have z0 := HB0.out.lt
  obtain ⟨l0, l1, l2, l3⟩ : _ ∧ _ ∧ _ ∧ _ := ⟨HB1.out.cell 0, HB1.out.cell 1, HB1.out.cell 2, HB1.out.cell 3⟩
  have z1 := HB1.out.lt
  obtain ⟨r0, r1⟩ : _ ∧ _ := ⟨HB2.out.cell 0, HB2.out.cell 1⟩
  have z2 := HB2.out.lt
  have zE := E.size
  simp only [List.getElem?_toArray, List.getElem?_cons_zero, List.getElem?_cons_succ] at a0 l0 l1 l2 l3 r0 r1
  (try (have a7 := HB7.out.cell 0; have a8 := HB7.out.cell 1; have z7 := HB7.out.lt; simp only [List.getElem?_toArray, List.getElem?_cons_zero, List.getElem?_cons_succ] at a7 a8))
  go_wp2_with fail
  refine (HCR.out _ E).mono ?_
  rintro e w4 ⟨rfl, hE⟩
  replace E := E.trans hE
  replace HB0 := hid (HB0.out.ext hE)
  replace HB1 := hid (HB1.out.ext hE)
  replace HB2 := hid (HB2.out.ext hE)
  (try replace HB7 := hid (HB7.out.ext hE))
  (try replace HPA := hid (HPA.out.ext hE))
  (try replace HO1 := hid (HO1.out.ext hE))
  (try replace HO2 := hid (HO2.out.ext hE))
  clear hE
  (try clear a0 z0 zE z1 l0 l1 l2 l3 r0 r1 z2)
  (try clear a7 a8 z7)
  have a0 := HB0.out.cell 0
  have z0 := HB0.out.lt
  obtain ⟨l0, l1, l2, l3⟩ : _ ∧ _ ∧ _ ∧ _ := ⟨HB1.out.cell 0, HB1.out.cell 1, HB1.out.cell 2, HB1.out.cell 3⟩
  have z1 := HB1.out.lt
  obtain ⟨r0, r1⟩ : _ ∧ _ := ⟨HB2.out.cell 0, HB2.out.cell 1⟩
  have z2 := HB2.out.lt
  have zE := E.size
  simp only [List.getElem?_toArray, List.getElem?_cons_zero, List.getElem?_cons_succ] at a0 l0 l1 l2 l3 r0 r1
  (try (have a7 := HB7.out.cell 0; have a8 := HB7.out.cell 1; have z7 := HB7.out.lt; simp only [List.getElem?_toArray, List.getElem?_cons_zero, List.getElem?_cons_succ] at a7 a8))
  clear HFR HWT HCR
  go_wp2_with fail
  refine (HSA.out _ E).mono ?_
  rintro e w5 ⟨m', A', n', c', rfl, hz, -, hE⟩
  obtain ⟨rfl, hn', hcap, hpa⟩ := hz (by first | rfl | trivial)
  rw [hpn] at hn'
  subst hn'
  replace E := E.trans hE
  replace HB0 := hid (HB0.out.ext hE)
  replace HB1 := hid (HB1.out.ext hE)
  replace HB2 := hid (HB2.out.ext hE)
  (try replace HB7 := hid (HB7.out.ext hE))
  (try replace HPA := hid (HPA.out.ext hE))
  (try replace HO1 := hid (HO1.out.ext hE))
  (try replace HO2 := hid (HO2.out.ext hE))
  clear hE
  (try clear a0 z0 zE z1 l0 l1 l2 l3 r0 r1 z2)
  (try clear a7 a8 z7)
  have a0 := HB0.out.cell 0
  have z0 := HB0.out.lt
  obtain ⟨l0, l1, l2, l3⟩ : _ ∧ _ ∧ _ ∧ _ := ⟨HB1.out.cell 0, HB1.out.cell 1, HB1.out.cell 2, HB1.out.cell 3⟩
  have z1 := HB1.out.lt
  obtain ⟨r0, r1⟩ : _ ∧ _ := ⟨HB2.out.cell 0, HB2.out.cell 1⟩
  have z2 := HB2.out.lt
  have zE := E.size
  simp only [List.getElem?_toArray, List.getElem?_cons_zero, List.getElem?_cons_succ] at a0 l0 l1 l2 l3 r0 r1
  (try (have a7 := HB7.out.cell 0; have a8 := HB7.out.cell 1; have z7 := HB7.out.lt; simp only [List.getElem?_toArray, List.getElem?_cons_zero, List.getElem?_cons_succ] at a7 a8))
  have HPA := hid hpa
  clear hz hpa HSA
  go_wp2
  refine wp_abs (fun X => Blk X w5.heap.size 47 #[.int .i64 m', .slice A' n' c'] ∧ Ext w5 X) ⟨blk_last _ _, by (repeat' (first | with_reducible assumption | with_reducible exact Ext.refl _ | with_reducible refine Ext.alloc ?_ _ | with_reducible refine Ext.set ?_ ?_ _ | with_reducible refine Ext.drew ?_ | with_reducible refine Ext.drewN ?_ _ | with_reducible refine Ext.trans ?_ (by assumption) | (dsimp only; omega)))⟩ ?_
  rintro U ⟨hb7, hE⟩
  replace E := E.trans hE
  replace HB0 := hid (HB0.out.ext hE)
  replace HB1 := hid (HB1.out.ext hE)
  replace HB2 := hid (HB2.out.ext hE)
  (try replace HB7 := hid (HB7.out.ext hE))
  (try replace HPA := hid (HPA.out.ext hE))
  (try replace HO1 := hid (HO1.out.ext hE))
  (try replace HO2 := hid (HO2.out.ext hE))
  clear hE
  (try clear a0 z0 zE z1 l0 l1 l2 l3 r0 r1 z2)
  (try clear a7 a8 z7)
  have a0 := HB0.out.cell 0
  have z0 := HB0.out.lt
  obtain ⟨l0, l1, l2, l3⟩ : _ ∧ _ ∧ _ ∧ _ := ⟨HB1.out.cell 0, HB1.out.cell 1, HB1.out.cell 2, HB1.out.cell 3⟩
  have z1 := HB1.out.lt
  obtain ⟨r0, r1⟩ : _ ∧ _ := ⟨HB2.out.cell 0, HB2.out.cell 1⟩
  have z2 := HB2.out.lt
  have zE := E.size
  simp only [List.getElem?_toArray, List.getElem?_cons_zero, List.getElem?_cons_succ] at a0 l0 l1 l2 l3 r0 r1
  (try (have a7 := HB7.out.cell 0; have a8 := HB7.out.cell 1; have z7 := HB7.out.lt; simp only [List.getElem?_toArray, List.getElem?_cons_zero, List.getElem?_cons_succ] at a7 a8))
  have HB7 := hid hb7
  clear hb7 hcap
  have hE := Ext.refl U
  replace E := E.trans hE
  replace HB0 := hid (HB0.out.ext hE)
  replace HB1 := hid (HB1.out.ext hE)
  replace HB2 := hid (HB2.out.ext hE)
  (try replace HB7 := hid (HB7.out.ext hE))
  (try replace HPA := hid (HPA.out.ext hE))
  (try replace HO1 := hid (HO1.out.ext hE))
  (try replace HO2 := hid (HO2.out.ext hE))
  clear hE
  (try clear a0 z0 zE z1 l0 l1 l2 l3 r0 r1 z2)
  (try clear a7 a8 z7)
  have a0 := HB0.out.cell 0
  have z0 := HB0.out.lt
  obtain ⟨l0, l1, l2, l3⟩ : _ ∧ _ ∧ _ ∧ _ := ⟨HB1.out.cell 0, HB1.out.cell 1, HB1.out.cell 2, HB1.out.cell 3⟩
  have z1 := HB1.out.lt
  obtain ⟨r0, r1⟩ : _ ∧ _ := ⟨HB2.out.cell 0, HB2.out.cell 1⟩
  have z2 := HB2.out.lt
  have zE := E.size
  simp only [List.getElem?_toArray, List.getElem?_cons_zero, List.getElem?_cons_succ] at a0 l0 l1 l2 l3 r0 r1
  (try (have a7 := HB7.out.cell 0; have a8 := HB7.out.cell 1; have z7 := HB7.out.lt; simp only [List.getElem?_toArray, List.getElem?_cons_zero, List.getElem?_cons_succ] at a7 a8))
  go_loopw [9] (fun i wr => Ext U wr ∧ ∃ k : Nat, k ≤ n' ∧ i = .int .i64 k) (fun i _ => n' - (intOf i).toNat)
  case atStart => exact ⟨Ext.refl _, 0, Nat.zero_le _, rfl⟩
  case round =>
    obtain ⟨hE, k, hk, rfl⟩ := hrel
    obtain ⟨wo, rfl⟩ : ∃ wo, wo = wr := ⟨_, rfl⟩
    have hEU := hE
    replace E := E.trans hE
    replace HB0 := hid (HB0.out.ext hE)
    replace HB1 := hid (HB1.out.ext hE)
    replace HB2 := hid (HB2.out.ext hE)
    (try replace HB7 := hid (HB7.out.ext hE))
    (try replace HPA := hid (HPA.out.ext hE))
    (try replace HO1 := hid (HO1.out.ext hE))
    (try replace HO2 := hid (HO2.out.ext hE))
    clear hE
    (try clear a0 z0 zE z1 l0 l1 l2 l3 r0 r1 z2)
    (try clear a7 a8 z7)
    have a0 := HB0.out.cell 0
    have z0 := HB0.out.lt
    obtain ⟨l0, l1, l2, l3⟩ : _ ∧ _ ∧ _ ∧ _ := ⟨HB1.out.cell 0, HB1.out.cell 1, HB1.out.cell 2, HB1.out.cell 3⟩
    have z1 := HB1.out.lt
    obtain ⟨r0, r1⟩ : _ ∧ _ := ⟨HB2.out.cell 0, HB2.out.cell 1⟩
    have z2 := HB2.out.lt
    have zE := E.size
    simp only [List.getElem?_toArray, List.getElem?_cons_zero, List.getElem?_cons_succ] at a0 l0 l1 l2 l3 r0 r1
    (try (have a7 := HB7.out.cell 0; have a8 := HB7.out.cell 1; have z7 := HB7.out.lt; simp only [List.getElem?_toArray, List.getElem?_cons_zero, List.getElem?_cons_succ] at a7 a8))
    by_cases hlt : k < n'
    case neg =>
      obtain rfl : k = n' := by omega
      go_wp2_with fail
      refine (HWK.out _ (by (repeat' (first | with_reducible assumption | with_reducible exact Ext.refl _ | with_reducible refine Ext.alloc ?_ _ | with_reducible refine Ext.set ?_ ?_ _ | with_reducible refine Ext.drew ?_ | with_reducible refine Ext.drewN ?_ _ | with_reducible refine Ext.trans ?_ (by assumption) | (dsimp only; omega))))).mono ?_
      rintro e w9 ⟨rfl, hE9⟩
      have EZ : Ext w w9 := by (repeat' (first | with_reducible assumption | with_reducible exact Ext.refl _ | with_reducible refine Ext.alloc ?_ _ | with_reducible refine Ext.set ?_ ?_ _ | with_reducible refine Ext.drew ?_ | with_reducible refine Ext.drewN ?_ _ | with_reducible refine Ext.trans ?_ (by assumption) | (dsimp only; omega)))
      go_wp2
      go_ret
      exact ⟨rfl, EZ⟩
    have hk0 : (0 : Int) ≤ (k : Int) := by omega
    have hk1 : (k : Int) < (n' : Int) := by omega
    have HOP1 := hid (HOP.out k hlt)
    have HLS1 := hid (HLS.out k)
    have HLM1 := hid (HLM.out k)
    have HIS1 := hid (HIS.out k)
    have HS61 := hid (HS6.out k hlt)
    have HSO1 := hid (HSO.out k hlt)
    have HK11 := hid (HK1.out k)
    have HK21 := hid (HK2.out k)
    have HK31 := hid (HK3.out k)
    have HP61 := hid (HP6.out k hlt)
    clear HOP HLS HLM HIS HS6 HSO HK1 HK2 HK3 HP6
    generalize SU k = su at *
    generalize SM k = sm' at *
    generalize SF k = sf at *
    generalize su.length = sul at *
    generalize sm'.length = sml at *
    go_wp2_with fail
    refine (HOP1.out _ E).mono ?_
    rintro e w6 ⟨A5, c5, A6, c6, rfl, h5, h6, hE⟩
    have hE6 := hEU.trans hE
    replace E := E.trans hE
    replace HB0 := hid (HB0.out.ext hE)
    replace HB1 := hid (HB1.out.ext hE)
    replace HB2 := hid (HB2.out.ext hE)
    (try replace HB7 := hid (HB7.out.ext hE))
    (try replace HPA := hid (HPA.out.ext hE))
    (try replace HO1 := hid (HO1.out.ext hE))
    (try replace HO2 := hid (HO2.out.ext hE))
    clear hE
    (try clear a0 z0 zE z1 l0 l1 l2 l3 r0 r1 z2)
    (try clear a7 a8 z7)
    have a0 := HB0.out.cell 0
    have z0 := HB0.out.lt
    obtain ⟨l0, l1, l2, l3⟩ : _ ∧ _ ∧ _ ∧ _ := ⟨HB1.out.cell 0, HB1.out.cell 1, HB1.out.cell 2, HB1.out.cell 3⟩
    have z1 := HB1.out.lt
    obtain ⟨r0, r1⟩ : _ ∧ _ := ⟨HB2.out.cell 0, HB2.out.cell 1⟩
    have z2 := HB2.out.lt
    have zE := E.size
    simp only [List.getElem?_toArray, List.getElem?_cons_zero, List.getElem?_cons_succ] at a0 l0 l1 l2 l3 r0 r1
    (try (have a7 := HB7.out.cell 0; have a8 := HB7.out.cell 1; have z7 := HB7.out.lt; simp only [List.getElem?_toArray, List.getElem?_cons_zero, List.getElem?_cons_succ] at a7 a8))
    have HO1 := hid h5
    have HO2 := hid h6
    clear h5 h6 HOP1
    obtain ⟨b1, f1, B1, g1, hA1, hb1, hpt1⟩ := PathsAt.at_ HPA.out HSL.out hlt
    subst hA1
    obtain ⟨-, -, -, -, -, -, -, d7, -, hop1⟩ := hpt1
    rw [HSO1.out] at d7 hop1
    have d7a := hid d7
    have HQ1 := hid hop1
    have h6le : sf.length ≤ 6 := HS61.out
    have h6d : decide ((6 : Int) < (sf.length : Int)) = false := decide_eq_false (by omega)
    clear hop1
    go_wp2
    go_loopw [13] (fun i wr => Ext w6 wr ∧ ∃ y : Nat, y ≤ kn ∧ i = .int .i64 y) (fun i _ => kn - (intOf i).toNat)
    case atStart => exact ⟨Ext.refl _, 0, Nat.zero_le _, rfl⟩
    case round =>
      obtain ⟨hE, y, hy, rfl⟩ := hrel
      obtain ⟨wq, rfl⟩ : ∃ wq, wq = wr := ⟨_, rfl⟩
      have hE7 := hE
      replace E := E.trans hE
      replace HB0 := hid (HB0.out.ext hE)
      replace HB1 := hid (HB1.out.ext hE)
      replace HB2 := hid (HB2.out.ext hE)
      (try replace HB7 := hid (HB7.out.ext hE))
      (try replace HPA := hid (HPA.out.ext hE))
      (try replace HO1 := hid (HO1.out.ext hE))
      (try replace HO2 := hid (HO2.out.ext hE))
      clear hE
      (try clear a0 z0 zE z1 l0 l1 l2 l3 r0 r1 z2)
      (try clear a7 a8 z7)
      have a0 := HB0.out.cell 0
      have z0 := HB0.out.lt
      obtain ⟨l0, l1, l2, l3⟩ : _ ∧ _ ∧ _ ∧ _ := ⟨HB1.out.cell 0, HB1.out.cell 1, HB1.out.cell 2, HB1.out.cell 3⟩
      have z1 := HB1.out.lt
      obtain ⟨r0, r1⟩ : _ ∧ _ := ⟨HB2.out.cell 0, HB2.out.cell 1⟩
      have z2 := HB2.out.lt
      have zE := E.size
      simp only [List.getElem?_toArray, List.getElem?_cons_zero, List.getElem?_cons_succ] at a0 l0 l1 l2 l3 r0 r1
      (try (have a7 := HB7.out.cell 0; have a8 := HB7.out.cell 1; have z7 := HB7.out.lt; simp only [List.getElem?_toArray, List.getElem?_cons_zero, List.getElem?_cons_succ] at a7 a8))
      clear d7 d7a HQ1 h6d
      by_cases hly : y < kn
      case neg =>
        obtain rfl : y = kn := by omega
        have HEE := hid (hE6.trans hE7)
        clear HLS1 HLM1 HIS1 HK11 HK21 HK31
        go_wp2
        go_roundw
        case rel => exact ⟨HEE.out, k + 1, by omega, by go_num⟩
        case measure => simp [intOf]; omega
      have HIS2 := hid (HIS1.out y hly)
      have HK12 := hid (HK11.out y hly)
      have HK22 := hid (HK21.out y hly)
      have HK32 := hid (fun t => HK31.out y t hly)
      clear HIS1 HK11 HK21 HK31
      generalize isOpB rs skies (k : Int) y = ob at *
      have HL1 := hid (HLS1.out A5 c5 (y : Int))
      have HL2 := hid (HLM1.out A6 c6 (y : Int))
      clear HLS1 HLM1
      generalize isInM (y : Int) su = x1 at *
      generalize isInM (y : Int) sm' = x2 at *
      go_wp2_with fail
      refine (HIS2.out _ E).mono ?_
      rintro e w7 ⟨rfl, hE⟩
      have hE8 := hE7.trans hE
      replace E := E.trans hE
      replace HB0 := hid (HB0.out.ext hE)
      replace HB1 := hid (HB1.out.ext hE)
      replace HB2 := hid (HB2.out.ext hE)
      (try replace HB7 := hid (HB7.out.ext hE))
      (try replace HPA := hid (HPA.out.ext hE))
      (try replace HO1 := hid (HO1.out.ext hE))
      (try replace HO2 := hid (HO2.out.ext hE))
      clear hE
      (try clear a0 z0 zE z1 l0 l1 l2 l3 r0 r1 z2)
      (try clear a7 a8 z7)
      have a0 := HB0.out.cell 0
      have z0 := HB0.out.lt
      obtain ⟨l0, l1, l2, l3⟩ : _ ∧ _ ∧ _ ∧ _ := ⟨HB1.out.cell 0, HB1.out.cell 1, HB1.out.cell 2, HB1.out.cell 3⟩
      have z1 := HB1.out.lt
      obtain ⟨r0, r1⟩ : _ ∧ _ := ⟨HB2.out.cell 0, HB2.out.cell 1⟩
      have z2 := HB2.out.lt
      have zE := E.size
      simp only [List.getElem?_toArray, List.getElem?_cons_zero, List.getElem?_cons_succ] at a0 l0 l1 l2 l3 r0 r1
      (try (have a7 := HB7.out.cell 0; have a8 := HB7.out.cell 1; have z7 := HB7.out.lt; simp only [List.getElem?_toArray, List.getElem?_cons_zero, List.getElem?_cons_succ] at a7 a8))
      clear HIS2
      go_wp2_with fail
      refine (HL1.out _ HO1.out).mono ?_
      rintro e w8 ⟨rfl, rfl⟩
      cases ob
      · cases x1
        · clear HL1 HL2 HK12 HK22
          go_wp2
          go_loopw [15] (fun i wr => Ext w8 wr ∧ ∃ t : Nat, 60 * y ≤ t ∧ t ≤ 60 * y + 60 ∧ i = .int .i64 t) (fun i _ => 60 * y + 60 - (intOf i).toNat)
          case atStart => exact ⟨Ext.refl _, 60 * y, Nat.le_refl _, by omega, by congr 1 <;> omega⟩
          case round =>
            obtain ⟨hE, t, ht1, ht2, rfl⟩ := hrel
            have hE9 := hE
            replace E := E.trans hE
            replace HB0 := hid (HB0.out.ext hE)
            replace HB1 := hid (HB1.out.ext hE)
            replace HB2 := hid (HB2.out.ext hE)
            (try replace HB7 := hid (HB7.out.ext hE))
            (try replace HPA := hid (HPA.out.ext hE))
            (try replace HO1 := hid (HO1.out.ext hE))
            (try replace HO2 := hid (HO2.out.ext hE))
            clear hE
            (try clear a0 z0 zE z1 l0 l1 l2 l3 r0 r1 z2)
            (try clear a7 a8 z7)
            have a0 := HB0.out.cell 0
            have z0 := HB0.out.lt
            obtain ⟨l0, l1, l2, l3⟩ : _ ∧ _ ∧ _ ∧ _ := ⟨HB1.out.cell 0, HB1.out.cell 1, HB1.out.cell 2, HB1.out.cell 3⟩
            have z1 := HB1.out.lt
            obtain ⟨r0, r1⟩ : _ ∧ _ := ⟨HB2.out.cell 0, HB2.out.cell 1⟩
            have z2 := HB2.out.lt
            have zE := E.size
            simp only [List.getElem?_toArray, List.getElem?_cons_zero, List.getElem?_cons_succ] at a0 l0 l1 l2 l3 r0 r1
            (try (have a7 := HB7.out.cell 0; have a8 := HB7.out.cell 1; have z7 := HB7.out.lt; simp only [List.getElem?_toArray, List.getElem?_cons_zero, List.getElem?_cons_succ] at a7 a8))
            by_cases hlt3 : t < 60 * y + 60
            case neg =>
              obtain rfl : t = 60 * y + 60 := by omega
              have HEE := hid (hE8.trans hE9)
              clear HK32
              go_wp2
              go_roundw
              case rel => exact ⟨HEE.out, y + 1, by omega, by go_num⟩
              case measure => simp [intOf]; omega
            obtain ⟨b3, f3, B3, g3, hA3, hb3, hpt3⟩ := PathsAt.at_ HPA.out HSL.out hlt
            injection hA3 with hA3
            injection hA3 with hA3 hA4 hA5
            subst hA3 hA4
            obtain ⟨-, -, -, -, -, -, -, d7, -, hop3⟩ := hpt3
            rw [HSO1.out] at d7 hop3
            have HQ1 := hid (HLO.out _ h6le B3 g3 (t : Int) _ hop3)
            clear hop3 hA5
            cases hx3 : isInM (t : Int) sf
            case false =>
              rw [hx3] at HQ1
              clear HK32 hx3
              go_wp2_with fail
              refine (HQ1.out).mono ?_
              rintro e w10 ⟨rfl, rfl⟩
              clear HQ1
              go_wp2
              go_roundw
              case rel => exact ⟨hE9, t + 1, by omega, by omega, by go_num⟩
              case measure => simp [intOf]; omega
            rw [hx3] at HQ1
            exact absurd (HK32.out t ht1 hlt3 hx3).1 (by simp)
        · exact absurd (HK12.out (by first | rfl | trivial)) (by simp)
      · obtain rfl : x2 = true := by first | exact HK22.out rfl | exact HK22.out trivial
        cases x1
        · clear HL1 HK12 HK22
          go_wp2_with fail
          refine (HL2.out _ HO2.out).mono ?_
          rintro e w9 ⟨rfl, rfl⟩
          clear HL2
          go_wp2
          go_loopw [15] (fun i wr => Ext w9 wr ∧ ∃ t : Nat, 60 * y ≤ t ∧ t ≤ 60 * y + 60 ∧ i = .int .i64 t) (fun i _ => 60 * y + 60 - (intOf i).toNat)
          case atStart => exact ⟨Ext.refl _, 60 * y, Nat.le_refl _, by omega, by congr 1 <;> omega⟩
          case round =>
            obtain ⟨hE, t, ht1, ht2, rfl⟩ := hrel
            have hE9 := hE
            replace E := E.trans hE
            replace HB0 := hid (HB0.out.ext hE)
            replace HB1 := hid (HB1.out.ext hE)
            replace HB2 := hid (HB2.out.ext hE)
            (try replace HB7 := hid (HB7.out.ext hE))
            (try replace HPA := hid (HPA.out.ext hE))
            (try replace HO1 := hid (HO1.out.ext hE))
            (try replace HO2 := hid (HO2.out.ext hE))
            clear hE
            (try clear a0 z0 zE z1 l0 l1 l2 l3 r0 r1 z2)
            (try clear a7 a8 z7)
            have a0 := HB0.out.cell 0
            have z0 := HB0.out.lt
            obtain ⟨l0, l1, l2, l3⟩ : _ ∧ _ ∧ _ ∧ _ := ⟨HB1.out.cell 0, HB1.out.cell 1, HB1.out.cell 2, HB1.out.cell 3⟩
            have z1 := HB1.out.lt
            obtain ⟨r0, r1⟩ : _ ∧ _ := ⟨HB2.out.cell 0, HB2.out.cell 1⟩
            have z2 := HB2.out.lt
            have zE := E.size
            simp only [List.getElem?_toArray, List.getElem?_cons_zero, List.getElem?_cons_succ] at a0 l0 l1 l2 l3 r0 r1
            (try (have a7 := HB7.out.cell 0; have a8 := HB7.out.cell 1; have z7 := HB7.out.lt; simp only [List.getElem?_toArray, List.getElem?_cons_zero, List.getElem?_cons_succ] at a7 a8))
            by_cases hlt3 : t < 60 * y + 60
            case neg =>
              obtain rfl : t = 60 * y + 60 := by omega
              have HEE := hid (hE8.trans hE9)
              clear HK32
              go_wp2
              go_roundw
              case rel => exact ⟨HEE.out, y + 1, by omega, by go_num⟩
              case measure => simp [intOf]; omega
            obtain ⟨b3, f3, B3, g3, hA3, hb3, hpt3⟩ := PathsAt.at_ HPA.out HSL.out hlt
            injection hA3 with hA3
            injection hA3 with hA3 hA4 hA5
            subst hA3 hA4
            obtain ⟨-, -, -, -, -, -, -, d7, -, hop3⟩ := hpt3
            rw [HSO1.out] at d7 hop3
            have HQ1 := hid (HLO.out _ h6le B3 g3 (t : Int) _ hop3)
            clear hop3 hA5
            cases hx3 : isInM (t : Int) sf
            case false =>
              rw [hx3] at HQ1
              clear HK32 hx3
              go_wp2_with fail
              refine (HQ1.out).mono ?_
              rintro e w10 ⟨rfl, rfl⟩
              clear HQ1
              go_wp2
              go_roundw
              case rel => exact ⟨hE9, t + 1, by omega, by omega, by go_num⟩
              case measure => simp [intOf]; omega
            rw [hx3] at HQ1
            have hx4 := (HK32.out t ht1 hlt3 hx3).2
            obtain ⟨b2, f2, B2, g2, hA2, hb2, hpt2⟩ := PathsAt.at_ (HNP.out.ext E) HPN.out hlt
            subst hA2
            obtain ⟨-, -, -, -, -, -, -, v7, -, hop2⟩ := hpt2
            have HQ2 := hid (HLO.out _ HP61.out B2 g2 (t : Int) _ hop2)
            clear hop2 HK32
            rw [hx4] at HQ2
            generalize (ps.getD k zeroPt).opens.length = pol at *
            go_wp2_with fail
            refine (HQ1.out).mono ?_
            rintro e w10 ⟨rfl, rfl⟩
            go_wp2_with fail
            refine (HQ2.out).mono ?_
            rintro e w11 ⟨rfl, rfl⟩
            clear HQ1 HQ2
            go_wp2
            go_roundw
            case rel => exact ⟨hE9, t + 1, by omega, by omega, by go_num⟩
            case measure => simp [intOf]; omega
        · clear HL1 HK12 HK22
          go_wp2_with fail
          refine (HL2.out _ HO2.out).mono ?_
          rintro e w9 ⟨rfl, rfl⟩
          clear HL2
          go_wp2
          go_loopw [15] (fun i wr => Ext w9 wr ∧ ∃ t : Nat, 60 * y ≤ t ∧ t ≤ 60 * y + 60 ∧ i = .int .i64 t) (fun i _ => 60 * y + 60 - (intOf i).toNat)
          case atStart => exact ⟨Ext.refl _, 60 * y, Nat.le_refl _, by omega, by congr 1 <;> omega⟩
          case round =>
            obtain ⟨hE, t, ht1, ht2, rfl⟩ := hrel
            have hE9 := hE
            replace E := E.trans hE
            replace HB0 := hid (HB0.out.ext hE)
            replace HB1 := hid (HB1.out.ext hE)
            replace HB2 := hid (HB2.out.ext hE)
            (try replace HB7 := hid (HB7.out.ext hE))
            (try replace HPA := hid (HPA.out.ext hE))
            (try replace HO1 := hid (HO1.out.ext hE))
            (try replace HO2 := hid (HO2.out.ext hE))
            clear hE
            (try clear a0 z0 zE z1 l0 l1 l2 l3 r0 r1 z2)
            (try clear a7 a8 z7)
            have a0 := HB0.out.cell 0
            have z0 := HB0.out.lt
            obtain ⟨l0, l1, l2, l3⟩ : _ ∧ _ ∧ _ ∧ _ := ⟨HB1.out.cell 0, HB1.out.cell 1, HB1.out.cell 2, HB1.out.cell 3⟩
            have z1 := HB1.out.lt
            obtain ⟨r0, r1⟩ : _ ∧ _ := ⟨HB2.out.cell 0, HB2.out.cell 1⟩
            have z2 := HB2.out.lt
            have zE := E.size
            simp only [List.getElem?_toArray, List.getElem?_cons_zero, List.getElem?_cons_succ] at a0 l0 l1 l2 l3 r0 r1
            (try (have a7 := HB7.out.cell 0; have a8 := HB7.out.cell 1; have z7 := HB7.out.lt; simp only [List.getElem?_toArray, List.getElem?_cons_zero, List.getElem?_cons_succ] at a7 a8))
            by_cases hlt3 : t < 60 * y + 60
            case neg =>
              obtain rfl : t = 60 * y + 60 := by omega
              have HEE := hid (hE8.trans hE9)
              clear HK32
              go_wp2
              go_roundw
              case rel => exact ⟨HEE.out, y + 1, by omega, by go_num⟩
              case measure => simp [intOf]; omega
            obtain ⟨b3, f3, B3, g3, hA3, hb3, hpt3⟩ := PathsAt.at_ HPA.out HSL.out hlt
            injection hA3 with hA3
            injection hA3 with hA3 hA4 hA5
            subst hA3 hA4
            obtain ⟨-, -, -, -, -, -, -, d7, -, hop3⟩ := hpt3
            rw [HSO1.out] at d7 hop3
            have HQ1 := hid (HLO.out _ h6le B3 g3 (t : Int) _ hop3)
            clear hop3 hA5
            cases hx3 : isInM (t : Int) sf
            case false =>
              rw [hx3] at HQ1
              clear HK32 hx3
              go_wp2_with fail
              refine (HQ1.out).mono ?_
              rintro e w10 ⟨rfl, rfl⟩
              clear HQ1
              go_wp2
              go_roundw
              case rel => exact ⟨hE9, t + 1, by omega, by omega, by go_num⟩
              case measure => simp [intOf]; omega
            rw [hx3] at HQ1
            have hx4 := (HK32.out t ht1 hlt3 hx3).2
            obtain ⟨b2, f2, B2, g2, hA2, hb2, hpt2⟩ := PathsAt.at_ (HNP.out.ext E) HPN.out hlt
            subst hA2
            obtain ⟨-, -, -, -, -, -, -, v7, -, hop2⟩ := hpt2
            have HQ2 := hid (HLO.out _ HP61.out B2 g2 (t : Int) _ hop2)
            clear hop2 HK32
            rw [hx4] at HQ2
            generalize (ps.getD k zeroPt).opens.length = pol at *
            go_wp2_with fail
            refine (HQ1.out).mono ?_
            rintro e w10 ⟨rfl, rfl⟩
            go_wp2_with fail
            refine (HQ2.out).mono ?_
            rintro e w11 ⟨rfl, rfl⟩
            clear HQ1 HQ2
            go_wp2
            go_roundw
            case rel => exact ⟨hE9, t + 1, by omega, by omega, by go_num⟩
            case measure => simp [intOf]; omega
end Go.Proofs.YtecamnhnjmldcaaGreatDoor
