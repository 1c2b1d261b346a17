/- The law of the window that comes. -/
import Derived.Test.YtcpkdnegmblonaaDoorBTopComes22
import Derived.Test.YtcpkdnegmblonaaDoorB15
set_option linter.unusedSimpArgs false
set_option linter.unusedVariables false
namespace Go.Proofs.YtcpkdnegmblonaaDoor
open Go.RowKit
theorem wthB_ok {f : List (List Hr)} {seen : List Sg} {skies : List Sk} {m : Nat} (hm : seen.length = m) (h : wthB f seen skies = true) : farB f m = false ∧ seenE f seen = 0 ∧ weaB f seen skies = true := by
  unfold wthB at h
  rw [hm] at h
  simp only [Bool.and_eq_true, Bool.not_eq_true', decide_eq_true_eq] at h
  exact h
set_option maxHeartbeats 8000000 in
set_option maxRecDepth 100000 in
theorem comes_any (f : List (List Hr)) (A : Option Addr) (n c : Nat) (seen : List Sg) (SA : Option Addr) (m sc : Nat) (skies : List Sk) (KA : Option Addr) (kn kc : Nat) (hkn : skies.length = kn) (l : Lm) (len : Int) (w : World) (h : AIn w f A n seen SA m) (hks : SksAt w KA skies) :
    Calls Tryd.prog 5 #[.agg #[.slice A n c], .agg #[.slice SA m sc, .slice KA kn kc, .int .i64 l.wind, .int .i64 l.rain, .int .i64 l.tl, .int .i64 l.th, .int .i64 len]] w fun e w' => e = .returned (.bool true) ∧ Ext w w' := by
  have HWK := hid (fun (W : World) (hW : Ext w W) => works_any W (h.wid.ext hW))
  have HLM := hid (fun (W : World) => rLimits_any l W)
  by_cases h60 : 60 < kn
  case pos =>
    obtain ⟨wi, ra, tl, th⟩ := l
    dsimp only at *
    clear h hks hkn HLM
    go_enter Tryd.func5, Tryd.ntmps5
    go_wp2_with fail
    refine (HWK.out _ (by (repeat' (first | with_reducible assumption | with_reducible exact Ext.refl _ | with_reducible refine Ext.alloc ?_ _ | with_reducible refine Ext.set ?_ ?_ _ | with_reducible refine Ext.drew ?_ | with_reducible refine Ext.drewN ?_ _ | with_reducible refine Ext.trans ?_ (by assumption) | (dsimp only; omega))))).mono ?_
    rintro e w9 ⟨rfl, hE9⟩
    have EZ : Ext w w9 := by (repeat' (first | with_reducible assumption | with_reducible exact Ext.refl _ | with_reducible refine Ext.alloc ?_ _ | with_reducible refine Ext.set ?_ ?_ _ | with_reducible refine Ext.drew ?_ | with_reducible refine Ext.drewN ?_ _ | with_reducible refine Ext.trans ?_ (by assumption) | (dsimp only; omega)))
    go_wp2
    go_ret
    exact ⟨rfl, EZ⟩
  have HWT := hid (fun (W : World) (hW : Ext w W) => weathers_any f A n c seen SA m sc skies KA kn kc hkn (by omega) W (h.ext hW) (hks.ext hW))
  cases hwt : wthB f seen skies
  case false =>
    rw [hwt] at HWT
    obtain ⟨wi, ra, tl, th⟩ := l
    dsimp only at *
    clear h hks hkn HLM hwt
    go_enter Tryd.func5, Tryd.ntmps5
    have HB0 := hid (show Blk _ _ _ _ from blk_old (blk_last w (.cells #[.slice A n c] 24)) (.cells #[.slice SA m sc, .slice KA kn kc, .int .i64 wi, .int .i64 ra, .int .i64 tl, .int .i64 th, .int .i64 len] 46))
    have HB1 := hid (show Blk _ _ _ _ from blk_last (w.alloc (.cells #[.slice A n c] 24)) (.cells #[.slice SA m sc, .slice KA kn kc, .int .i64 wi, .int .i64 ra, .int .i64 tl, .int .i64 th, .int .i64 len] 46))
    rw [World.size_alloc] at HB1
    have E : Ext w ((w.alloc (.cells #[.slice A n c] 24)).alloc (.cells #[.slice SA m sc, .slice KA kn kc, .int .i64 wi, .int .i64 ra, .int .i64 tl, .int .i64 th, .int .i64 len] 46)) := by (repeat' (first | with_reducible assumption | with_reducible exact Ext.refl _ | with_reducible refine Ext.alloc ?_ _ | with_reducible refine Ext.set ?_ ?_ _ | with_reducible refine Ext.drew ?_ | with_reducible refine Ext.drewN ?_ _ | with_reducible refine Ext.trans ?_ (by assumption) | (dsimp only; omega)))
    go_wp2_with fail
    refine (HWT.out _ E).mono ?_
    rintro e w2 ⟨rfl, hE⟩
    replace E := E.trans hE
    replace HB0 := hid (HB0.out.ext hE)
    replace HB1 := hid (HB1.out.ext hE)
    clear hE
    (try clear a0 r0 r1 r2 r3 r4 r5 r6 z0 z1)
    have a0 := HB0.out.cell 0
    obtain ⟨r0, r1, r2, r3, r4, r5, r6⟩ : _ ∧ _ ∧ _ ∧ _ ∧ _ ∧ _ ∧ _ := ⟨HB1.out.cell 0, HB1.out.cell 1, HB1.out.cell 2, HB1.out.cell 3, HB1.out.cell 4, HB1.out.cell 5, HB1.out.cell 6⟩
    have z0 := HB0.out.lt
    have z1 := HB1.out.lt
    simp only [List.getElem?_toArray, List.getElem?_cons_zero, List.getElem?_cons_succ] at a0 r0 r1 r2 r3 r4 r5 r6
    go_wp2_with fail
    refine (HWK.out _ (by (repeat' (first | with_reducible assumption | with_reducible exact Ext.refl _ | with_reducible refine Ext.alloc ?_ _ | with_reducible refine Ext.set ?_ ?_ _ | with_reducible refine Ext.drew ?_ | with_reducible refine Ext.drewN ?_ _ | with_reducible refine Ext.trans ?_ (by assumption) | (dsimp only; omega))))).mono ?_
    rintro e w9 ⟨rfl, hE9⟩
    have EZ : Ext w w9 := by (repeat' (first | with_reducible assumption | with_reducible exact Ext.refl _ | with_reducible refine Ext.alloc ?_ _ | with_reducible refine Ext.set ?_ ?_ _ | with_reducible refine Ext.drew ?_ | with_reducible refine Ext.drewN ?_ _ | with_reducible refine Ext.trans ?_ (by assumption) | (dsimp only; omega)))
    go_wp2
    go_ret
    exact ⟨rfl, EZ⟩
  rw [hwt] at HWT
  obtain ⟨hfar, hse, hwe⟩ := wthB_ok h.hl hwt
  cases hlm : lmB l
  case false =>
    rw [hlm] at HLM
    unfold Lm.val at HLM
    obtain ⟨wi, ra, tl, th⟩ := l
    dsimp only at *
    clear h hks hkn hwt hfar hse hwe hlm
    go_enter Tryd.func5, Tryd.ntmps5
    have HB0 := hid (show Blk _ _ _ _ from blk_old (blk_last w (.cells #[.slice A n c] 24)) (.cells #[.slice SA m sc, .slice KA kn kc, .int .i64 wi, .int .i64 ra, .int .i64 tl, .int .i64 th, .int .i64 len] 46))
    have HB1 := hid (show Blk _ _ _ _ from blk_last (w.alloc (.cells #[.slice A n c] 24)) (.cells #[.slice SA m sc, .slice KA kn kc, .int .i64 wi, .int .i64 ra, .int .i64 tl, .int .i64 th, .int .i64 len] 46))
    rw [World.size_alloc] at HB1
    have E : Ext w ((w.alloc (.cells #[.slice A n c] 24)).alloc (.cells #[.slice SA m sc, .slice KA kn kc, .int .i64 wi, .int .i64 ra, .int .i64 tl, .int .i64 th, .int .i64 len] 46)) := by (repeat' (first | with_reducible assumption | with_reducible exact Ext.refl _ | with_reducible refine Ext.alloc ?_ _ | with_reducible refine Ext.set ?_ ?_ _ | with_reducible refine Ext.drew ?_ | with_reducible refine Ext.drewN ?_ _ | with_reducible refine Ext.trans ?_ (by assumption) | (dsimp only; omega)))
    go_wp2_with fail
    refine (HWT.out _ E).mono ?_
    rintro e w2 ⟨rfl, hE⟩
    replace E := E.trans hE
    replace HB0 := hid (HB0.out.ext hE)
    replace HB1 := hid (HB1.out.ext hE)
    clear hE
    (try clear a0 r0 r1 r2 r3 r4 r5 r6 z0 z1)
    have a0 := HB0.out.cell 0
    obtain ⟨r0, r1, r2, r3, r4, r5, r6⟩ : _ ∧ _ ∧ _ ∧ _ ∧ _ ∧ _ ∧ _ := ⟨HB1.out.cell 0, HB1.out.cell 1, HB1.out.cell 2, HB1.out.cell 3, HB1.out.cell 4, HB1.out.cell 5, HB1.out.cell 6⟩
    have z0 := HB0.out.lt
    have z1 := HB1.out.lt
    simp only [List.getElem?_toArray, List.getElem?_cons_zero, List.getElem?_cons_succ] at a0 r0 r1 r2 r3 r4 r5 r6
    go_wp2_with fail
    refine (HLM.out _).mono ?_
    rintro e w2 ⟨rfl, hE⟩
    replace E := E.trans hE
    replace HB0 := hid (HB0.out.ext hE)
    replace HB1 := hid (HB1.out.ext hE)
    clear hE
    (try clear a0 r0 r1 r2 r3 r4 r5 r6 z0 z1)
    have a0 := HB0.out.cell 0
    obtain ⟨r0, r1, r2, r3, r4, r5, r6⟩ : _ ∧ _ ∧ _ ∧ _ ∧ _ ∧ _ ∧ _ := ⟨HB1.out.cell 0, HB1.out.cell 1, HB1.out.cell 2, HB1.out.cell 3, HB1.out.cell 4, HB1.out.cell 5, HB1.out.cell 6⟩
    have z0 := HB0.out.lt
    have z1 := HB1.out.lt
    simp only [List.getElem?_toArray, List.getElem?_cons_zero, List.getElem?_cons_succ] at a0 r0 r1 r2 r3 r4 r5 r6
    go_wp2_with fail
    refine (HWK.out _ (by (repeat' (first | with_reducible assumption | with_reducible exact Ext.refl _ | with_reducible refine Ext.alloc ?_ _ | with_reducible refine Ext.set ?_ ?_ _ | with_reducible refine Ext.drew ?_ | with_reducible refine Ext.drewN ?_ _ | with_reducible refine Ext.trans ?_ (by assumption) | (dsimp only; omega))))).mono ?_
    rintro e w9 ⟨rfl, hE9⟩
    have EZ : Ext w w9 := by (repeat' (first | with_reducible assumption | with_reducible exact Ext.refl _ | with_reducible refine Ext.alloc ?_ _ | with_reducible refine Ext.set ?_ ?_ _ | with_reducible refine Ext.drew ?_ | with_reducible refine Ext.drewN ?_ _ | with_reducible refine Ext.trans ?_ (by assumption) | (dsimp only; omega)))
    go_wp2
    go_ret
    exact ⟨rfl, EZ⟩
  rw [hlm] at HLM
  by_cases hl1 : len < 1
  case pos =>
    unfold Lm.val at HLM
    obtain ⟨wi, ra, tl, th⟩ := l
    dsimp only at *
    clear h hks hkn hwt hfar hse hwe hlm
    go_enter Tryd.func5, Tryd.ntmps5
    have HB0 := hid (show Blk _ _ _ _ from blk_old (blk_last w (.cells #[.slice A n c] 24)) (.cells #[.slice SA m sc, .slice KA kn kc, .int .i64 wi, .int .i64 ra, .int .i64 tl, .int .i64 th, .int .i64 len] 46))
    have HB1 := hid (show Blk _ _ _ _ from blk_last (w.alloc (.cells #[.slice A n c] 24)) (.cells #[.slice SA m sc, .slice KA kn kc, .int .i64 wi, .int .i64 ra, .int .i64 tl, .int .i64 th, .int .i64 len] 46))
    rw [World.size_alloc] at HB1
    have E : Ext w ((w.alloc (.cells #[.slice A n c] 24)).alloc (.cells #[.slice SA m sc, .slice KA kn kc, .int .i64 wi, .int .i64 ra, .int .i64 tl, .int .i64 th, .int .i64 len] 46)) := by (repeat' (first | with_reducible assumption | with_reducible exact Ext.refl _ | with_reducible refine Ext.alloc ?_ _ | with_reducible refine Ext.set ?_ ?_ _ | with_reducible refine Ext.drew ?_ | with_reducible refine Ext.drewN ?_ _ | with_reducible refine Ext.trans ?_ (by assumption) | (dsimp only; omega)))
    go_wp2_with fail
    refine (HWT.out _ E).mono ?_
    rintro e w2 ⟨rfl, hE⟩
    replace E := E.trans hE
    replace HB0 := hid (HB0.out.ext hE)
    replace HB1 := hid (HB1.out.ext hE)
    clear hE
    (try clear a0 r0 r1 r2 r3 r4 r5 r6 z0 z1)
    have a0 := HB0.out.cell 0
    obtain ⟨r0, r1, r2, r3, r4, r5, r6⟩ : _ ∧ _ ∧ _ ∧ _ ∧ _ ∧ _ ∧ _ := ⟨HB1.out.cell 0, HB1.out.cell 1, HB1.out.cell 2, HB1.out.cell 3, HB1.out.cell 4, HB1.out.cell 5, HB1.out.cell 6⟩
    have z0 := HB0.out.lt
    have z1 := HB1.out.lt
    simp only [List.getElem?_toArray, List.getElem?_cons_zero, List.getElem?_cons_succ] at a0 r0 r1 r2 r3 r4 r5 r6
    go_wp2_with fail
    refine (HLM.out _).mono ?_
    rintro e w2 ⟨rfl, hE⟩
    replace E := E.trans hE
    replace HB0 := hid (HB0.out.ext hE)
    replace HB1 := hid (HB1.out.ext hE)
    clear hE
    (try clear a0 r0 r1 r2 r3 r4 r5 r6 z0 z1)
    have a0 := HB0.out.cell 0
    obtain ⟨r0, r1, r2, r3, r4, r5, r6⟩ : _ ∧ _ ∧ _ ∧ _ ∧ _ ∧ _ ∧ _ := ⟨HB1.out.cell 0, HB1.out.cell 1, HB1.out.cell 2, HB1.out.cell 3, HB1.out.cell 4, HB1.out.cell 5, HB1.out.cell 6⟩
    have z0 := HB0.out.lt
    have z1 := HB1.out.lt
    simp only [List.getElem?_toArray, List.getElem?_cons_zero, List.getElem?_cons_succ] at a0 r0 r1 r2 r3 r4 r5 r6
    go_wp2_with fail
    refine (HWK.out _ (by (repeat' (first | with_reducible assumption | with_reducible exact Ext.refl _ | with_reducible refine Ext.alloc ?_ _ | with_reducible refine Ext.set ?_ ?_ _ | with_reducible refine Ext.drew ?_ | with_reducible refine Ext.drewN ?_ _ | with_reducible refine Ext.trans ?_ (by assumption) | (dsimp only; omega))))).mono ?_
    rintro e w9 ⟨rfl, hE9⟩
    have EZ : Ext w w9 := by (repeat' (first | with_reducible assumption | with_reducible exact Ext.refl _ | with_reducible refine Ext.alloc ?_ _ | with_reducible refine Ext.set ?_ ?_ _ | with_reducible refine Ext.drew ?_ | with_reducible refine Ext.drewN ?_ _ | with_reducible refine Ext.trans ?_ (by assumption) | (dsimp only; omega)))
    go_wp2
    go_ret
    exact ⟨rfl, EZ⟩
  by_cases hl2 : 48 < len
  case pos =>
    unfold Lm.val at HLM
    obtain ⟨wi, ra, tl, th⟩ := l
    dsimp only at *
    clear h hks hkn hwt hfar hse hwe hlm
    go_enter Tryd.func5, Tryd.ntmps5
    have HB0 := hid (show Blk _ _ _ _ from blk_old (blk_last w (.cells #[.slice A n c] 24)) (.cells #[.slice SA m sc, .slice KA kn kc, .int .i64 wi, .int .i64 ra, .int .i64 tl, .int .i64 th, .int .i64 len] 46))
    have HB1 := hid (show Blk _ _ _ _ from blk_last (w.alloc (.cells #[.slice A n c] 24)) (.cells #[.slice SA m sc, .slice KA kn kc, .int .i64 wi, .int .i64 ra, .int .i64 tl, .int .i64 th, .int .i64 len] 46))
    rw [World.size_alloc] at HB1
    have E : Ext w ((w.alloc (.cells #[.slice A n c] 24)).alloc (.cells #[.slice SA m sc, .slice KA kn kc, .int .i64 wi, .int .i64 ra, .int .i64 tl, .int .i64 th, .int .i64 len] 46)) := by (repeat' (first | with_reducible assumption | with_reducible exact Ext.refl _ | with_reducible refine Ext.alloc ?_ _ | with_reducible refine Ext.set ?_ ?_ _ | with_reducible refine Ext.drew ?_ | with_reducible refine Ext.drewN ?_ _ | with_reducible refine Ext.trans ?_ (by assumption) | (dsimp only; omega)))
    go_wp2_with fail
    refine (HWT.out _ E).mono ?_
    rintro e w2 ⟨rfl, hE⟩
    replace E := E.trans hE
    replace HB0 := hid (HB0.out.ext hE)
    replace HB1 := hid (HB1.out.ext hE)
    clear hE
    (try clear a0 r0 r1 r2 r3 r4 r5 r6 z0 z1)
    have a0 := HB0.out.cell 0
    obtain ⟨r0, r1, r2, r3, r4, r5, r6⟩ : _ ∧ _ ∧ _ ∧ _ ∧ _ ∧ _ ∧ _ := ⟨HB1.out.cell 0, HB1.out.cell 1, HB1.out.cell 2, HB1.out.cell 3, HB1.out.cell 4, HB1.out.cell 5, HB1.out.cell 6⟩
    have z0 := HB0.out.lt
    have z1 := HB1.out.lt
    simp only [List.getElem?_toArray, List.getElem?_cons_zero, List.getElem?_cons_succ] at a0 r0 r1 r2 r3 r4 r5 r6
    go_wp2_with fail
    refine (HLM.out _).mono ?_
    rintro e w2 ⟨rfl, hE⟩
    replace E := E.trans hE
    replace HB0 := hid (HB0.out.ext hE)
    replace HB1 := hid (HB1.out.ext hE)
    clear hE
    (try clear a0 r0 r1 r2 r3 r4 r5 r6 z0 z1)
    have a0 := HB0.out.cell 0
    obtain ⟨r0, r1, r2, r3, r4, r5, r6⟩ : _ ∧ _ ∧ _ ∧ _ ∧ _ ∧ _ ∧ _ := ⟨HB1.out.cell 0, HB1.out.cell 1, HB1.out.cell 2, HB1.out.cell 3, HB1.out.cell 4, HB1.out.cell 5, HB1.out.cell 6⟩
    have z0 := HB0.out.lt
    have z1 := HB1.out.lt
    simp only [List.getElem?_toArray, List.getElem?_cons_zero, List.getElem?_cons_succ] at a0 r0 r1 r2 r3 r4 r5 r6
    go_wp2_with fail
    refine (HWK.out _ (by (repeat' (first | with_reducible assumption | with_reducible exact Ext.refl _ | with_reducible refine Ext.alloc ?_ _ | with_reducible refine Ext.set ?_ ?_ _ | with_reducible refine Ext.drew ?_ | with_reducible refine Ext.drewN ?_ _ | with_reducible refine Ext.trans ?_ (by assumption) | (dsimp only; omega))))).mono ?_
    rintro e w9 ⟨rfl, hE9⟩
    have EZ : Ext w w9 := by (repeat' (first | with_reducible assumption | with_reducible exact Ext.refl _ | with_reducible refine Ext.alloc ?_ _ | with_reducible refine Ext.set ?_ ?_ _ | with_reducible refine Ext.drew ?_ | with_reducible refine Ext.drewN ?_ _ | with_reducible refine Ext.trans ?_ (by assumption) | (dsimp only; omega)))
    go_wp2
    go_ret
    exact ⟨rfl, EZ⟩
  obtain ⟨ln, rfl⟩ : ∃ ln : Nat, len = ln := ⟨len.toNat, by omega⟩
  have hln1 : 1 ≤ ln := by omega
  have hln2 : ln ≤ 48 := by omega
  have ok := comes_ok hln1 hln2 hse hwe hlm
  have hF := fun (W : World) (hW : Ext w W) => (h.fin hfar).ext hW
  have HWD := hid (fun (W : World) (hW : Ext w W) => pwindow_any f A n c seen SA m sc l ln W (hF W hW))
  have HGP := hid (fun (W : World) (hW : Ext w W) => gapP_any f A n c seen SA m sc l ln W (hF W hW))
  have HKP := hid (fun (W : World) (hW : Ext w W) => keptL_any skies KA kn kc hkn (by omega) l W (hks.ext hW))
  have HBG := hid (fun (LA : Option Addr) (lc : Nat) (W : World) (hb : BosAt W LA (keptL skies l)) => begin_anyB (keptL skies l) LA kn lc (by rw [keptL_len]; exact hkn) (by omega) ln hln1 (by omega) W hb)
  have HLK := hid (fun (LA : Option Addr) (lc : Nat) (hc : kn ≤ lc) (W : World) (hb : BosAt W LA (keptL skies l)) => lacks_any (keptL skies l) LA kn lc (by rw [keptL_len]; exact hkn) hc (by omega) ln hln1 (by omega) W hb)
  obtain ⟨g0, g1, g2, g3, g4, g5⟩ := ok
  rw [g0] at HWD HGP
  clear h hks hkn hwt hfar hse hwe hlm hF g0
  unfold Lm.val at HLM HWD HGP HKP
  generalize keptL skies l = L at *
  generalize firstV f seen l ln = fv at *
  generalize lastV f seen l ln = lv at *
  generalize gapV f seen l ln = gv at *
  generalize begV L ln = bv at *
  generalize lackV L ln = lk at *
  obtain ⟨wi, ra, tl, th⟩ := l
  dsimp only at *
  go_enter Tryd.func5, Tryd.ntmps5
  have HB0 := hid (show Blk _ _ _ _ from blk_old (blk_last w (.cells #[.slice A n c] 24)) (.cells #[.slice SA m sc, .slice KA kn kc, .int .i64 wi, .int .i64 ra, .int .i64 tl, .int .i64 th, .int .i64 (ln : Int)] 46))
  have HB1 := hid (show Blk _ _ _ _ from blk_last (w.alloc (.cells #[.slice A n c] 24)) (.cells #[.slice SA m sc, .slice KA kn kc, .int .i64 wi, .int .i64 ra, .int .i64 tl, .int .i64 th, .int .i64 (ln : Int)] 46))
  rw [World.size_alloc] at HB1
  have E : Ext w ((w.alloc (.cells #[.slice A n c] 24)).alloc (.cells #[.slice SA m sc, .slice KA kn kc, .int .i64 wi, .int .i64 ra, .int .i64 tl, .int .i64 th, .int .i64 (ln : Int)] 46)) := by (repeat' (first | with_reducible assumption | with_reducible exact Ext.refl _ | with_reducible refine Ext.alloc ?_ _ | with_reducible refine Ext.set ?_ ?_ _ | with_reducible refine Ext.drew ?_ | with_reducible refine Ext.drewN ?_ _ | with_reducible refine Ext.trans ?_ (by assumption) | (dsimp only; omega)))
  go_wp2_with fail
  refine (HWT.out _ E).mono ?_
  rintro e w2 ⟨rfl, hE⟩
  replace E := E.trans hE
  replace HB0 := hid (HB0.out.ext hE)
  replace HB1 := hid (HB1.out.ext hE)
  clear hE
  (try clear a0 r0 r1 r2 r3 r4 r5 r6 z0 z1)
  have a0 := HB0.out.cell 0
  obtain ⟨r0, r1, r2, r3, r4, r5, r6⟩ : _ ∧ _ ∧ _ ∧ _ ∧ _ ∧ _ ∧ _ := ⟨HB1.out.cell 0, HB1.out.cell 1, HB1.out.cell 2, HB1.out.cell 3, HB1.out.cell 4, HB1.out.cell 5, HB1.out.cell 6⟩
  have z0 := HB0.out.lt
  have z1 := HB1.out.lt
  simp only [List.getElem?_toArray, List.getElem?_cons_zero, List.getElem?_cons_succ] at a0 r0 r1 r2 r3 r4 r5 r6
  go_wp2_with fail
  refine (HLM.out _).mono ?_
  rintro e w3 ⟨rfl, hE⟩
  replace E := E.trans hE
  replace HB0 := hid (HB0.out.ext hE)
  replace HB1 := hid (HB1.out.ext hE)
  clear hE
  (try clear a0 r0 r1 r2 r3 r4 r5 r6 z0 z1)
  have a0 := HB0.out.cell 0
  obtain ⟨r0, r1, r2, r3, r4, r5, r6⟩ : _ ∧ _ ∧ _ ∧ _ ∧ _ ∧ _ ∧ _ := ⟨HB1.out.cell 0, HB1.out.cell 1, HB1.out.cell 2, HB1.out.cell 3, HB1.out.cell 4, HB1.out.cell 5, HB1.out.cell 6⟩
  have z0 := HB0.out.lt
  have z1 := HB1.out.lt
  simp only [List.getElem?_toArray, List.getElem?_cons_zero, List.getElem?_cons_succ] at a0 r0 r1 r2 r3 r4 r5 r6
  go_wp2_with fail
  refine (HWD.out _ E).mono ?_
  rintro e w4 ⟨rfl, hE⟩
  replace E := E.trans hE
  replace HB0 := hid (HB0.out.ext hE)
  replace HB1 := hid (HB1.out.ext hE)
  clear hE
  (try clear a0 r0 r1 r2 r3 r4 r5 r6 z0 z1)
  have a0 := HB0.out.cell 0
  obtain ⟨r0, r1, r2, r3, r4, r5, r6⟩ : _ ∧ _ ∧ _ ∧ _ ∧ _ ∧ _ ∧ _ := ⟨HB1.out.cell 0, HB1.out.cell 1, HB1.out.cell 2, HB1.out.cell 3, HB1.out.cell 4, HB1.out.cell 5, HB1.out.cell 6⟩
  have z0 := HB0.out.lt
  have z1 := HB1.out.lt
  simp only [List.getElem?_toArray, List.getElem?_cons_zero, List.getElem?_cons_succ] at a0 r0 r1 r2 r3 r4 r5 r6
  clear HWT HLM HWD
  go_wp2_with fail
  refine (HGP.out _ E).mono ?_
  rintro e w5 ⟨rfl, hE⟩
  replace E := E.trans hE
  replace HB0 := hid (HB0.out.ext hE)
  replace HB1 := hid (HB1.out.ext hE)
  clear hE
  (try clear a0 r0 r1 r2 r3 r4 r5 r6 z0 z1)
  have a0 := HB0.out.cell 0
  obtain ⟨r0, r1, r2, r3, r4, r5, r6⟩ : _ ∧ _ ∧ _ ∧ _ ∧ _ ∧ _ ∧ _ := ⟨HB1.out.cell 0, HB1.out.cell 1, HB1.out.cell 2, HB1.out.cell 3, HB1.out.cell 4, HB1.out.cell 5, HB1.out.cell 6⟩
  have z0 := HB0.out.lt
  have z1 := HB1.out.lt
  simp only [List.getElem?_toArray, List.getElem?_cons_zero, List.getElem?_cons_succ] at a0 r0 r1 r2 r3 r4 r5 r6
  go_wp2_with fail
  refine (HKP.out _ E).mono ?_
  rintro e w6 ⟨LA, lc, rfl, hlc, hbo, hE⟩
  replace E := E.trans hE
  replace HB0 := hid (HB0.out.ext hE)
  replace HB1 := hid (HB1.out.ext hE)
  clear hE
  (try clear a0 r0 r1 r2 r3 r4 r5 r6 z0 z1)
  have a0 := HB0.out.cell 0
  obtain ⟨r0, r1, r2, r3, r4, r5, r6⟩ : _ ∧ _ ∧ _ ∧ _ ∧ _ ∧ _ ∧ _ := ⟨HB1.out.cell 0, HB1.out.cell 1, HB1.out.cell 2, HB1.out.cell 3, HB1.out.cell 4, HB1.out.cell 5, HB1.out.cell 6⟩
  have z0 := HB0.out.lt
  have z1 := HB1.out.lt
  simp only [List.getElem?_toArray, List.getElem?_cons_zero, List.getElem?_cons_succ] at a0 r0 r1 r2 r3 r4 r5 r6
  clear HGP HKP
  have HBO := hid hbo
  clear hbo
  go_wp2_with fail
  refine (HBG.out LA lc _ HBO.out).mono ?_
  rintro e w7 ⟨rfl, rfl⟩
  clear HBG
  have HLK2 := hid (HLK.out LA lc hlc _ HBO.out)
  clear HLK HBO
  by_cases hf : fv < 0
  · have hb := g1 hf
    have hv : lv < 0 := by
      by_cases hv : 0 ≤ lv
      · have := (g3 hv).1; omega
      · omega
    by_cases hfl : lv < fv
    · clear g1 g2 g3 g4
      go_wp2_with fail
      refine HLK2.out.mono ?_
      rintro e w8 ⟨rfl, rfl⟩
      go_wp2_with fail
      refine (HWK.out _ (by (repeat' (first | with_reducible assumption | with_reducible exact Ext.refl _ | with_reducible refine Ext.alloc ?_ _ | with_reducible refine Ext.set ?_ ?_ _ | with_reducible refine Ext.drew ?_ | with_reducible refine Ext.drewN ?_ _ | with_reducible refine Ext.trans ?_ (by assumption) | (dsimp only; omega))))).mono ?_
      rintro e w9 ⟨rfl, hE9⟩
      have EZ : Ext w w9 := by (repeat' (first | with_reducible assumption | with_reducible exact Ext.refl _ | with_reducible refine Ext.alloc ?_ _ | with_reducible refine Ext.set ?_ ?_ _ | with_reducible refine Ext.drew ?_ | with_reducible refine Ext.drewN ?_ _ | with_reducible refine Ext.trans ?_ (by assumption) | (dsimp only; omega)))
      go_wp2
      go_ret
      exact ⟨rfl, EZ⟩
    · clear g1 g2 g3 g4
      go_wp2_with fail
      refine HLK2.out.mono ?_
      rintro e w8 ⟨rfl, rfl⟩
      go_wp2_with fail
      refine (HWK.out _ (by (repeat' (first | with_reducible assumption | with_reducible exact Ext.refl _ | with_reducible refine Ext.alloc ?_ _ | with_reducible refine Ext.set ?_ ?_ _ | with_reducible refine Ext.drew ?_ | with_reducible refine Ext.drewN ?_ _ | with_reducible refine Ext.trans ?_ (by assumption) | (dsimp only; omega))))).mono ?_
      rintro e w9 ⟨rfl, hE9⟩
      have EZ : Ext w w9 := by (repeat' (first | with_reducible assumption | with_reducible exact Ext.refl _ | with_reducible refine Ext.alloc ?_ _ | with_reducible refine Ext.set ?_ ?_ _ | with_reducible refine Ext.drew ?_ | with_reducible refine Ext.drewN ?_ _ | with_reducible refine Ext.trans ?_ (by assumption) | (dsimp only; omega)))
      go_wp2
      go_ret
      exact ⟨rfl, EZ⟩
  · by_cases hb : bv < 0
    · have hv : lv < 0 := by
        by_cases hv : 0 ≤ lv
        · have := (g3 hv).1; omega
        · omega
      have hfl : lv < fv := by omega
      clear g1 g2 g3 g4
      go_wp2_with fail
      refine HLK2.out.mono ?_
      rintro e w8 ⟨rfl, rfl⟩
      go_wp2_with fail
      refine (HWK.out _ (by (repeat' (first | with_reducible assumption | with_reducible exact Ext.refl _ | with_reducible refine Ext.alloc ?_ _ | with_reducible refine Ext.set ?_ ?_ _ | with_reducible refine Ext.drew ?_ | with_reducible refine Ext.drewN ?_ _ | with_reducible refine Ext.trans ?_ (by assumption) | (dsimp only; omega))))).mono ?_
      rintro e w9 ⟨rfl, hE9⟩
      have EZ : Ext w w9 := by (repeat' (first | with_reducible assumption | with_reducible exact Ext.refl _ | with_reducible refine Ext.alloc ?_ _ | with_reducible refine Ext.set ?_ ?_ _ | with_reducible refine Ext.drew ?_ | with_reducible refine Ext.drewN ?_ _ | with_reducible refine Ext.trans ?_ (by assumption) | (dsimp only; omega)))
      go_wp2
      go_ret
      exact ⟨rfl, EZ⟩
    · have hbf : ¬ bv < fv := by have := g2 (by omega) (by omega); omega
      by_cases hv : lv < 0
      · have hfl : lv < fv := by omega
        clear g1 g2 g3 g4
        go_wp2_with fail
        refine HLK2.out.mono ?_
        rintro e w8 ⟨rfl, rfl⟩
        go_wp2_with fail
        refine (HWK.out _ (by (repeat' (first | with_reducible assumption | with_reducible exact Ext.refl _ | with_reducible refine Ext.alloc ?_ _ | with_reducible refine Ext.set ?_ ?_ _ | with_reducible refine Ext.drew ?_ | with_reducible refine Ext.drewN ?_ _ | with_reducible refine Ext.trans ?_ (by assumption) | (dsimp only; omega))))).mono ?_
        rintro e w9 ⟨rfl, hE9⟩
        have EZ : Ext w w9 := by (repeat' (first | with_reducible assumption | with_reducible exact Ext.refl _ | with_reducible refine Ext.alloc ?_ _ | with_reducible refine Ext.set ?_ ?_ _ | with_reducible refine Ext.drew ?_ | with_reducible refine Ext.drewN ?_ _ | with_reducible refine Ext.trans ?_ (by assumption) | (dsimp only; omega)))
        go_wp2
        go_ret
        exact ⟨rfl, EZ⟩
      · have hbl : ¬ lv < bv := by have := (g3 (by omega)).2; omega
        have hfl : ¬ lv < fv := by have := g4 (by omega); omega
        clear g1 g2 g3 g4
        go_wp2_with fail
        refine HLK2.out.mono ?_
        rintro e w8 ⟨rfl, rfl⟩
        go_wp2_with fail
        refine (HWK.out _ (by (repeat' (first | with_reducible assumption | with_reducible exact Ext.refl _ | with_reducible refine Ext.alloc ?_ _ | with_reducible refine Ext.set ?_ ?_ _ | with_reducible refine Ext.drew ?_ | with_reducible refine Ext.drewN ?_ _ | with_reducible refine Ext.trans ?_ (by assumption) | (dsimp only; omega))))).mono ?_
        rintro e w9 ⟨rfl, hE9⟩
        have EZ : Ext w w9 := by (repeat' (first | with_reducible assumption | with_reducible exact Ext.refl _ | with_reducible refine Ext.alloc ?_ _ | with_reducible refine Ext.set ?_ ?_ _ | with_reducible refine Ext.drew ?_ | with_reducible refine Ext.drewN ?_ _ | with_reducible refine Ext.trans ?_ (by assumption) | (dsimp only; omega)))
        go_wp2
        go_ret
        exact ⟨rfl, EZ⟩
end Go.Proofs.YtcpkdnegmblonaaDoor
