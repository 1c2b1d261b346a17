/- The law of the window that comes. -/
import Derived.Test.YtcpkdnegmblonaaDoorBTopTrue22
import Derived.Test.YtcpkdnegmblonaaDoorB15
import Derived.Test.YtcpkdnegmblonaaDoorB21
import Derived.Test.YtcpkdnegmblonaaDoorTie
import Derived.Test.YtcpkdnegmblonaaDoorCards
import Derived.ProofKit
import Derived.LaidMore
import Derived.OpenShut
import Derived.ChangeOld
import Derived.Below
import Derived.Stop.Joined
import Derived.Stop.LaidErr
import Derived.SevenTiedAt
set_option linter.unusedSimpArgs false
set_option linter.unusedVariables false
namespace Go.Proofs.YtcpkdnegmblonaaDoor
open Go.RowKit
theorem wthB_ok {f : List (List Hr)} {seen : List Sg} {skies : List Sk} {m : Nat} (hm : seen.length = m) (h : wthB f seen skies = true) : farB f m = false ∧ seenE f seen = 0 ∧ weaB f seen skies = true := by
  unfold wthB at h
  rw [hm] at h
  simp only [Bool.and_eq_true, Bool.not_eq_true', decide_eq_true_eq] at h
  exact h
set_option maxHeartbeats 8000000 in
set_option maxRecDepth 100000 in
theorem comes_any (f : List (List Hr)) (A : Option Addr) (n c : Nat) (seen : List Sg) (SA : Option Addr) (m sc : Nat) (skies : List Sk) (KA : Option Addr) (kn kc : Nat) (hkn : skies.length = kn) (l : Lm) (len : Int) (w : World) (h : AIn w f A n seen SA m) (hks : SksAt w KA skies) :
    Calls Tryd.prog 5 #[.agg #[.slice A n c], .agg #[.slice SA m sc, .slice KA kn kc, .int .i64 l.wind, .int .i64 l.rain, .int .i64 l.tl, .int .i64 l.th, .int .i64 len]] w fun e w' => e = .returned (.bool true) ∧ Ext w w' := by
  have HWK := hid (fun (W : World) (hW : Ext w W) => works_any W (h.wid.ext hW))
  have HLM := hid (fun (W : World) => rLimits_any l W)
  by_cases h60 : 60 < kn
  case pos =>
    obtain ⟨wi, ra, tl, th⟩ := l
    dsimp only at *
    clear h hks hkn HLM
    go_enter Tryd.func5, Tryd.ntmps5
    go_wp2_with fail
    refine (HWK.out _ (by (repeat' (first | with_reducible assumption | with_reducible exact Ext.refl _ | with_reducible refine Ext.alloc ?_ _ | with_reducible refine Ext.set ?_ ?_ _ | with_reducible refine Ext.drew ?_ | with_reducible refine Ext.drewN ?_ _ | with_reducible refine Ext.trans ?_ (by assumption) | (dsimp only; omega))))).mono ?_
    rintro e w9 ⟨rfl, hE9⟩
    have EZ : Ext w w9 := by (repeat' (first | with_reducible assumption | with_reducible exact Ext.refl _ | with_reducible refine Ext.alloc ?_ _ | with_reducible refine Ext.set ?_ ?_ _ | with_reducible refine Ext.drew ?_ | with_reducible refine Ext.drewN ?_ _ | with_reducible refine Ext.trans ?_ (by assumption) | (dsimp only; omega)))
    go_wp2
    go_ret
    exact ⟨rfl, EZ⟩
  have HWT := hid (fun (W : World) (hW : Ext w W) => weathers_any f A n c seen SA m sc skies KA kn kc hkn (by omega) W (h.ext hW) (hks.ext hW))
  cases hwt : wthB f seen skies
  case false =>
    rw [hwt] at HWT
    obtain ⟨wi, ra, tl, th⟩ := l
    dsimp only at *
    clear h hks hkn HLM hwt
    go_enter Tryd.func5, Tryd.ntmps5
    have HB0 := hid (show Blk _ _ _ _ from blk_old (blk_last w (.cells #[.slice A n c] 24)) (.cells #[.slice SA m sc, .slice KA kn kc, .int .i64 wi, .int .i64 ra, .int .i64 tl, .int .i64 th, .int .i64 len] 46))
    have HB1 := hid (show Blk _ _ _ _ from blk_last (w.alloc (.cells #[.slice A n c] 24)) (.cells #[.slice SA m sc, .slice KA kn kc, .int .i64 wi, .int .i64 ra, .int .i64 tl, .int .i64 th, .int .i64 len] 46))
    rw [World.size_alloc] at HB1
    have E : Ext w ((w.alloc (.cells #[.slice A n c] 24)).alloc (.cells #[.slice SA m sc, .slice KA kn kc, .int .i64 wi, .int .i64 ra, .int .i64 tl, .int .i64 th, .int .i64 len] 46)) := by (repeat' (first | with_reducible assumption | with_reducible exact Ext.refl _ | with_reducible refine Ext.alloc ?_ _ | with_reducible refine Ext.set ?_ ?_ _ | with_reducible refine Ext.drew ?_ | with_reducible refine Ext.drewN ?_ _ | with_reducible refine Ext.trans ?_ (by assumption) | (dsimp only; omega)))
    go_wp2_with fail
    refine (HWT.out _ E).mono ?_
    rintro e w2 ⟨rfl, hE⟩
    replace E := E.trans hE
    replace HB0 := hid (HB0.out.ext hE)
    replace HB1 := hid (HB1.out.ext hE)
    clear hE
    (try clear a0 r0 r1 r2 r3 r4 r5 r6 z0 z1)
    have a0 := HB0.out.cell 0
    obtain ⟨r0, r1, r2, r3, r4, r5, r6⟩ : _ ∧ _ ∧ _ ∧ _ ∧ _ ∧ _ ∧ _ := ⟨HB1.out.cell 0, HB1.out.cell 1, HB1.out.cell 2, HB1.out.cell 3, HB1.out.cell 4, HB1.out.cell 5, HB1.out.cell 6⟩
    have z0 := HB0.out.lt
    have z1 := HB1.out.lt
    simp only [List.getElem?_toArray, List.getElem?_cons_zero, List.getElem?_cons_succ] at a0 r0 r1 r2 r3 r4 r5 r6
    go_wp2_with fail
    refine (HWK.out _ (by (repeat' (first | with_reducible assumption | with_reducible exact Ext.refl _ | with_reducible refine Ext.alloc ?_ _ | with_reducible refine Ext.set ?_ ?_ _ | with_reducible refine Ext.drew ?_ | with_reducible refine Ext.drewN ?_ _ | with_reducible refine Ext.trans ?_ (by assumption) | (dsimp only; omega))))).mono ?_
    rintro e w9 ⟨rfl, hE9⟩
    have EZ : Ext w w9 := by (repeat' (first | with_reducible assumption | with_reducible exact Ext.refl _ | with_reducible refine Ext.alloc ?_ _ | with_reducible refine Ext.set ?_ ?_ _ | with_reducible refine Ext.drew ?_ | with_reducible refine Ext.drewN ?_ _ | with_reducible refine Ext.trans ?_ (by assumption) | (dsimp only; omega)))
    go_wp2
    go_ret
    exact ⟨rfl, EZ⟩
  rw [hwt] at HWT
  obtain ⟨hfar, hse, hwe⟩ := wthB_ok h.hl hwt
  cases hlm : lmB l
  case false =>
    rw [hlm] at HLM
    unfold Lm.val at HLM
    obtain ⟨wi, ra, tl, th⟩ := l
    dsimp only at *
    clear h hks hkn hwt hfar hse hwe hlm
    go_enter Tryd.func5, Tryd.ntmps5
    have HB0 := hid (show Blk _ _ _ _ from blk_old (blk_last w (.cells #[.slice A n c] 24)) (.cells #[.slice SA m sc, .slice KA kn kc, .int .i64 wi, .int .i64 ra, .int .i64 tl, .int .i64 th, .int .i64 len] 46))
    have HB1 := hid (show Blk _ _ _ _ from blk_last (w.alloc (.cells #[.slice A n c] 24)) (.cells #[.slice SA m sc, .slice KA kn kc, .int .i64 wi, .int .i64 ra, .int .i64 tl, .int .i64 th, .int .i64 len] 46))
    rw [World.size_alloc] at HB1
    have E : Ext w ((w.alloc (.cells #[.slice A n c] 24)).alloc (.cells #[.slice SA m sc, .slice KA kn kc, .int .i64 wi, .int .i64 ra, .int .i64 tl, .int .i64 th, .int .i64 len] 46)) := by (repeat' (first | with_reducible assumption | with_reducible exact Ext.refl _ | with_reducible refine Ext.alloc ?_ _ | with_reducible refine Ext.set ?_ ?_ _ | with_reducible refine Ext.drew ?_ | with_reducible refine Ext.drewN ?_ _ | with_reducible refine Ext.trans ?_ (by assumption) | (dsimp only; omega)))
    go_wp2_with fail
    refine (HWT.out _ E).mono ?_
    rintro e w2 ⟨rfl, hE⟩
    replace E := E.trans hE
    replace HB0 := hid (HB0.out.ext hE)
    replace HB1 := hid (HB1.out.ext hE)
    clear hE
    (try clear a0 r0 r1 r2 r3 r4 r5 r6 z0 z1)
    have a0 := HB0.out.cell 0
    obtain ⟨r0, r1, r2, r3, r4, r5, r6⟩ : _ ∧ _ ∧ _ ∧ _ ∧ _ ∧ _ ∧ _ := ⟨HB1.out.cell 0, HB1.out.cell 1, HB1.out.cell 2, HB1.out.cell 3, HB1.out.cell 4, HB1.out.cell 5, HB1.out.cell 6⟩
    have z0 := HB0.out.lt
    have z1 := HB1.out.lt
    simp only [List.getElem?_toArray, List.getElem?_cons_zero, List.getElem?_cons_succ] at a0 r0 r1 r2 r3 r4 r5 r6
    go_wp2_with fail
    refine (HLM.out _).mono ?_
    rintro e w2 ⟨rfl, hE⟩
    replace E := E.trans hE
    replace HB0 := hid (HB0.out.ext hE)
    replace HB1 := hid (HB1.out.ext hE)
    clear hE
    (try clear a0 r0 r1 r2 r3 r4 r5 r6 z0 z1)
    have a0 := HB0.out.cell 0
    obtain ⟨r0, r1, r2, r3, r4, r5, r6⟩ : _ ∧ _ ∧ _ ∧ _ ∧ _ ∧ _ ∧ _ := ⟨HB1.out.cell 0, HB1.out.cell 1, HB1.out.cell 2, HB1.out.cell 3, HB1.out.cell 4, HB1.out.cell 5, HB1.out.cell 6⟩
    have z0 := HB0.out.lt
    have z1 := HB1.out.lt
    simp only [List.getElem?_toArray, List.getElem?_cons_zero, List.getElem?_cons_succ] at a0 r0 r1 r2 r3 r4 r5 r6
    go_wp2_with fail
    refine (HWK.out _ (by (repeat' (first | with_reducible assumption | with_reducible exact Ext.refl _ | with_reducible refine Ext.alloc ?_ _ | with_reducible refine Ext.set ?_ ?_ _ | with_reducible refine Ext.drew ?_ | with_reducible refine Ext.drewN ?_ _ | with_reducible refine Ext.trans ?_ (by assumption) | (dsimp only; omega))))).mono ?_
    rintro e w9 ⟨rfl, hE9⟩
    have EZ : Ext w w9 := by (repeat' (first | with_reducible assumption | with_reducible exact Ext.refl _ | with_reducible refine Ext.alloc ?_ _ | with_reducible refine Ext.set ?_ ?_ _ | with_reducible refine Ext.drew ?_ | with_reducible refine Ext.drewN ?_ _ | with_reducible refine Ext.trans ?_ (by assumption) | (dsimp only; omega)))
    go_wp2
    go_ret
    exact ⟨rfl, EZ⟩
  rw [hlm] at HLM
  by_cases hl1 : len < 1
  case pos =>
    unfold Lm.val at HLM
    obtain ⟨wi, ra, tl, th⟩ := l
    dsimp only at *
    clear h hks hkn hwt hfar hse hwe hlm
    go_enter Tryd.func5, Tryd.ntmps5
    have HB0 := hid (show Blk _ _ _ _ from blk_old (blk_last w (.cells #[.slice A n c] 24)) (.cells #[.slice SA m sc, .slice KA kn kc, .int .i64 wi, .int .i64 ra, .int .i64 tl, .int .i64 th, .int .i64 len] 46))
    have HB1 := hid (show Blk _ _ _ _ from blk_last (w.alloc (.cells #[.slice A n c] 24)) (.cells #[.slice SA m sc, .slice KA kn kc, .int .i64 wi, .int .i64 ra, .int .i64 tl, .int .i64 th, .int .i64 len] 46))
    rw [World.size_alloc] at HB1
    have E : Ext w ((w.alloc (.cells #[.slice A n c] 24)).alloc (.cells #[.slice SA m sc, .slice KA kn kc, .int .i64 wi, .int .i64 ra, .int .i64 tl, .int .i64 th, .int .i64 len] 46)) := by (repeat' (first | with_reducible assumption | with_reducible exact Ext.refl _ | with_reducible refine Ext.alloc ?_ _ | with_reducible refine Ext.set ?_ ?_ _ | with_reducible refine Ext.drew ?_ | with_reducible refine Ext.drewN ?_ _ | with_reducible refine Ext.trans ?_ (by assumption) | (dsimp only; omega)))
    go_wp2_with fail
    refine (HWT.out _ E).mono ?_
    rintro e w2 ⟨rfl, hE⟩
    replace E := E.trans hE
    replace HB0 := hid (HB0.out.ext hE)
    replace HB1 := hid (HB1.out.ext hE)
    clear hE
    (try clear a0 r0 r1 r2 r3 r4 r5 r6 z0 z1)
    have a0 := HB0.out.cell 0
    obtain ⟨r0, r1, r2, r3, r4, r5, r6⟩ : _ ∧ _ ∧ _ ∧ _ ∧ _ ∧ _ ∧ _ := ⟨HB1.out.cell 0, HB1.out.cell 1, HB1.out.cell 2, HB1.out.cell 3, HB1.out.cell 4, HB1.out.cell 5, HB1.out.cell 6⟩
    have z0 := HB0.out.lt
    have z1 := HB1.out.lt
    simp only [List.getElem?_toArray, List.getElem?_cons_zero, List.getElem?_cons_succ] at a0 r0 r1 r2 r3 r4 r5 r6
    go_wp2_with fail
    refine (HLM.out _).mono ?_
    rintro e w2 ⟨rfl, hE⟩
    replace E := E.trans hE
    replace HB0 := hid (HB0.out.ext hE)
    replace HB1 := hid (HB1.out.ext hE)
    clear hE
    (try clear a0 r0 r1 r2 r3 r4 r5 r6 z0 z1)
    have a0 := HB0.out.cell 0
    obtain ⟨r0, r1, r2, r3, r4, r5, r6⟩ : _ ∧ _ ∧ _ ∧ _ ∧ _ ∧ _ ∧ _ := ⟨HB1.out.cell 0, HB1.out.cell 1, HB1.out.cell 2, HB1.out.cell 3, HB1.out.cell 4, HB1.out.cell 5, HB1.out.cell 6⟩
    have z0 := HB0.out.lt
    have z1 := HB1.out.lt
    simp only [List.getElem?_toArray, List.getElem?_cons_zero, List.getElem?_cons_succ] at a0 r0 r1 r2 r3 r4 r5 r6
    go_wp2_with fail
    refine (HWK.out _ (by (repeat' (first | with_reducible assumption | with_reducible exact Ext.refl _ | with_reducible refine Ext.alloc ?_ _ | with_reducible refine Ext.set ?_ ?_ _ | with_reducible refine Ext.drew ?_ | with_reducible refine Ext.drewN ?_ _ | with_reducible refine Ext.trans ?_ (by assumption) | (dsimp only; omega))))).mono ?_
    rintro e w9 ⟨rfl, hE9⟩
    have EZ : Ext w w9 := by (repeat' (first | with_reducible assumption | with_reducible exact Ext.refl _ | with_reducible refine Ext.alloc ?_ _ | with_reducible refine Ext.set ?_ ?_ _ | with_reducible refine Ext.drew ?_ | with_reducible refine Ext.drewN ?_ _ | with_reducible refine Ext.trans ?_ (by assumption) | (dsimp only; omega)))
    go_wp2
    go_ret
    exact ⟨rfl, EZ⟩
  by_cases hl2 : 48 < len
  case pos =>
    unfold Lm.val at HLM
    obtain ⟨wi, ra, tl, th⟩ := l
    dsimp only at *
    clear h hks hkn hwt hfar hse hwe hlm
    go_enter Tryd.func5, Tryd.ntmps5
    have HB0 := hid (show Blk _ _ _ _ from blk_old (blk_last w (.cells #[.slice A n c] 24)) (.cells #[.slice SA m sc, .slice KA kn kc, .int .i64 wi, .int .i64 ra, .int .i64 tl, .int .i64 th, .int .i64 len] 46))
    have HB1 := hid (show Blk _ _ _ _ from blk_last (w.alloc (.cells #[.slice A n c] 24)) (.cells #[.slice SA m sc, .slice KA kn kc, .int .i64 wi, .int .i64 ra, .int .i64 tl, .int .i64 th, .int .i64 len] 46))
    rw [World.size_alloc] at HB1
    have E : Ext w ((w.alloc (.cells #[.slice A n c] 24)).alloc (.cells #[.slice SA m sc, .slice KA kn kc, .int .i64 wi, .int .i64 ra, .int .i64 tl, .int .i64 th, .int .i64 len] 46)) := by (repeat' (first | with_reducible assumption | with_reducible exact Ext.refl _ | with_reducible refine Ext.alloc ?_ _ | with_reducible refine Ext.set ?_ ?_ _ | with_reducible refine Ext.drew ?_ | with_reducible refine Ext.drewN ?_ _ | with_reducible refine Ext.trans ?_ (by assumption) | (dsimp only; omega)))
    go_wp2_with fail
    refine (HWT.out _ E).mono ?_
    rintro e w2 ⟨rfl, hE⟩
    replace E := E.trans hE
    replace HB0 := hid (HB0.out.ext hE)
    replace HB1 := hid (HB1.out.ext hE)
    clear hE
    (try clear a0 r0 r1 r2 r3 r4 r5 r6 z0 z1)
    have a0 := HB0.out.cell 0
    obtain ⟨r0, r1, r2, r3, r4, r5, r6⟩ : _ ∧ _ ∧ _ ∧ _ ∧ _ ∧ _ ∧ _ := ⟨HB1.out.cell 0, HB1.out.cell 1, HB1.out.cell 2, HB1.out.cell 3, HB1.out.cell 4, HB1.out.cell 5, HB1.out.cell 6⟩
    have z0 := HB0.out.lt
    have z1 := HB1.out.lt
    simp only [List.getElem?_toArray, List.getElem?_cons_zero, List.getElem?_cons_succ] at a0 r0 r1 r2 r3 r4 r5 r6
    go_wp2_with fail
    refine (HLM.out _).mono ?_
    rintro e w2 ⟨rfl, hE⟩
    replace E := E.trans hE
    replace HB0 := hid (HB0.out.ext hE)
    replace HB1 := hid (HB1.out.ext hE)
    clear hE
    (try clear a0 r0 r1 r2 r3 r4 r5 r6 z0 z1)
    have a0 := HB0.out.cell 0
    obtain ⟨r0, r1, r2, r3, r4, r5, r6⟩ : _ ∧ _ ∧ _ ∧ _ ∧ _ ∧ _ ∧ _ := ⟨HB1.out.cell 0, HB1.out.cell 1, HB1.out.cell 2, HB1.out.cell 3, HB1.out.cell 4, HB1.out.cell 5, HB1.out.cell 6⟩
    have z0 := HB0.out.lt
    have z1 := HB1.out.lt
    simp only [List.getElem?_toArray, List.getElem?_cons_zero, List.getElem?_cons_succ] at a0 r0 r1 r2 r3 r4 r5 r6
    go_wp2_with fail
    refine (HWK.out _ (by (repeat' (first | with_reducible assumption | with_reducible exact Ext.refl _ | with_reducible refine Ext.alloc ?_ _ | with_reducible refine Ext.set ?_ ?_ _ | with_reducible refine Ext.drew ?_ | with_reducible refine Ext.drewN ?_ _ | with_reducible refine Ext.trans ?_ (by assumption) | (dsimp only; omega))))).mono ?_
    rintro e w9 ⟨rfl, hE9⟩
    have EZ : Ext w w9 := by (repeat' (first | with_reducible assumption | with_reducible exact Ext.refl _ | with_reducible refine Ext.alloc ?_ _ | with_reducible refine Ext.set ?_ ?_ _ | with_reducible refine Ext.drew ?_ | with_reducible refine Ext.drewN ?_ _ | with_reducible refine Ext.trans ?_ (by assumption) | (dsimp only; omega)))
    go_wp2
    go_ret
    exact ⟨rfl, EZ⟩
  obtain ⟨ln, rfl⟩ : ∃ ln : Nat, len = ln := ⟨len.toNat, by omega⟩
  have hln1 : 1 ≤ ln := by omega
  have hln2 : ln ≤ 48 := by omega
  have ok := comes_ok hln1 hln2 hse hwe hlm
  have hF := fun (W : World) (hW : Ext w W) => (h.fin hfar).ext hW
  have HWD := hid (fun (W : World) (hW : Ext w W) => pwindow_any f A n c seen SA m sc l ln W (hF W hW))
  have HGP := hid (fun (W : World) (hW : Ext w W) => gapP_any f A n c seen SA m sc l ln W (hF W hW))
  have HKP := hid (fun (W : World) (hW : Ext w W) => keptL_any skies KA kn kc hkn (by omega) l W (hks.ext hW))
  have HBG := hid (fun (LA : Option Addr) (lc : Nat) (W : World) (hb : BosAt W LA (keptL skies l)) => begin_anyB (keptL skies l) LA kn lc (by rw [keptL_len]; exact hkn) (by omega) ln hln1 (by omega) W hb)
  have HLK := hid (fun (LA : Option Addr) (lc : Nat) (hc : kn ≤ lc) (W : World) (hb : BosAt W LA (keptL skies l)) => lacks_any (keptL skies l) LA kn lc (by rw [keptL_len]; exact hkn) hc (by omega) ln hln1 (by omega) W hb)
  obtain ⟨g0, g1, g2, g3, g4, g5⟩ := ok
  rw [g0] at HWD HGP
  clear h hks hkn hwt hfar hse hwe hlm hF g0
  unfold Lm.val at HLM HWD HGP HKP
  generalize keptL skies l = L at *
  generalize firstV f seen l ln = fv at *
  generalize lastV f seen l ln = lv at *
  generalize gapV f seen l ln = gv at *
  generalize begV L ln = bv at *
  generalize lackV L ln = lk at *
  obtain ⟨wi, ra, tl, th⟩ := l
  dsimp only at *
  go_enter Tryd.func5, Tryd.ntmps5
  have HB0 := hid (show Blk _ _ _ _ from blk_old (blk_last w (.cells #[.slice A n c] 24)) (.cells #[.slice SA m sc, .slice KA kn kc, .int .i64 wi, .int .i64 ra, .int .i64 tl, .int .i64 th, .int .i64 (ln : Int)] 46))
  have HB1 := hid (show Blk _ _ _ _ from blk_last (w.alloc (.cells #[.slice A n c] 24)) (.cells #[.slice SA m sc, .slice KA kn kc, .int .i64 wi, .int .i64 ra, .int .i64 tl, .int .i64 th, .int .i64 (ln : Int)] 46))
  rw [World.size_alloc] at HB1
  have E : Ext w ((w.alloc (.cells #[.slice A n c] 24)).alloc (.cells #[.slice SA m sc, .slice KA kn kc, .int .i64 wi, .int .i64 ra, .int .i64 tl, .int .i64 th, .int .i64 (ln : Int)] 46)) := by (repeat' (first | with_reducible assumption | with_reducible exact Ext.refl _ | with_reducible refine Ext.alloc ?_ _ | with_reducible refine Ext.set ?_ ?_ _ | with_reducible refine Ext.drew ?_ | with_reducible refine Ext.drewN ?_ _ | with_reducible refine Ext.trans ?_ (by assumption) | (dsimp only; omega)))
  go_wp2_with fail
  refine (HWT.out _ E).mono ?_
  rintro e w2 ⟨rfl, hE⟩
  replace E := E.trans hE
  replace HB0 := hid (HB0.out.ext hE)
  replace HB1 := hid (HB1.out.ext hE)
  clear hE
  (try clear a0 r0 r1 r2 r3 r4 r5 r6 z0 z1)
  have a0 := HB0.out.cell 0
  obtain ⟨r0, r1, r2, r3, r4, r5, r6⟩ : _ ∧ _ ∧ _ ∧ _ ∧ _ ∧ _ ∧ _ := ⟨HB1.out.cell 0, HB1.out.cell 1, HB1.out.cell 2, HB1.out.cell 3, HB1.out.cell 4, HB1.out.cell 5, HB1.out.cell 6⟩
  have z0 := HB0.out.lt
  have z1 := HB1.out.lt
  simp only [List.getElem?_toArray, List.getElem?_cons_zero, List.getElem?_cons_succ] at a0 r0 r1 r2 r3 r4 r5 r6
  go_wp2_with fail
  refine (HLM.out _).mono ?_
  rintro e w3 ⟨rfl, hE⟩
  replace E := E.trans hE
  replace HB0 := hid (HB0.out.ext hE)
  replace HB1 := hid (HB1.out.ext hE)
  clear hE
  (try clear a0 r0 r1 r2 r3 r4 r5 r6 z0 z1)
  have a0 := HB0.out.cell 0
  obtain ⟨r0, r1, r2, r3, r4, r5, r6⟩ : _ ∧ _ ∧ _ ∧ _ ∧ _ ∧ _ ∧ _ := ⟨HB1.out.cell 0, HB1.out.cell 1, HB1.out.cell 2, HB1.out.cell 3, HB1.out.cell 4, HB1.out.cell 5, HB1.out.cell 6⟩
  have z0 := HB0.out.lt
  have z1 := HB1.out.lt
  simp only [List.getElem?_toArray, List.getElem?_cons_zero, List.getElem?_cons_succ] at a0 r0 r1 r2 r3 r4 r5 r6
  go_wp2_with fail
  refine (HWD.out _ E).mono ?_
  rintro e w4 ⟨rfl, hE⟩
  replace E := E.trans hE
  replace HB0 := hid (HB0.out.ext hE)
  replace HB1 := hid (HB1.out.ext hE)
  clear hE
  (try clear a0 r0 r1 r2 r3 r4 r5 r6 z0 z1)
  have a0 := HB0.out.cell 0
  obtain ⟨r0, r1, r2, r3, r4, r5, r6⟩ : _ ∧ _ ∧ _ ∧ _ ∧ _ ∧ _ ∧ _ := ⟨HB1.out.cell 0, HB1.out.cell 1, HB1.out.cell 2, HB1.out.cell 3, HB1.out.cell 4, HB1.out.cell 5, HB1.out.cell 6⟩
  have z0 := HB0.out.lt
  have z1 := HB1.out.lt
  simp only [List.getElem?_toArray, List.getElem?_cons_zero, List.getElem?_cons_succ] at a0 r0 r1 r2 r3 r4 r5 r6
  clear HWT HLM HWD
  go_wp2_with fail
  refine (HGP.out _ E).mono ?_
  rintro e w5 ⟨rfl, hE⟩
  replace E := E.trans hE
  replace HB0 := hid (HB0.out.ext hE)
  replace HB1 := hid (HB1.out.ext hE)
  clear hE
  (try clear a0 r0 r1 r2 r3 r4 r5 r6 z0 z1)
  have a0 := HB0.out.cell 0
  obtain ⟨r0, r1, r2, r3, r4, r5, r6⟩ : _ ∧ _ ∧ _ ∧ _ ∧ _ ∧ _ ∧ _ := ⟨HB1.out.cell 0, HB1.out.cell 1, HB1.out.cell 2, HB1.out.cell 3, HB1.out.cell 4, HB1.out.cell 5, HB1.out.cell 6⟩
  have z0 := HB0.out.lt
  have z1 := HB1.out.lt
  simp only [List.getElem?_toArray, List.getElem?_cons_zero, List.getElem?_cons_succ] at a0 r0 r1 r2 r3 r4 r5 r6
  go_wp2_with fail
  refine (HKP.out _ E).mono ?_
  rintro e w6 ⟨LA, lc, rfl, hlc, hbo, hE⟩
  replace E := E.trans hE
  replace HB0 := hid (HB0.out.ext hE)
  replace HB1 := hid (HB1.out.ext hE)
  clear hE
  (try clear a0 r0 r1 r2 r3 r4 r5 r6 z0 z1)
  have a0 := HB0.out.cell 0
  obtain ⟨r0, r1, r2, r3, r4, r5, r6⟩ : _ ∧ _ ∧ _ ∧ _ ∧ _ ∧ _ ∧ _ := ⟨HB1.out.cell 0, HB1.out.cell 1, HB1.out.cell 2, HB1.out.cell 3, HB1.out.cell 4, HB1.out.cell 5, HB1.out.cell 6⟩
  have z0 := HB0.out.lt
  have z1 := HB1.out.lt
  simp only [List.getElem?_toArray, List.getElem?_cons_zero, List.getElem?_cons_succ] at a0 r0 r1 r2 r3 r4 r5 r6
  clear HGP HKP
  have HBO := hid hbo
  clear hbo
  go_wp2_with fail
  refine (HBG.out LA lc _ HBO.out).mono ?_
  rintro e w7 ⟨rfl, rfl⟩
  clear HBG
  have HLK2 := hid (HLK.out LA lc hlc _ HBO.out)
  clear HLK HBO
  by_cases hf : fv < 0
  · have hb := g1 hf
    have hv : lv < 0 := by
      by_cases hv : 0 ≤ lv
      · have := (g3 hv).1; omega
      · omega
    by_cases hfl : lv < fv
    · clear g1 g2 g3 g4
      go_wp2_with fail
      refine HLK2.out.mono ?_
      rintro e w8 ⟨rfl, rfl⟩
      go_wp2_with fail
      refine (HWK.out _ (by (repeat' (first | with_reducible assumption | with_reducible exact Ext.refl _ | with_reducible refine Ext.alloc ?_ _ | with_reducible refine Ext.set ?_ ?_ _ | with_reducible refine Ext.drew ?_ | with_reducible refine Ext.drewN ?_ _ | with_reducible refine Ext.trans ?_ (by assumption) | (dsimp only; omega))))).mono ?_
      rintro e w9 ⟨rfl, hE9⟩
      have EZ : Ext w w9 := by (repeat' (first | with_reducible assumption | with_reducible exact Ext.refl _ | with_reducible refine Ext.alloc ?_ _ | with_reducible refine Ext.set ?_ ?_ _ | with_reducible refine Ext.drew ?_ | with_reducible refine Ext.drewN ?_ _ | with_reducible refine Ext.trans ?_ (by assumption) | (dsimp only; omega)))
      go_wp2
      go_ret
      exact ⟨rfl, EZ⟩
    · clear g1 g2 g3 g4
      go_wp2_with fail
      refine HLK2.out.mono ?_
      rintro e w8 ⟨rfl, rfl⟩
      go_wp2_with fail
      refine (HWK.out _ (by (repeat' (first | with_reducible assumption | with_reducible exact Ext.refl _ | with_reducible refine Ext.alloc ?_ _ | with_reducible refine Ext.set ?_ ?_ _ | with_reducible refine Ext.drew ?_ | with_reducible refine Ext.drewN ?_ _ | with_reducible refine Ext.trans ?_ (by assumption) | (dsimp only; omega))))).mono ?_
      rintro e w9 ⟨rfl, hE9⟩
      have EZ : Ext w w9 := by (repeat' (first | with_reducible assumption | with_reducible exact Ext.refl _ | with_reducible refine Ext.alloc ?_ _ | with_reducible refine Ext.set ?_ ?_ _ | with_reducible refine Ext.drew ?_ | with_reducible refine Ext.drewN ?_ _ | with_reducible refine Ext.trans ?_ (by assumption) | (dsimp only; omega)))
      go_wp2
      go_ret
      exact ⟨rfl, EZ⟩
  · by_cases hb : bv < 0
    · have hv : lv < 0 := by
        by_cases hv : 0 ≤ lv
        · have := (g3 hv).1; omega
        · omega
      have hfl : lv < fv := by omega
      clear g1 g2 g3 g4
      go_wp2_with fail
      refine HLK2.out.mono ?_
      rintro e w8 ⟨rfl, rfl⟩
      go_wp2_with fail
      refine (HWK.out _ (by (repeat' (first | with_reducible assumption | with_reducible exact Ext.refl _ | with_reducible refine Ext.alloc ?_ _ | with_reducible refine Ext.set ?_ ?_ _ | with_reducible refine Ext.drew ?_ | with_reducible refine Ext.drewN ?_ _ | with_reducible refine Ext.trans ?_ (by assumption) | (dsimp only; omega))))).mono ?_
      rintro e w9 ⟨rfl, hE9⟩
      have EZ : Ext w w9 := by (repeat' (first | with_reducible assumption | with_reducible exact Ext.refl _ | with_reducible refine Ext.alloc ?_ _ | with_reducible refine Ext.set ?_ ?_ _ | with_reducible refine Ext.drew ?_ | with_reducible refine Ext.drewN ?_ _ | with_reducible refine Ext.trans ?_ (by assumption) | (dsimp only; omega)))
      go_wp2
      go_ret
      exact ⟨rfl, EZ⟩
    · have hbf : ¬ bv < fv := by have := g2 (by omega) (by omega); omega
      by_cases hv : lv < 0
      · have hfl : lv < fv := by omega
        clear g1 g2 g3 g4
        go_wp2_with fail
        refine HLK2.out.mono ?_
        rintro e w8 ⟨rfl, rfl⟩
        go_wp2_with fail
        refine (HWK.out _ (by (repeat' (first | with_reducible assumption | with_reducible exact Ext.refl _ | with_reducible refine Ext.alloc ?_ _ | with_reducible refine Ext.set ?_ ?_ _ | with_reducible refine Ext.drew ?_ | with_reducible refine Ext.drewN ?_ _ | with_reducible refine Ext.trans ?_ (by assumption) | (dsimp only; omega))))).mono ?_
        rintro e w9 ⟨rfl, hE9⟩
        have EZ : Ext w w9 := by (repeat' (first | with_reducible assumption | with_reducible exact Ext.refl _ | with_reducible refine Ext.alloc ?_ _ | with_reducible refine Ext.set ?_ ?_ _ | with_reducible refine Ext.drew ?_ | with_reducible refine Ext.drewN ?_ _ | with_reducible refine Ext.trans ?_ (by assumption) | (dsimp only; omega)))
        go_wp2
        go_ret
        exact ⟨rfl, EZ⟩
      · have hbl : ¬ lv < bv := by have := (g3 (by omega)).2; omega
        have hfl : ¬ lv < fv := by have := g4 (by omega); omega
        clear g1 g2 g3 g4
        go_wp2_with fail
        refine HLK2.out.mono ?_
        rintro e w8 ⟨rfl, rfl⟩
        go_wp2_with fail
        refine (HWK.out _ (by (repeat' (first | with_reducible assumption | with_reducible exact Ext.refl _ | with_reducible refine Ext.alloc ?_ _ | with_reducible refine Ext.set ?_ ?_ _ | with_reducible refine Ext.drew ?_ | with_reducible refine Ext.drewN ?_ _ | with_reducible refine Ext.trans ?_ (by assumption) | (dsimp only; omega))))).mono ?_
        rintro e w9 ⟨rfl, hE9⟩
        have EZ : Ext w w9 := by (repeat' (first | with_reducible assumption | with_reducible exact Ext.refl _ | with_reducible refine Ext.alloc ?_ _ | with_reducible refine Ext.set ?_ ?_ _ | with_reducible refine Ext.drew ?_ | with_reducible refine Ext.drewN ?_ _ | with_reducible refine Ext.trans ?_ (by assumption) | (dsimp only; omega)))
        go_wp2
        go_ret
        exact ⟨rfl, EZ⟩
end Go.Proofs.YtcpkdnegmblonaaDoor
/- The statement WeatherComes: whatever the forecast, the observations, the weather, the limits and the length, the law returns true, and the input reads as it did. -/
set_option linter.unusedSimpArgs false
set_option linter.unusedVariables false
namespace Go.Proofs.YtcpkdnegmblonaaDoor
open Go.RowKit
open Go.ChangeShapes Go.WideShapes Go.ChangeAt Go.Joins
theorem own : ownKnob Tryd.prog.godebug = none := by kernel_rfl
theorem laidOut : laidOutB Tryd.prog = true := by kernel_rfl
/-- The door's own heap meets the condition. -/
theorem door_met (os : Os) (args : Array Value) : laidMetH Tryd.prog laid1 ((World.doorLaid Tryd.prog 400 os).forCall (fun _ _ => 0) ⟨#[], args, []⟩).memory := by
  refine laidMetH_of_parts3 (fuel := 8) (laidMet_of_run' 8 (by kernel_rfl) (by kernel_rfl)) (by kernel_rfl) (by kernel_rfl)
set_option maxRecDepth 100000 in
theorem weatherComes_lifted (os : Os) (started : os.Started) (H : Type) (enc : TypeId × Value → H) :
    ReturnsInHanded {} Tryd.checked os 5 .any (fun w args => (Rows.weatherComesSpec.pre enc Tryd.prog Tryd.f5 [] false w args ∧ laidMetH Tryd.prog laid1 w) ∧ sizedMet enc Tryd.prog Tryd.f5 (OpenSpec.ofChange Rows.weatherComesSpec) false w args)
      (Rows.weatherComesSpec.post enc Tryd.prog Tryd.f5 false true false false) := by
  refine returnsInHanded_of_change_and (C := Tryd.checked) (X := fun w _ => laidMetH Tryd.prog laid1 w) (fun _ _ _ hh h => h.of_heap hh) own started (by kernel_rfl) Tryd.func5
    (ChangeSpec.witness_shaped (enc := enc) (C := Tryd.checked) (os := os) (X := fun w _ => laidMetH Tryd.prog laid1 w) false (World.doorLaid Tryd.prog 400 os) #[.agg #[.slice none 0 0], .agg #[.slice none 0 0, .slice none 0 0, .int .i64 0, .int .i64 0, .int .i64 0, .int .i64 0, .int .i64 0]] 8 rfl (World.shaped_of_RefB (by kernel_rfl) (by kernel_rfl)) (by kernel_rfl) (by kernel_rfl) (by kernel_rfl) (door_met os _)) ?_
  intro W base args ds gs before hval0 hW _ _ hL _
  have hval : ∀ (j : Nat) t v, Tryd.f5.params[j]? = some t → args[j]? = some v → Value.okWide Tryd.prog W .any base t v := hval0
  have hW' := hW
  obtain ⟨p, q, hA0, hV, rfl, hfz, hnd⟩ := hW
  have hA : DataW.TrodAll enc Tryd.prog W 0 (fun _ => true) true Tryd.f5.params.toList args.toList ds p := hA0
  rw [Tryd.params5] at hA hval
  obtain ⟨v0, vs0, d0, ds0, p0, q0, hargs, rfl, rfl, h0, r0⟩ := trodAll_cons hA
  obtain ⟨v1, vs1, d1, ds1, p1, q1, rfl, rfl, rfl, h1, r1⟩ := trodAll_cons r0
  obtain ⟨rfl, rfl, rfl⟩ := trodAll_nil r1
  obtain rfl : args = #[v0, v1] := by cases args; simp_all
  obtain ⟨rfl, rfl⟩ := trodVars_none hV
  have lt0 : ∀ x ∈ p0, x.block < W.heap.size := by obtain ⟨m, hm⟩ := h0; exact DataW.trod_lt m _ _ _ hm
  have lt1 : ∀ x ∈ p1, x.block < W.heap.size := by obtain ⟨m, hm⟩ := h1; exact DataW.trod_lt m _ _ _ hm
  obtain ⟨A, f, c, rfl, hsc⟩ := open_forecast (hval 0 24 v0 rfl rfl) h0
  obtain ⟨SA, seen, sc, KA, skies, kc, l, len, rfl, hsg, hwf, hks⟩ := open_real (hval 1 46 v1 rfl rfl) h1
  have hT := widW_of hL
  clear hA0 hval0
  refine (comes_any f A f.length c seen SA seen.length sc skies KA skies.length kc rfl l len W ⟨rfl, rfl, hwf, hsc, hsg, hT⟩ hks).mono fun e W' ⟨he, bel⟩ => ?_
  subst he
  exact ⟨_, rfl, _, _, _, [], _, [], hW', trodAll_mk1 (shut_bool Tryd.underlying4 _), (trodAll_cons_mk (Below.trod laidOut (by kernel_rfl) (of_decide_eq_true (by kernel_rfl)) h0 bel lt0) (trodAll_cons_mk (Below.trod laidOut (by kernel_rfl) (of_decide_eq_true (by kernel_rfl)) h1 bel lt1) trodAll_mk0)), rfl, bel.frame _, fun h => by cases h⟩
theorem weatherComes_over : Rows.weatherComesRow.holds Tryd.pinned (OpenSpec.ofChange Rows.weatherComesSpec) :=
  OpenClaim.holds_of_wide 5 Tryd.f5 rfl rfl rfl rfl rfl rfl rfl ⟨rfl, rfl, rfl, rfl, rfl⟩ rfl rfl rfl rfl rfl (by kernel_rfl) Tryd.func5 (by kernel_rfl)
    (of_decide_eq_true (by kernel_rfl)) (by unfold Func.isWrapper; first | (rw [if_pos (by decide +kernel)]; kernel_rfl) | (rw [if_neg (by decide +kernel)]; exact ⟨rfl, rfl⟩))
    (fun os started H enc _ => weatherComes_lifted os started H enc)
theorem weatherComes_proved : Rows.WeatherComesCardSaid :=
  Claim7.holds_tied_plain_at .later [] [.data] true (true, "e0ccf1abee3175831e4f6e6292e22f06b2890a2187f7ed8585537352ab53f6f1") false
    weatherComes_over (fun _ h => by cases h) (by kernel_rfl) (fun _ h => by cases h) weatherComes_row_tie rfl ⟨rfl, rfl⟩ (by kernel_rfl) rfl
    (fun f fn hf hfn => by
      obtain rfl : f = 5 := Option.some.inj ((show Tryd.prog.funcNamed "bivouac/bivouaclaw05.WeatherComes" = some 5 by kernel_rfl).symm.trans hf) |>.symm
      obtain rfl : fn = Tryd.f5 := (Option.some.inj (Tryd.func5.symm.trans hfn)).symm
      exact ⟨by kernel_rfl, fun j t ht => by
        rw [Tryd.params5] at ht
        have hm : t ∈ [24, 46] := by simpa using Array.mem_of_getElem? ht
        have hall : ([24, 46].all fun u => !Tryd.prog.wantsStandIn u) = true := by kernel_rfl
        exact (show Tryd.prog.wantsStandIn t = false by simpa using List.all_eq_true.1 hall t hm)⟩)
    (by kernel_rfl)
end Go.Proofs.YtcpkdnegmblonaaDoor
