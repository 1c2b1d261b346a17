/- The law of one more observation, and of wider limits: what it does not look at. -/
import Derived.Test.YtcpkdnegmblonaaDoorBTopMore25
import Derived.Test.YtcpkdnegmblonaaDoorB15
set_option linter.unusedSimpArgs false
set_option linter.unusedVariables false
namespace Go.Proofs.YtcpkdnegmblonaaDoor
open Go.RowKit
def Es.sg (y : Es) : Sg := ⟨y.hour, y.sw, y.sr, y.st⟩
/-- What the law looks at. -/
structure MoreIn (f : List (List Hr)) (seen : List Sg) (m : Nat) (l : Lm) (len : Int) (y : Es) : Prop where
  far : farB f m = false
  se : seenE f seen = 0
  lm : lmB l = true
  lo : 1 ≤ len
  hi : len ≤ 48
  w : 0 ≤ y.wind ∧ y.wind ≤ 1000
  r : 0 ≤ y.rain ∧ y.rain ≤ 1000
  t : 0 ≤ y.temp ∧ y.temp ≤ 1000
set_option maxHeartbeats 8000000 in
set_option maxRecDepth 100000 in
theorem lmore_bad (f : List (List Hr)) (A : Option Addr) (n c : Nat) (seen : List Sg) (SA : Option Addr) (m sc : Nat) (KA : Option Addr) (kn kc : Nat) (l : Lm) (len : Int) (y : Es) (w : World) (h : AIn w f A n seen SA m) :
    MoreIn f seen m l len y ∨ Calls Tryd.prog 6 #[.agg #[.slice A n c], .agg #[.slice SA m sc, .slice KA kn kc, .int .i64 l.wind, .int .i64 l.rain, .int .i64 l.tl, .int .i64 l.th, .int .i64 len], .agg (esCells y)] w fun e w' => e = .returned (.bool true) ∧ Ext w w' := by
  have HWK := hid (fun (W : World) (hW : Ext w W) => works_any W (h.wid.ext hW))
  have HLM := hid (fun (W : World) => rLimits_any l W)
  have HF := hid (fun (W : World) (hW : Ext w W) => far_any f A n c h.hn SA m sc W (h.sc.ext hW))
  cases hfar : farB f m
  case true =>
    refine .inr ?_
    rw [hfar] at HF
    unfold esCells
    obtain ⟨wi, ra, tl, th⟩ := l
    obtain ⟨yh, ys, yr, yt, yw, yn, yp, yl⟩ := y
    dsimp only at *
    clear h HLM hfar
    go_enter Tryd.func6, Tryd.ntmps6
    have HB0 := hid (show Blk _ _ _ _ from blk_old (blk_old (blk_last w (.cells #[.slice A n c] 24)) (.cells #[.slice SA m sc, .slice KA kn kc, .int .i64 wi, .int .i64 ra, .int .i64 tl, .int .i64 th, .int .i64 len] 46)) (.cells #[.int .i64 yh, .int .i64 ys, .int .i64 yr, .int .i64 yt, .int .i64 yw, .int .i64 yn, .int .i64 yp, .int .i64 yl] 68))
    have HB1 := hid (show Blk _ _ _ _ from blk_old (blk_last (w.alloc (.cells #[.slice A n c] 24)) (.cells #[.slice SA m sc, .slice KA kn kc, .int .i64 wi, .int .i64 ra, .int .i64 tl, .int .i64 th, .int .i64 len] 46)) (.cells #[.int .i64 yh, .int .i64 ys, .int .i64 yr, .int .i64 yt, .int .i64 yw, .int .i64 yn, .int .i64 yp, .int .i64 yl] 68))
    have HB2 := hid (show Blk _ _ _ _ from blk_last ((w.alloc (.cells #[.slice A n c] 24)).alloc (.cells #[.slice SA m sc, .slice KA kn kc, .int .i64 wi, .int .i64 ra, .int .i64 tl, .int .i64 th, .int .i64 len] 46)) (.cells #[.int .i64 yh, .int .i64 ys, .int .i64 yr, .int .i64 yt, .int .i64 yw, .int .i64 yn, .int .i64 yp, .int .i64 yl] 68))
    rw [World.size_alloc] at HB1
    rw [World.size_alloc, World.size_alloc] at HB2
    have E : Ext w (((w.alloc (.cells #[.slice A n c] 24)).alloc (.cells #[.slice SA m sc, .slice KA kn kc, .int .i64 wi, .int .i64 ra, .int .i64 tl, .int .i64 th, .int .i64 len] 46)).alloc (.cells #[.int .i64 yh, .int .i64 ys, .int .i64 yr, .int .i64 yt, .int .i64 yw, .int .i64 yn, .int .i64 yp, .int .i64 yl] 68)) := by (repeat' (first | with_reducible assumption | with_reducible exact Ext.refl _ | with_reducible refine Ext.alloc ?_ _ | with_reducible refine Ext.set ?_ ?_ _ | with_reducible refine Ext.drew ?_ | with_reducible refine Ext.drewN ?_ _ | with_reducible refine Ext.trans ?_ (by assumption) | (dsimp only; omega)))
    go_wp2_with fail
    refine (HF.out _ E).mono ?_
    rintro e w2 ⟨rfl, hE⟩
    replace E := E.trans hE
    replace HB0 := hid (HB0.out.ext hE)
    replace HB1 := hid (HB1.out.ext hE)
    replace HB2 := hid (HB2.out.ext hE)
    clear hE
    (try clear a0 r0 r1 r2 r3 r4 r5 r6 y0 y1 y2 y3 y4 y5 y6 y7 z0 z1 z2)
    have a0 := HB0.out.cell 0
    obtain ⟨r0, r1, r2, r3, r4, r5, r6⟩ : _ ∧ _ ∧ _ ∧ _ ∧ _ ∧ _ ∧ _ := ⟨HB1.out.cell 0, HB1.out.cell 1, HB1.out.cell 2, HB1.out.cell 3, HB1.out.cell 4, HB1.out.cell 5, HB1.out.cell 6⟩
    obtain ⟨y0, y1, y2, y3, y4, y5, y6, y7⟩ : _ ∧ _ ∧ _ ∧ _ ∧ _ ∧ _ ∧ _ ∧ _ := ⟨HB2.out.cell 0, HB2.out.cell 1, HB2.out.cell 2, HB2.out.cell 3, HB2.out.cell 4, HB2.out.cell 5, HB2.out.cell 6, HB2.out.cell 7⟩
    have z0 := HB0.out.lt
    have z1 := HB1.out.lt
    have z2 := HB2.out.lt
    simp only [List.getElem?_toArray, List.getElem?_cons_zero, List.getElem?_cons_succ] at a0 r0 r1 r2 r3 r4 r5 r6 y0 y1 y2 y3 y4 y5 y6 y7
    go_wp2_with fail
    refine (HWK.out _ (by (repeat' (first | with_reducible assumption | with_reducible exact Ext.refl _ | with_reducible refine Ext.alloc ?_ _ | with_reducible refine Ext.set ?_ ?_ _ | with_reducible refine Ext.drew ?_ | with_reducible refine Ext.drewN ?_ _ | with_reducible refine Ext.trans ?_ (by assumption) | (dsimp only; omega))))).mono ?_
    rintro e w9 ⟨rfl, hE9⟩
    have EZ : Ext w w9 := by (repeat' (first | with_reducible assumption | with_reducible exact Ext.refl _ | with_reducible refine Ext.alloc ?_ _ | with_reducible refine Ext.set ?_ ?_ _ | with_reducible refine Ext.drew ?_ | with_reducible refine Ext.drewN ?_ _ | with_reducible refine Ext.trans ?_ (by assumption) | (dsimp only; omega)))
    go_wp2
    go_ret
    exact ⟨rfl, EZ⟩
  rw [hfar] at HF
  have HSE := hid (fun (W : World) (hW : Ext w W) => rSeen_any f A n c seen SA m sc W ((h.fin hfar).ext hW))
  by_cases hse : seenE f seen = 0
  case neg =>
    refine .inr ?_
    generalize seenE f seen = se at *
    have hseb : (se != 0) = true := by simp [hse]
    unfold esCells
    obtain ⟨wi, ra, tl, th⟩ := l
    obtain ⟨yh, ys, yr, yt, yw, yn, yp, yl⟩ := y
    dsimp only at *
    clear h HLM hfar hse
    go_enter Tryd.func6, Tryd.ntmps6
    have HB0 := hid (show Blk _ _ _ _ from blk_old (blk_old (blk_last w (.cells #[.slice A n c] 24)) (.cells #[.slice SA m sc, .slice KA kn kc, .int .i64 wi, .int .i64 ra, .int .i64 tl, .int .i64 th, .int .i64 len] 46)) (.cells #[.int .i64 yh, .int .i64 ys, .int .i64 yr, .int .i64 yt, .int .i64 yw, .int .i64 yn, .int .i64 yp, .int .i64 yl] 68))
    have HB1 := hid (show Blk _ _ _ _ from blk_old (blk_last (w.alloc (.cells #[.slice A n c] 24)) (.cells #[.slice SA m sc, .slice KA kn kc, .int .i64 wi, .int .i64 ra, .int .i64 tl, .int .i64 th, .int .i64 len] 46)) (.cells #[.int .i64 yh, .int .i64 ys, .int .i64 yr, .int .i64 yt, .int .i64 yw, .int .i64 yn, .int .i64 yp, .int .i64 yl] 68))
    have HB2 := hid (show Blk _ _ _ _ from blk_last ((w.alloc (.cells #[.slice A n c] 24)).alloc (.cells #[.slice SA m sc, .slice KA kn kc, .int .i64 wi, .int .i64 ra, .int .i64 tl, .int .i64 th, .int .i64 len] 46)) (.cells #[.int .i64 yh, .int .i64 ys, .int .i64 yr, .int .i64 yt, .int .i64 yw, .int .i64 yn, .int .i64 yp, .int .i64 yl] 68))
    rw [World.size_alloc] at HB1
    rw [World.size_alloc, World.size_alloc] at HB2
    have E : Ext w (((w.alloc (.cells #[.slice A n c] 24)).alloc (.cells #[.slice SA m sc, .slice KA kn kc, .int .i64 wi, .int .i64 ra, .int .i64 tl, .int .i64 th, .int .i64 len] 46)).alloc (.cells #[.int .i64 yh, .int .i64 ys, .int .i64 yr, .int .i64 yt, .int .i64 yw, .int .i64 yn, .int .i64 yp, .int .i64 yl] 68)) := by (repeat' (first | with_reducible assumption | with_reducible exact Ext.refl _ | with_reducible refine Ext.alloc ?_ _ | with_reducible refine Ext.set ?_ ?_ _ | with_reducible refine Ext.drew ?_ | with_reducible refine Ext.drewN ?_ _ | with_reducible refine Ext.trans ?_ (by assumption) | (dsimp only; omega)))
    go_wp2_with fail
    refine (HF.out _ E).mono ?_
    rintro e w2 ⟨rfl, hE⟩
    replace E := E.trans hE
    replace HB0 := hid (HB0.out.ext hE)
    replace HB1 := hid (HB1.out.ext hE)
    replace HB2 := hid (HB2.out.ext hE)
    clear hE
    (try clear a0 r0 r1 r2 r3 r4 r5 r6 y0 y1 y2 y3 y4 y5 y6 y7 z0 z1 z2)
    have a0 := HB0.out.cell 0
    obtain ⟨r0, r1, r2, r3, r4, r5, r6⟩ : _ ∧ _ ∧ _ ∧ _ ∧ _ ∧ _ ∧ _ := ⟨HB1.out.cell 0, HB1.out.cell 1, HB1.out.cell 2, HB1.out.cell 3, HB1.out.cell 4, HB1.out.cell 5, HB1.out.cell 6⟩
    obtain ⟨y0, y1, y2, y3, y4, y5, y6, y7⟩ : _ ∧ _ ∧ _ ∧ _ ∧ _ ∧ _ ∧ _ ∧ _ := ⟨HB2.out.cell 0, HB2.out.cell 1, HB2.out.cell 2, HB2.out.cell 3, HB2.out.cell 4, HB2.out.cell 5, HB2.out.cell 6, HB2.out.cell 7⟩
    have z0 := HB0.out.lt
    have z1 := HB1.out.lt
    have z2 := HB2.out.lt
    simp only [List.getElem?_toArray, List.getElem?_cons_zero, List.getElem?_cons_succ] at a0 r0 r1 r2 r3 r4 r5 r6 y0 y1 y2 y3 y4 y5 y6 y7
    go_wp2_with fail
    refine (HSE.out _ E).mono ?_
    rintro e w2 ⟨rfl, hE⟩
    replace E := E.trans hE
    replace HB0 := hid (HB0.out.ext hE)
    replace HB1 := hid (HB1.out.ext hE)
    replace HB2 := hid (HB2.out.ext hE)
    clear hE
    (try clear a0 r0 r1 r2 r3 r4 r5 r6 y0 y1 y2 y3 y4 y5 y6 y7 z0 z1 z2)
    have a0 := HB0.out.cell 0
    obtain ⟨r0, r1, r2, r3, r4, r5, r6⟩ : _ ∧ _ ∧ _ ∧ _ ∧ _ ∧ _ ∧ _ := ⟨HB1.out.cell 0, HB1.out.cell 1, HB1.out.cell 2, HB1.out.cell 3, HB1.out.cell 4, HB1.out.cell 5, HB1.out.cell 6⟩
    obtain ⟨y0, y1, y2, y3, y4, y5, y6, y7⟩ : _ ∧ _ ∧ _ ∧ _ ∧ _ ∧ _ ∧ _ ∧ _ := ⟨HB2.out.cell 0, HB2.out.cell 1, HB2.out.cell 2, HB2.out.cell 3, HB2.out.cell 4, HB2.out.cell 5, HB2.out.cell 6, HB2.out.cell 7⟩
    have z0 := HB0.out.lt
    have z1 := HB1.out.lt
    have z2 := HB2.out.lt
    simp only [List.getElem?_toArray, List.getElem?_cons_zero, List.getElem?_cons_succ] at a0 r0 r1 r2 r3 r4 r5 r6 y0 y1 y2 y3 y4 y5 y6 y7
    go_wp2_with fail
    refine (HWK.out _ (by (repeat' (first | with_reducible assumption | with_reducible exact Ext.refl _ | with_reducible refine Ext.alloc ?_ _ | with_reducible refine Ext.set ?_ ?_ _ | with_reducible refine Ext.drew ?_ | with_reducible refine Ext.drewN ?_ _ | with_reducible refine Ext.trans ?_ (by assumption) | (dsimp only; omega))))).mono ?_
    rintro e w9 ⟨rfl, hE9⟩
    have EZ : Ext w w9 := by (repeat' (first | with_reducible assumption | with_reducible exact Ext.refl _ | with_reducible refine Ext.alloc ?_ _ | with_reducible refine Ext.set ?_ ?_ _ | with_reducible refine Ext.drew ?_ | with_reducible refine Ext.drewN ?_ _ | with_reducible refine Ext.trans ?_ (by assumption) | (dsimp only; omega)))
    go_wp2
    go_ret
    exact ⟨rfl, EZ⟩
  rw [hse] at HSE
  cases hlm : lmB l
  case false =>
    refine .inr ?_
    rw [hlm] at HLM
    unfold Lm.val esCells at *
    obtain ⟨wi, ra, tl, th⟩ := l
    obtain ⟨yh, ys, yr, yt, yw, yn, yp, yl⟩ := y
    dsimp only at *
    clear h hfar hse hlm
    go_enter Tryd.func6, Tryd.ntmps6
    have HB0 := hid (show Blk _ _ _ _ from blk_old (blk_old (blk_last w (.cells #[.slice A n c] 24)) (.cells #[.slice SA m sc, .slice KA kn kc, .int .i64 wi, .int .i64 ra, .int .i64 tl, .int .i64 th, .int .i64 len] 46)) (.cells #[.int .i64 yh, .int .i64 ys, .int .i64 yr, .int .i64 yt, .int .i64 yw, .int .i64 yn, .int .i64 yp, .int .i64 yl] 68))
    have HB1 := hid (show Blk _ _ _ _ from blk_old (blk_last (w.alloc (.cells #[.slice A n c] 24)) (.cells #[.slice SA m sc, .slice KA kn kc, .int .i64 wi, .int .i64 ra, .int .i64 tl, .int .i64 th, .int .i64 len] 46)) (.cells #[.int .i64 yh, .int .i64 ys, .int .i64 yr, .int .i64 yt, .int .i64 yw, .int .i64 yn, .int .i64 yp, .int .i64 yl] 68))
    have HB2 := hid (show Blk _ _ _ _ from blk_last ((w.alloc (.cells #[.slice A n c] 24)).alloc (.cells #[.slice SA m sc, .slice KA kn kc, .int .i64 wi, .int .i64 ra, .int .i64 tl, .int .i64 th, .int .i64 len] 46)) (.cells #[.int .i64 yh, .int .i64 ys, .int .i64 yr, .int .i64 yt, .int .i64 yw, .int .i64 yn, .int .i64 yp, .int .i64 yl] 68))
    rw [World.size_alloc] at HB1
    rw [World.size_alloc, World.size_alloc] at HB2
    have E : Ext w (((w.alloc (.cells #[.slice A n c] 24)).alloc (.cells #[.slice SA m sc, .slice KA kn kc, .int .i64 wi, .int .i64 ra, .int .i64 tl, .int .i64 th, .int .i64 len] 46)).alloc (.cells #[.int .i64 yh, .int .i64 ys, .int .i64 yr, .int .i64 yt, .int .i64 yw, .int .i64 yn, .int .i64 yp, .int .i64 yl] 68)) := by (repeat' (first | with_reducible assumption | with_reducible exact Ext.refl _ | with_reducible refine Ext.alloc ?_ _ | with_reducible refine Ext.set ?_ ?_ _ | with_reducible refine Ext.drew ?_ | with_reducible refine Ext.drewN ?_ _ | with_reducible refine Ext.trans ?_ (by assumption) | (dsimp only; omega)))
    go_wp2_with fail
    refine (HF.out _ E).mono ?_
    rintro e w2 ⟨rfl, hE⟩
    replace E := E.trans hE
    replace HB0 := hid (HB0.out.ext hE)
    replace HB1 := hid (HB1.out.ext hE)
    replace HB2 := hid (HB2.out.ext hE)
    clear hE
    (try clear a0 r0 r1 r2 r3 r4 r5 r6 y0 y1 y2 y3 y4 y5 y6 y7 z0 z1 z2)
    have a0 := HB0.out.cell 0
    obtain ⟨r0, r1, r2, r3, r4, r5, r6⟩ : _ ∧ _ ∧ _ ∧ _ ∧ _ ∧ _ ∧ _ := ⟨HB1.out.cell 0, HB1.out.cell 1, HB1.out.cell 2, HB1.out.cell 3, HB1.out.cell 4, HB1.out.cell 5, HB1.out.cell 6⟩
    obtain ⟨y0, y1, y2, y3, y4, y5, y6, y7⟩ : _ ∧ _ ∧ _ ∧ _ ∧ _ ∧ _ ∧ _ ∧ _ := ⟨HB2.out.cell 0, HB2.out.cell 1, HB2.out.cell 2, HB2.out.cell 3, HB2.out.cell 4, HB2.out.cell 5, HB2.out.cell 6, HB2.out.cell 7⟩
    have z0 := HB0.out.lt
    have z1 := HB1.out.lt
    have z2 := HB2.out.lt
    simp only [List.getElem?_toArray, List.getElem?_cons_zero, List.getElem?_cons_succ] at a0 r0 r1 r2 r3 r4 r5 r6 y0 y1 y2 y3 y4 y5 y6 y7
    go_wp2_with fail
    refine (HSE.out _ E).mono ?_
    rintro e w2 ⟨rfl, hE⟩
    replace E := E.trans hE
    replace HB0 := hid (HB0.out.ext hE)
    replace HB1 := hid (HB1.out.ext hE)
    replace HB2 := hid (HB2.out.ext hE)
    clear hE
    (try clear a0 r0 r1 r2 r3 r4 r5 r6 y0 y1 y2 y3 y4 y5 y6 y7 z0 z1 z2)
    have a0 := HB0.out.cell 0
    obtain ⟨r0, r1, r2, r3, r4, r5, r6⟩ : _ ∧ _ ∧ _ ∧ _ ∧ _ ∧ _ ∧ _ := ⟨HB1.out.cell 0, HB1.out.cell 1, HB1.out.cell 2, HB1.out.cell 3, HB1.out.cell 4, HB1.out.cell 5, HB1.out.cell 6⟩
    obtain ⟨y0, y1, y2, y3, y4, y5, y6, y7⟩ : _ ∧ _ ∧ _ ∧ _ ∧ _ ∧ _ ∧ _ ∧ _ := ⟨HB2.out.cell 0, HB2.out.cell 1, HB2.out.cell 2, HB2.out.cell 3, HB2.out.cell 4, HB2.out.cell 5, HB2.out.cell 6, HB2.out.cell 7⟩
    have z0 := HB0.out.lt
    have z1 := HB1.out.lt
    have z2 := HB2.out.lt
    simp only [List.getElem?_toArray, List.getElem?_cons_zero, List.getElem?_cons_succ] at a0 r0 r1 r2 r3 r4 r5 r6 y0 y1 y2 y3 y4 y5 y6 y7
    go_wp2_with fail
    refine (HLM.out _).mono ?_
    rintro e w2 ⟨rfl, hE⟩
    replace E := E.trans hE
    replace HB0 := hid (HB0.out.ext hE)
    replace HB1 := hid (HB1.out.ext hE)
    replace HB2 := hid (HB2.out.ext hE)
    clear hE
    (try clear a0 r0 r1 r2 r3 r4 r5 r6 y0 y1 y2 y3 y4 y5 y6 y7 z0 z1 z2)
    have a0 := HB0.out.cell 0
    obtain ⟨r0, r1, r2, r3, r4, r5, r6⟩ : _ ∧ _ ∧ _ ∧ _ ∧ _ ∧ _ ∧ _ := ⟨HB1.out.cell 0, HB1.out.cell 1, HB1.out.cell 2, HB1.out.cell 3, HB1.out.cell 4, HB1.out.cell 5, HB1.out.cell 6⟩
    obtain ⟨y0, y1, y2, y3, y4, y5, y6, y7⟩ : _ ∧ _ ∧ _ ∧ _ ∧ _ ∧ _ ∧ _ ∧ _ := ⟨HB2.out.cell 0, HB2.out.cell 1, HB2.out.cell 2, HB2.out.cell 3, HB2.out.cell 4, HB2.out.cell 5, HB2.out.cell 6, HB2.out.cell 7⟩
    have z0 := HB0.out.lt
    have z1 := HB1.out.lt
    have z2 := HB2.out.lt
    simp only [List.getElem?_toArray, List.getElem?_cons_zero, List.getElem?_cons_succ] at a0 r0 r1 r2 r3 r4 r5 r6 y0 y1 y2 y3 y4 y5 y6 y7
    go_wp2_with fail
    refine (HWK.out _ (by (repeat' (first | with_reducible assumption | with_reducible exact Ext.refl _ | with_reducible refine Ext.alloc ?_ _ | with_reducible refine Ext.set ?_ ?_ _ | with_reducible refine Ext.drew ?_ | with_reducible refine Ext.drewN ?_ _ | with_reducible refine Ext.trans ?_ (by assumption) | (dsimp only; omega))))).mono ?_
    rintro e w9 ⟨rfl, hE9⟩
    have EZ : Ext w w9 := by (repeat' (first | with_reducible assumption | with_reducible exact Ext.refl _ | with_reducible refine Ext.alloc ?_ _ | with_reducible refine Ext.set ?_ ?_ _ | with_reducible refine Ext.drew ?_ | with_reducible refine Ext.drewN ?_ _ | with_reducible refine Ext.trans ?_ (by assumption) | (dsimp only; omega)))
    go_wp2
    go_ret
    exact ⟨rfl, EZ⟩
  rw [hlm] at HLM
  by_cases q1 : len < 1
  case pos =>
    refine .inr ?_
    unfold Lm.val esCells at *
    obtain ⟨wi, ra, tl, th⟩ := l
    obtain ⟨yh, ys, yr, yt, yw, yn, yp, yl⟩ := y
    dsimp only at *
    clear h hfar hse hlm
    go_enter Tryd.func6, Tryd.ntmps6
    have HB0 := hid (show Blk _ _ _ _ from blk_old (blk_old (blk_last w (.cells #[.slice A n c] 24)) (.cells #[.slice SA m sc, .slice KA kn kc, .int .i64 wi, .int .i64 ra, .int .i64 tl, .int .i64 th, .int .i64 len] 46)) (.cells #[.int .i64 yh, .int .i64 ys, .int .i64 yr, .int .i64 yt, .int .i64 yw, .int .i64 yn, .int .i64 yp, .int .i64 yl] 68))
    have HB1 := hid (show Blk _ _ _ _ from blk_old (blk_last (w.alloc (.cells #[.slice A n c] 24)) (.cells #[.slice SA m sc, .slice KA kn kc, .int .i64 wi, .int .i64 ra, .int .i64 tl, .int .i64 th, .int .i64 len] 46)) (.cells #[.int .i64 yh, .int .i64 ys, .int .i64 yr, .int .i64 yt, .int .i64 yw, .int .i64 yn, .int .i64 yp, .int .i64 yl] 68))
    have HB2 := hid (show Blk _ _ _ _ from blk_last ((w.alloc (.cells #[.slice A n c] 24)).alloc (.cells #[.slice SA m sc, .slice KA kn kc, .int .i64 wi, .int .i64 ra, .int .i64 tl, .int .i64 th, .int .i64 len] 46)) (.cells #[.int .i64 yh, .int .i64 ys, .int .i64 yr, .int .i64 yt, .int .i64 yw, .int .i64 yn, .int .i64 yp, .int .i64 yl] 68))
    rw [World.size_alloc] at HB1
    rw [World.size_alloc, World.size_alloc] at HB2
    have E : Ext w (((w.alloc (.cells #[.slice A n c] 24)).alloc (.cells #[.slice SA m sc, .slice KA kn kc, .int .i64 wi, .int .i64 ra, .int .i64 tl, .int .i64 th, .int .i64 len] 46)).alloc (.cells #[.int .i64 yh, .int .i64 ys, .int .i64 yr, .int .i64 yt, .int .i64 yw, .int .i64 yn, .int .i64 yp, .int .i64 yl] 68)) := by (repeat' (first | with_reducible assumption | with_reducible exact Ext.refl _ | with_reducible refine Ext.alloc ?_ _ | with_reducible refine Ext.set ?_ ?_ _ | with_reducible refine Ext.drew ?_ | with_reducible refine Ext.drewN ?_ _ | with_reducible refine Ext.trans ?_ (by assumption) | (dsimp only; omega)))
    go_wp2_with fail
    refine (HF.out _ E).mono ?_
    rintro e w2 ⟨rfl, hE⟩
    replace E := E.trans hE
    replace HB0 := hid (HB0.out.ext hE)
    replace HB1 := hid (HB1.out.ext hE)
    replace HB2 := hid (HB2.out.ext hE)
    clear hE
    (try clear a0 r0 r1 r2 r3 r4 r5 r6 y0 y1 y2 y3 y4 y5 y6 y7 z0 z1 z2)
    have a0 := HB0.out.cell 0
    obtain ⟨r0, r1, r2, r3, r4, r5, r6⟩ : _ ∧ _ ∧ _ ∧ _ ∧ _ ∧ _ ∧ _ := ⟨HB1.out.cell 0, HB1.out.cell 1, HB1.out.cell 2, HB1.out.cell 3, HB1.out.cell 4, HB1.out.cell 5, HB1.out.cell 6⟩
    obtain ⟨y0, y1, y2, y3, y4, y5, y6, y7⟩ : _ ∧ _ ∧ _ ∧ _ ∧ _ ∧ _ ∧ _ ∧ _ := ⟨HB2.out.cell 0, HB2.out.cell 1, HB2.out.cell 2, HB2.out.cell 3, HB2.out.cell 4, HB2.out.cell 5, HB2.out.cell 6, HB2.out.cell 7⟩
    have z0 := HB0.out.lt
    have z1 := HB1.out.lt
    have z2 := HB2.out.lt
    simp only [List.getElem?_toArray, List.getElem?_cons_zero, List.getElem?_cons_succ] at a0 r0 r1 r2 r3 r4 r5 r6 y0 y1 y2 y3 y4 y5 y6 y7
    go_wp2_with fail
    refine (HSE.out _ E).mono ?_
    rintro e w2 ⟨rfl, hE⟩
    replace E := E.trans hE
    replace HB0 := hid (HB0.out.ext hE)
    replace HB1 := hid (HB1.out.ext hE)
    replace HB2 := hid (HB2.out.ext hE)
    clear hE
    (try clear a0 r0 r1 r2 r3 r4 r5 r6 y0 y1 y2 y3 y4 y5 y6 y7 z0 z1 z2)
    have a0 := HB0.out.cell 0
    obtain ⟨r0, r1, r2, r3, r4, r5, r6⟩ : _ ∧ _ ∧ _ ∧ _ ∧ _ ∧ _ ∧ _ := ⟨HB1.out.cell 0, HB1.out.cell 1, HB1.out.cell 2, HB1.out.cell 3, HB1.out.cell 4, HB1.out.cell 5, HB1.out.cell 6⟩
    obtain ⟨y0, y1, y2, y3, y4, y5, y6, y7⟩ : _ ∧ _ ∧ _ ∧ _ ∧ _ ∧ _ ∧ _ ∧ _ := ⟨HB2.out.cell 0, HB2.out.cell 1, HB2.out.cell 2, HB2.out.cell 3, HB2.out.cell 4, HB2.out.cell 5, HB2.out.cell 6, HB2.out.cell 7⟩
    have z0 := HB0.out.lt
    have z1 := HB1.out.lt
    have z2 := HB2.out.lt
    simp only [List.getElem?_toArray, List.getElem?_cons_zero, List.getElem?_cons_succ] at a0 r0 r1 r2 r3 r4 r5 r6 y0 y1 y2 y3 y4 y5 y6 y7
    go_wp2_with fail
    refine (HLM.out _).mono ?_
    rintro e w2 ⟨rfl, hE⟩
    replace E := E.trans hE
    replace HB0 := hid (HB0.out.ext hE)
    replace HB1 := hid (HB1.out.ext hE)
    replace HB2 := hid (HB2.out.ext hE)
    clear hE
    (try clear a0 r0 r1 r2 r3 r4 r5 r6 y0 y1 y2 y3 y4 y5 y6 y7 z0 z1 z2)
    have a0 := HB0.out.cell 0
    obtain ⟨r0, r1, r2, r3, r4, r5, r6⟩ : _ ∧ _ ∧ _ ∧ _ ∧ _ ∧ _ ∧ _ := ⟨HB1.out.cell 0, HB1.out.cell 1, HB1.out.cell 2, HB1.out.cell 3, HB1.out.cell 4, HB1.out.cell 5, HB1.out.cell 6⟩
    obtain ⟨y0, y1, y2, y3, y4, y5, y6, y7⟩ : _ ∧ _ ∧ _ ∧ _ ∧ _ ∧ _ ∧ _ ∧ _ := ⟨HB2.out.cell 0, HB2.out.cell 1, HB2.out.cell 2, HB2.out.cell 3, HB2.out.cell 4, HB2.out.cell 5, HB2.out.cell 6, HB2.out.cell 7⟩
    have z0 := HB0.out.lt
    have z1 := HB1.out.lt
    have z2 := HB2.out.lt
    simp only [List.getElem?_toArray, List.getElem?_cons_zero, List.getElem?_cons_succ] at a0 r0 r1 r2 r3 r4 r5 r6 y0 y1 y2 y3 y4 y5 y6 y7
    go_wp2_with fail
    refine (HWK.out _ (by (repeat' (first | with_reducible assumption | with_reducible exact Ext.refl _ | with_reducible refine Ext.alloc ?_ _ | with_reducible refine Ext.set ?_ ?_ _ | with_reducible refine Ext.drew ?_ | with_reducible refine Ext.drewN ?_ _ | with_reducible refine Ext.trans ?_ (by assumption) | (dsimp only; omega))))).mono ?_
    rintro e w9 ⟨rfl, hE9⟩
    have EZ : Ext w w9 := by (repeat' (first | with_reducible assumption | with_reducible exact Ext.refl _ | with_reducible refine Ext.alloc ?_ _ | with_reducible refine Ext.set ?_ ?_ _ | with_reducible refine Ext.drew ?_ | with_reducible refine Ext.drewN ?_ _ | with_reducible refine Ext.trans ?_ (by assumption) | (dsimp only; omega)))
    go_wp2
    go_ret
    exact ⟨rfl, EZ⟩
  by_cases q2 : 48 < len
  case pos =>
    refine .inr ?_
    unfold Lm.val esCells at *
    obtain ⟨wi, ra, tl, th⟩ := l
    obtain ⟨yh, ys, yr, yt, yw, yn, yp, yl⟩ := y
    dsimp only at *
    clear h hfar hse hlm
    go_enter Tryd.func6, Tryd.ntmps6
    have HB0 := hid (show Blk _ _ _ _ from blk_old (blk_old (blk_last w (.cells #[.slice A n c] 24)) (.cells #[.slice SA m sc, .slice KA kn kc, .int .i64 wi, .int .i64 ra, .int .i64 tl, .int .i64 th, .int .i64 len] 46)) (.cells #[.int .i64 yh, .int .i64 ys, .int .i64 yr, .int .i64 yt, .int .i64 yw, .int .i64 yn, .int .i64 yp, .int .i64 yl] 68))
    have HB1 := hid (show Blk _ _ _ _ from blk_old (blk_last (w.alloc (.cells #[.slice A n c] 24)) (.cells #[.slice SA m sc, .slice KA kn kc, .int .i64 wi, .int .i64 ra, .int .i64 tl, .int .i64 th, .int .i64 len] 46)) (.cells #[.int .i64 yh, .int .i64 ys, .int .i64 yr, .int .i64 yt, .int .i64 yw, .int .i64 yn, .int .i64 yp, .int .i64 yl] 68))
    have HB2 := hid (show Blk _ _ _ _ from blk_last ((w.alloc (.cells #[.slice A n c] 24)).alloc (.cells #[.slice SA m sc, .slice KA kn kc, .int .i64 wi, .int .i64 ra, .int .i64 tl, .int .i64 th, .int .i64 len] 46)) (.cells #[.int .i64 yh, .int .i64 ys, .int .i64 yr, .int .i64 yt, .int .i64 yw, .int .i64 yn, .int .i64 yp, .int .i64 yl] 68))
    rw [World.size_alloc] at HB1
    rw [World.size_alloc, World.size_alloc] at HB2
    have E : Ext w (((w.alloc (.cells #[.slice A n c] 24)).alloc (.cells #[.slice SA m sc, .slice KA kn kc, .int .i64 wi, .int .i64 ra, .int .i64 tl, .int .i64 th, .int .i64 len] 46)).alloc (.cells #[.int .i64 yh, .int .i64 ys, .int .i64 yr, .int .i64 yt, .int .i64 yw, .int .i64 yn, .int .i64 yp, .int .i64 yl] 68)) := by (repeat' (first | with_reducible assumption | with_reducible exact Ext.refl _ | with_reducible refine Ext.alloc ?_ _ | with_reducible refine Ext.set ?_ ?_ _ | with_reducible refine Ext.drew ?_ | with_reducible refine Ext.drewN ?_ _ | with_reducible refine Ext.trans ?_ (by assumption) | (dsimp only; omega)))
    go_wp2_with fail
    refine (HF.out _ E).mono ?_
    rintro e w2 ⟨rfl, hE⟩
    replace E := E.trans hE
    replace HB0 := hid (HB0.out.ext hE)
    replace HB1 := hid (HB1.out.ext hE)
    replace HB2 := hid (HB2.out.ext hE)
    clear hE
    (try clear a0 r0 r1 r2 r3 r4 r5 r6 y0 y1 y2 y3 y4 y5 y6 y7 z0 z1 z2)
    have a0 := HB0.out.cell 0
    obtain ⟨r0, r1, r2, r3, r4, r5, r6⟩ : _ ∧ _ ∧ _ ∧ _ ∧ _ ∧ _ ∧ _ := ⟨HB1.out.cell 0, HB1.out.cell 1, HB1.out.cell 2, HB1.out.cell 3, HB1.out.cell 4, HB1.out.cell 5, HB1.out.cell 6⟩
    obtain ⟨y0, y1, y2, y3, y4, y5, y6, y7⟩ : _ ∧ _ ∧ _ ∧ _ ∧ _ ∧ _ ∧ _ ∧ _ := ⟨HB2.out.cell 0, HB2.out.cell 1, HB2.out.cell 2, HB2.out.cell 3, HB2.out.cell 4, HB2.out.cell 5, HB2.out.cell 6, HB2.out.cell 7⟩
    have z0 := HB0.out.lt
    have z1 := HB1.out.lt
    have z2 := HB2.out.lt
    simp only [List.getElem?_toArray, List.getElem?_cons_zero, List.getElem?_cons_succ] at a0 r0 r1 r2 r3 r4 r5 r6 y0 y1 y2 y3 y4 y5 y6 y7
    go_wp2_with fail
    refine (HSE.out _ E).mono ?_
    rintro e w2 ⟨rfl, hE⟩
    replace E := E.trans hE
    replace HB0 := hid (HB0.out.ext hE)
    replace HB1 := hid (HB1.out.ext hE)
    replace HB2 := hid (HB2.out.ext hE)
    clear hE
    (try clear a0 r0 r1 r2 r3 r4 r5 r6 y0 y1 y2 y3 y4 y5 y6 y7 z0 z1 z2)
    have a0 := HB0.out.cell 0
    obtain ⟨r0, r1, r2, r3, r4, r5, r6⟩ : _ ∧ _ ∧ _ ∧ _ ∧ _ ∧ _ ∧ _ := ⟨HB1.out.cell 0, HB1.out.cell 1, HB1.out.cell 2, HB1.out.cell 3, HB1.out.cell 4, HB1.out.cell 5, HB1.out.cell 6⟩
    obtain ⟨y0, y1, y2, y3, y4, y5, y6, y7⟩ : _ ∧ _ ∧ _ ∧ _ ∧ _ ∧ _ ∧ _ ∧ _ := ⟨HB2.out.cell 0, HB2.out.cell 1, HB2.out.cell 2, HB2.out.cell 3, HB2.out.cell 4, HB2.out.cell 5, HB2.out.cell 6, HB2.out.cell 7⟩
    have z0 := HB0.out.lt
    have z1 := HB1.out.lt
    have z2 := HB2.out.lt
    simp only [List.getElem?_toArray, List.getElem?_cons_zero, List.getElem?_cons_succ] at a0 r0 r1 r2 r3 r4 r5 r6 y0 y1 y2 y3 y4 y5 y6 y7
    go_wp2_with fail
    refine (HLM.out _).mono ?_
    rintro e w2 ⟨rfl, hE⟩
    replace E := E.trans hE
    replace HB0 := hid (HB0.out.ext hE)
    replace HB1 := hid (HB1.out.ext hE)
    replace HB2 := hid (HB2.out.ext hE)
    clear hE
    (try clear a0 r0 r1 r2 r3 r4 r5 r6 y0 y1 y2 y3 y4 y5 y6 y7 z0 z1 z2)
    have a0 := HB0.out.cell 0
    obtain ⟨r0, r1, r2, r3, r4, r5, r6⟩ : _ ∧ _ ∧ _ ∧ _ ∧ _ ∧ _ ∧ _ := ⟨HB1.out.cell 0, HB1.out.cell 1, HB1.out.cell 2, HB1.out.cell 3, HB1.out.cell 4, HB1.out.cell 5, HB1.out.cell 6⟩
    obtain ⟨y0, y1, y2, y3, y4, y5, y6, y7⟩ : _ ∧ _ ∧ _ ∧ _ ∧ _ ∧ _ ∧ _ ∧ _ := ⟨HB2.out.cell 0, HB2.out.cell 1, HB2.out.cell 2, HB2.out.cell 3, HB2.out.cell 4, HB2.out.cell 5, HB2.out.cell 6, HB2.out.cell 7⟩
    have z0 := HB0.out.lt
    have z1 := HB1.out.lt
    have z2 := HB2.out.lt
    simp only [List.getElem?_toArray, List.getElem?_cons_zero, List.getElem?_cons_succ] at a0 r0 r1 r2 r3 r4 r5 r6 y0 y1 y2 y3 y4 y5 y6 y7
    go_wp2_with fail
    refine (HWK.out _ (by (repeat' (first | with_reducible assumption | with_reducible exact Ext.refl _ | with_reducible refine Ext.alloc ?_ _ | with_reducible refine Ext.set ?_ ?_ _ | with_reducible refine Ext.drew ?_ | with_reducible refine Ext.drewN ?_ _ | with_reducible refine Ext.trans ?_ (by assumption) | (dsimp only; omega))))).mono ?_
    rintro e w9 ⟨rfl, hE9⟩
    have EZ : Ext w w9 := by (repeat' (first | with_reducible assumption | with_reducible exact Ext.refl _ | with_reducible refine Ext.alloc ?_ _ | with_reducible refine Ext.set ?_ ?_ _ | with_reducible refine Ext.drew ?_ | with_reducible refine Ext.drewN ?_ _ | with_reducible refine Ext.trans ?_ (by assumption) | (dsimp only; omega)))
    go_wp2
    go_ret
    exact ⟨rfl, EZ⟩
  by_cases q3 : y.wind < 0
  case pos =>
    refine .inr ?_
    unfold Lm.val esCells at *
    obtain ⟨wi, ra, tl, th⟩ := l
    obtain ⟨yh, ys, yr, yt, yw, yn, yp, yl⟩ := y
    dsimp only at *
    clear h hfar hse hlm
    go_enter Tryd.func6, Tryd.ntmps6
    have HB0 := hid (show Blk _ _ _ _ from blk_old (blk_old (blk_last w (.cells #[.slice A n c] 24)) (.cells #[.slice SA m sc, .slice KA kn kc, .int .i64 wi, .int .i64 ra, .int .i64 tl, .int .i64 th, .int .i64 len] 46)) (.cells #[.int .i64 yh, .int .i64 ys, .int .i64 yr, .int .i64 yt, .int .i64 yw, .int .i64 yn, .int .i64 yp, .int .i64 yl] 68))
    have HB1 := hid (show Blk _ _ _ _ from blk_old (blk_last (w.alloc (.cells #[.slice A n c] 24)) (.cells #[.slice SA m sc, .slice KA kn kc, .int .i64 wi, .int .i64 ra, .int .i64 tl, .int .i64 th, .int .i64 len] 46)) (.cells #[.int .i64 yh, .int .i64 ys, .int .i64 yr, .int .i64 yt, .int .i64 yw, .int .i64 yn, .int .i64 yp, .int .i64 yl] 68))
    have HB2 := hid (show Blk _ _ _ _ from blk_last ((w.alloc (.cells #[.slice A n c] 24)).alloc (.cells #[.slice SA m sc, .slice KA kn kc, .int .i64 wi, .int .i64 ra, .int .i64 tl, .int .i64 th, .int .i64 len] 46)) (.cells #[.int .i64 yh, .int .i64 ys, .int .i64 yr, .int .i64 yt, .int .i64 yw, .int .i64 yn, .int .i64 yp, .int .i64 yl] 68))
    rw [World.size_alloc] at HB1
    rw [World.size_alloc, World.size_alloc] at HB2
    have E : Ext w (((w.alloc (.cells #[.slice A n c] 24)).alloc (.cells #[.slice SA m sc, .slice KA kn kc, .int .i64 wi, .int .i64 ra, .int .i64 tl, .int .i64 th, .int .i64 len] 46)).alloc (.cells #[.int .i64 yh, .int .i64 ys, .int .i64 yr, .int .i64 yt, .int .i64 yw, .int .i64 yn, .int .i64 yp, .int .i64 yl] 68)) := by (repeat' (first | with_reducible assumption | with_reducible exact Ext.refl _ | with_reducible refine Ext.alloc ?_ _ | with_reducible refine Ext.set ?_ ?_ _ | with_reducible refine Ext.drew ?_ | with_reducible refine Ext.drewN ?_ _ | with_reducible refine Ext.trans ?_ (by assumption) | (dsimp only; omega)))
    go_wp2_with fail
    refine (HF.out _ E).mono ?_
    rintro e w2 ⟨rfl, hE⟩
    replace E := E.trans hE
    replace HB0 := hid (HB0.out.ext hE)
    replace HB1 := hid (HB1.out.ext hE)
    replace HB2 := hid (HB2.out.ext hE)
    clear hE
    (try clear a0 r0 r1 r2 r3 r4 r5 r6 y0 y1 y2 y3 y4 y5 y6 y7 z0 z1 z2)
    have a0 := HB0.out.cell 0
    obtain ⟨r0, r1, r2, r3, r4, r5, r6⟩ : _ ∧ _ ∧ _ ∧ _ ∧ _ ∧ _ ∧ _ := ⟨HB1.out.cell 0, HB1.out.cell 1, HB1.out.cell 2, HB1.out.cell 3, HB1.out.cell 4, HB1.out.cell 5, HB1.out.cell 6⟩
    obtain ⟨y0, y1, y2, y3, y4, y5, y6, y7⟩ : _ ∧ _ ∧ _ ∧ _ ∧ _ ∧ _ ∧ _ ∧ _ := ⟨HB2.out.cell 0, HB2.out.cell 1, HB2.out.cell 2, HB2.out.cell 3, HB2.out.cell 4, HB2.out.cell 5, HB2.out.cell 6, HB2.out.cell 7⟩
    have z0 := HB0.out.lt
    have z1 := HB1.out.lt
    have z2 := HB2.out.lt
    simp only [List.getElem?_toArray, List.getElem?_cons_zero, List.getElem?_cons_succ] at a0 r0 r1 r2 r3 r4 r5 r6 y0 y1 y2 y3 y4 y5 y6 y7
    go_wp2_with fail
    refine (HSE.out _ E).mono ?_
    rintro e w2 ⟨rfl, hE⟩
    replace E := E.trans hE
    replace HB0 := hid (HB0.out.ext hE)
    replace HB1 := hid (HB1.out.ext hE)
    replace HB2 := hid (HB2.out.ext hE)
    clear hE
    (try clear a0 r0 r1 r2 r3 r4 r5 r6 y0 y1 y2 y3 y4 y5 y6 y7 z0 z1 z2)
    have a0 := HB0.out.cell 0
    obtain ⟨r0, r1, r2, r3, r4, r5, r6⟩ : _ ∧ _ ∧ _ ∧ _ ∧ _ ∧ _ ∧ _ := ⟨HB1.out.cell 0, HB1.out.cell 1, HB1.out.cell 2, HB1.out.cell 3, HB1.out.cell 4, HB1.out.cell 5, HB1.out.cell 6⟩
    obtain ⟨y0, y1, y2, y3, y4, y5, y6, y7⟩ : _ ∧ _ ∧ _ ∧ _ ∧ _ ∧ _ ∧ _ ∧ _ := ⟨HB2.out.cell 0, HB2.out.cell 1, HB2.out.cell 2, HB2.out.cell 3, HB2.out.cell 4, HB2.out.cell 5, HB2.out.cell 6, HB2.out.cell 7⟩
    have z0 := HB0.out.lt
    have z1 := HB1.out.lt
    have z2 := HB2.out.lt
    simp only [List.getElem?_toArray, List.getElem?_cons_zero, List.getElem?_cons_succ] at a0 r0 r1 r2 r3 r4 r5 r6 y0 y1 y2 y3 y4 y5 y6 y7
    go_wp2_with fail
    refine (HLM.out _).mono ?_
    rintro e w2 ⟨rfl, hE⟩
    replace E := E.trans hE
    replace HB0 := hid (HB0.out.ext hE)
    replace HB1 := hid (HB1.out.ext hE)
    replace HB2 := hid (HB2.out.ext hE)
    clear hE
    (try clear a0 r0 r1 r2 r3 r4 r5 r6 y0 y1 y2 y3 y4 y5 y6 y7 z0 z1 z2)
    have a0 := HB0.out.cell 0
    obtain ⟨r0, r1, r2, r3, r4, r5, r6⟩ : _ ∧ _ ∧ _ ∧ _ ∧ _ ∧ _ ∧ _ := ⟨HB1.out.cell 0, HB1.out.cell 1, HB1.out.cell 2, HB1.out.cell 3, HB1.out.cell 4, HB1.out.cell 5, HB1.out.cell 6⟩
    obtain ⟨y0, y1, y2, y3, y4, y5, y6, y7⟩ : _ ∧ _ ∧ _ ∧ _ ∧ _ ∧ _ ∧ _ ∧ _ := ⟨HB2.out.cell 0, HB2.out.cell 1, HB2.out.cell 2, HB2.out.cell 3, HB2.out.cell 4, HB2.out.cell 5, HB2.out.cell 6, HB2.out.cell 7⟩
    have z0 := HB0.out.lt
    have z1 := HB1.out.lt
    have z2 := HB2.out.lt
    simp only [List.getElem?_toArray, List.getElem?_cons_zero, List.getElem?_cons_succ] at a0 r0 r1 r2 r3 r4 r5 r6 y0 y1 y2 y3 y4 y5 y6 y7
    go_wp2_with fail
    refine (HWK.out _ (by (repeat' (first | with_reducible assumption | with_reducible exact Ext.refl _ | with_reducible refine Ext.alloc ?_ _ | with_reducible refine Ext.set ?_ ?_ _ | with_reducible refine Ext.drew ?_ | with_reducible refine Ext.drewN ?_ _ | with_reducible refine Ext.trans ?_ (by assumption) | (dsimp only; omega))))).mono ?_
    rintro e w9 ⟨rfl, hE9⟩
    have EZ : Ext w w9 := by (repeat' (first | with_reducible assumption | with_reducible exact Ext.refl _ | with_reducible refine Ext.alloc ?_ _ | with_reducible refine Ext.set ?_ ?_ _ | with_reducible refine Ext.drew ?_ | with_reducible refine Ext.drewN ?_ _ | with_reducible refine Ext.trans ?_ (by assumption) | (dsimp only; omega)))
    go_wp2
    go_ret
    exact ⟨rfl, EZ⟩
  by_cases q4 : y.rain < 0
  case pos =>
    refine .inr ?_
    unfold Lm.val esCells at *
    obtain ⟨wi, ra, tl, th⟩ := l
    obtain ⟨yh, ys, yr, yt, yw, yn, yp, yl⟩ := y
    dsimp only at *
    clear h hfar hse hlm
    go_enter Tryd.func6, Tryd.ntmps6
    have HB0 := hid (show Blk _ _ _ _ from blk_old (blk_old (blk_last w (.cells #[.slice A n c] 24)) (.cells #[.slice SA m sc, .slice KA kn kc, .int .i64 wi, .int .i64 ra, .int .i64 tl, .int .i64 th, .int .i64 len] 46)) (.cells #[.int .i64 yh, .int .i64 ys, .int .i64 yr, .int .i64 yt, .int .i64 yw, .int .i64 yn, .int .i64 yp, .int .i64 yl] 68))
    have HB1 := hid (show Blk _ _ _ _ from blk_old (blk_last (w.alloc (.cells #[.slice A n c] 24)) (.cells #[.slice SA m sc, .slice KA kn kc, .int .i64 wi, .int .i64 ra, .int .i64 tl, .int .i64 th, .int .i64 len] 46)) (.cells #[.int .i64 yh, .int .i64 ys, .int .i64 yr, .int .i64 yt, .int .i64 yw, .int .i64 yn, .int .i64 yp, .int .i64 yl] 68))
    have HB2 := hid (show Blk _ _ _ _ from blk_last ((w.alloc (.cells #[.slice A n c] 24)).alloc (.cells #[.slice SA m sc, .slice KA kn kc, .int .i64 wi, .int .i64 ra, .int .i64 tl, .int .i64 th, .int .i64 len] 46)) (.cells #[.int .i64 yh, .int .i64 ys, .int .i64 yr, .int .i64 yt, .int .i64 yw, .int .i64 yn, .int .i64 yp, .int .i64 yl] 68))
    rw [World.size_alloc] at HB1
    rw [World.size_alloc, World.size_alloc] at HB2
    have E : Ext w (((w.alloc (.cells #[.slice A n c] 24)).alloc (.cells #[.slice SA m sc, .slice KA kn kc, .int .i64 wi, .int .i64 ra, .int .i64 tl, .int .i64 th, .int .i64 len] 46)).alloc (.cells #[.int .i64 yh, .int .i64 ys, .int .i64 yr, .int .i64 yt, .int .i64 yw, .int .i64 yn, .int .i64 yp, .int .i64 yl] 68)) := by (repeat' (first | with_reducible assumption | with_reducible exact Ext.refl _ | with_reducible refine Ext.alloc ?_ _ | with_reducible refine Ext.set ?_ ?_ _ | with_reducible refine Ext.drew ?_ | with_reducible refine Ext.drewN ?_ _ | with_reducible refine Ext.trans ?_ (by assumption) | (dsimp only; omega)))
    go_wp2_with fail
    refine (HF.out _ E).mono ?_
    rintro e w2 ⟨rfl, hE⟩
    replace E := E.trans hE
    replace HB0 := hid (HB0.out.ext hE)
    replace HB1 := hid (HB1.out.ext hE)
    replace HB2 := hid (HB2.out.ext hE)
    clear hE
    (try clear a0 r0 r1 r2 r3 r4 r5 r6 y0 y1 y2 y3 y4 y5 y6 y7 z0 z1 z2)
    have a0 := HB0.out.cell 0
    obtain ⟨r0, r1, r2, r3, r4, r5, r6⟩ : _ ∧ _ ∧ _ ∧ _ ∧ _ ∧ _ ∧ _ := ⟨HB1.out.cell 0, HB1.out.cell 1, HB1.out.cell 2, HB1.out.cell 3, HB1.out.cell 4, HB1.out.cell 5, HB1.out.cell 6⟩
    obtain ⟨y0, y1, y2, y3, y4, y5, y6, y7⟩ : _ ∧ _ ∧ _ ∧ _ ∧ _ ∧ _ ∧ _ ∧ _ := ⟨HB2.out.cell 0, HB2.out.cell 1, HB2.out.cell 2, HB2.out.cell 3, HB2.out.cell 4, HB2.out.cell 5, HB2.out.cell 6, HB2.out.cell 7⟩
    have z0 := HB0.out.lt
    have z1 := HB1.out.lt
    have z2 := HB2.out.lt
    simp only [List.getElem?_toArray, List.getElem?_cons_zero, List.getElem?_cons_succ] at a0 r0 r1 r2 r3 r4 r5 r6 y0 y1 y2 y3 y4 y5 y6 y7
    go_wp2_with fail
    refine (HSE.out _ E).mono ?_
    rintro e w2 ⟨rfl, hE⟩
    replace E := E.trans hE
    replace HB0 := hid (HB0.out.ext hE)
    replace HB1 := hid (HB1.out.ext hE)
    replace HB2 := hid (HB2.out.ext hE)
    clear hE
    (try clear a0 r0 r1 r2 r3 r4 r5 r6 y0 y1 y2 y3 y4 y5 y6 y7 z0 z1 z2)
    have a0 := HB0.out.cell 0
    obtain ⟨r0, r1, r2, r3, r4, r5, r6⟩ : _ ∧ _ ∧ _ ∧ _ ∧ _ ∧ _ ∧ _ := ⟨HB1.out.cell 0, HB1.out.cell 1, HB1.out.cell 2, HB1.out.cell 3, HB1.out.cell 4, HB1.out.cell 5, HB1.out.cell 6⟩
    obtain ⟨y0, y1, y2, y3, y4, y5, y6, y7⟩ : _ ∧ _ ∧ _ ∧ _ ∧ _ ∧ _ ∧ _ ∧ _ := ⟨HB2.out.cell 0, HB2.out.cell 1, HB2.out.cell 2, HB2.out.cell 3, HB2.out.cell 4, HB2.out.cell 5, HB2.out.cell 6, HB2.out.cell 7⟩
    have z0 := HB0.out.lt
    have z1 := HB1.out.lt
    have z2 := HB2.out.lt
    simp only [List.getElem?_toArray, List.getElem?_cons_zero, List.getElem?_cons_succ] at a0 r0 r1 r2 r3 r4 r5 r6 y0 y1 y2 y3 y4 y5 y6 y7
    go_wp2_with fail
    refine (HLM.out _).mono ?_
    rintro e w2 ⟨rfl, hE⟩
    replace E := E.trans hE
    replace HB0 := hid (HB0.out.ext hE)
    replace HB1 := hid (HB1.out.ext hE)
    replace HB2 := hid (HB2.out.ext hE)
    clear hE
    (try clear a0 r0 r1 r2 r3 r4 r5 r6 y0 y1 y2 y3 y4 y5 y6 y7 z0 z1 z2)
    have a0 := HB0.out.cell 0
    obtain ⟨r0, r1, r2, r3, r4, r5, r6⟩ : _ ∧ _ ∧ _ ∧ _ ∧ _ ∧ _ ∧ _ := ⟨HB1.out.cell 0, HB1.out.cell 1, HB1.out.cell 2, HB1.out.cell 3, HB1.out.cell 4, HB1.out.cell 5, HB1.out.cell 6⟩
    obtain ⟨y0, y1, y2, y3, y4, y5, y6, y7⟩ : _ ∧ _ ∧ _ ∧ _ ∧ _ ∧ _ ∧ _ ∧ _ := ⟨HB2.out.cell 0, HB2.out.cell 1, HB2.out.cell 2, HB2.out.cell 3, HB2.out.cell 4, HB2.out.cell 5, HB2.out.cell 6, HB2.out.cell 7⟩
    have z0 := HB0.out.lt
    have z1 := HB1.out.lt
    have z2 := HB2.out.lt
    simp only [List.getElem?_toArray, List.getElem?_cons_zero, List.getElem?_cons_succ] at a0 r0 r1 r2 r3 r4 r5 r6 y0 y1 y2 y3 y4 y5 y6 y7
    go_wp2_with fail
    refine (HWK.out _ (by (repeat' (first | with_reducible assumption | with_reducible exact Ext.refl _ | with_reducible refine Ext.alloc ?_ _ | with_reducible refine Ext.set ?_ ?_ _ | with_reducible refine Ext.drew ?_ | with_reducible refine Ext.drewN ?_ _ | with_reducible refine Ext.trans ?_ (by assumption) | (dsimp only; omega))))).mono ?_
    rintro e w9 ⟨rfl, hE9⟩
    have EZ : Ext w w9 := by (repeat' (first | with_reducible assumption | with_reducible exact Ext.refl _ | with_reducible refine Ext.alloc ?_ _ | with_reducible refine Ext.set ?_ ?_ _ | with_reducible refine Ext.drew ?_ | with_reducible refine Ext.drewN ?_ _ | with_reducible refine Ext.trans ?_ (by assumption) | (dsimp only; omega)))
    go_wp2
    go_ret
    exact ⟨rfl, EZ⟩
  by_cases q5 : y.temp < 0
  case pos =>
    refine .inr ?_
    unfold Lm.val esCells at *
    obtain ⟨wi, ra, tl, th⟩ := l
    obtain ⟨yh, ys, yr, yt, yw, yn, yp, yl⟩ := y
    dsimp only at *
    clear h hfar hse hlm
    go_enter Tryd.func6, Tryd.ntmps6
    have HB0 := hid (show Blk _ _ _ _ from blk_old (blk_old (blk_last w (.cells #[.slice A n c] 24)) (.cells #[.slice SA m sc, .slice KA kn kc, .int .i64 wi, .int .i64 ra, .int .i64 tl, .int .i64 th, .int .i64 len] 46)) (.cells #[.int .i64 yh, .int .i64 ys, .int .i64 yr, .int .i64 yt, .int .i64 yw, .int .i64 yn, .int .i64 yp, .int .i64 yl] 68))
    have HB1 := hid (show Blk _ _ _ _ from blk_old (blk_last (w.alloc (.cells #[.slice A n c] 24)) (.cells #[.slice SA m sc, .slice KA kn kc, .int .i64 wi, .int .i64 ra, .int .i64 tl, .int .i64 th, .int .i64 len] 46)) (.cells #[.int .i64 yh, .int .i64 ys, .int .i64 yr, .int .i64 yt, .int .i64 yw, .int .i64 yn, .int .i64 yp, .int .i64 yl] 68))
    have HB2 := hid (show Blk _ _ _ _ from blk_last ((w.alloc (.cells #[.slice A n c] 24)).alloc (.cells #[.slice SA m sc, .slice KA kn kc, .int .i64 wi, .int .i64 ra, .int .i64 tl, .int .i64 th, .int .i64 len] 46)) (.cells #[.int .i64 yh, .int .i64 ys, .int .i64 yr, .int .i64 yt, .int .i64 yw, .int .i64 yn, .int .i64 yp, .int .i64 yl] 68))
    rw [World.size_alloc] at HB1
    rw [World.size_alloc, World.size_alloc] at HB2
    have E : Ext w (((w.alloc (.cells #[.slice A n c] 24)).alloc (.cells #[.slice SA m sc, .slice KA kn kc, .int .i64 wi, .int .i64 ra, .int .i64 tl, .int .i64 th, .int .i64 len] 46)).alloc (.cells #[.int .i64 yh, .int .i64 ys, .int .i64 yr, .int .i64 yt, .int .i64 yw, .int .i64 yn, .int .i64 yp, .int .i64 yl] 68)) := by (repeat' (first | with_reducible assumption | with_reducible exact Ext.refl _ | with_reducible refine Ext.alloc ?_ _ | with_reducible refine Ext.set ?_ ?_ _ | with_reducible refine Ext.drew ?_ | with_reducible refine Ext.drewN ?_ _ | with_reducible refine Ext.trans ?_ (by assumption) | (dsimp only; omega)))
    go_wp2_with fail
    refine (HF.out _ E).mono ?_
    rintro e w2 ⟨rfl, hE⟩
    replace E := E.trans hE
    replace HB0 := hid (HB0.out.ext hE)
    replace HB1 := hid (HB1.out.ext hE)
    replace HB2 := hid (HB2.out.ext hE)
    clear hE
    (try clear a0 r0 r1 r2 r3 r4 r5 r6 y0 y1 y2 y3 y4 y5 y6 y7 z0 z1 z2)
    have a0 := HB0.out.cell 0
    obtain ⟨r0, r1, r2, r3, r4, r5, r6⟩ : _ ∧ _ ∧ _ ∧ _ ∧ _ ∧ _ ∧ _ := ⟨HB1.out.cell 0, HB1.out.cell 1, HB1.out.cell 2, HB1.out.cell 3, HB1.out.cell 4, HB1.out.cell 5, HB1.out.cell 6⟩
    obtain ⟨y0, y1, y2, y3, y4, y5, y6, y7⟩ : _ ∧ _ ∧ _ ∧ _ ∧ _ ∧ _ ∧ _ ∧ _ := ⟨HB2.out.cell 0, HB2.out.cell 1, HB2.out.cell 2, HB2.out.cell 3, HB2.out.cell 4, HB2.out.cell 5, HB2.out.cell 6, HB2.out.cell 7⟩
    have z0 := HB0.out.lt
    have z1 := HB1.out.lt
    have z2 := HB2.out.lt
    simp only [List.getElem?_toArray, List.getElem?_cons_zero, List.getElem?_cons_succ] at a0 r0 r1 r2 r3 r4 r5 r6 y0 y1 y2 y3 y4 y5 y6 y7
    go_wp2_with fail
    refine (HSE.out _ E).mono ?_
    rintro e w2 ⟨rfl, hE⟩
    replace E := E.trans hE
    replace HB0 := hid (HB0.out.ext hE)
    replace HB1 := hid (HB1.out.ext hE)
    replace HB2 := hid (HB2.out.ext hE)
    clear hE
    (try clear a0 r0 r1 r2 r3 r4 r5 r6 y0 y1 y2 y3 y4 y5 y6 y7 z0 z1 z2)
    have a0 := HB0.out.cell 0
    obtain ⟨r0, r1, r2, r3, r4, r5, r6⟩ : _ ∧ _ ∧ _ ∧ _ ∧ _ ∧ _ ∧ _ := ⟨HB1.out.cell 0, HB1.out.cell 1, HB1.out.cell 2, HB1.out.cell 3, HB1.out.cell 4, HB1.out.cell 5, HB1.out.cell 6⟩
    obtain ⟨y0, y1, y2, y3, y4, y5, y6, y7⟩ : _ ∧ _ ∧ _ ∧ _ ∧ _ ∧ _ ∧ _ ∧ _ := ⟨HB2.out.cell 0, HB2.out.cell 1, HB2.out.cell 2, HB2.out.cell 3, HB2.out.cell 4, HB2.out.cell 5, HB2.out.cell 6, HB2.out.cell 7⟩
    have z0 := HB0.out.lt
    have z1 := HB1.out.lt
    have z2 := HB2.out.lt
    simp only [List.getElem?_toArray, List.getElem?_cons_zero, List.getElem?_cons_succ] at a0 r0 r1 r2 r3 r4 r5 r6 y0 y1 y2 y3 y4 y5 y6 y7
    go_wp2_with fail
    refine (HLM.out _).mono ?_
    rintro e w2 ⟨rfl, hE⟩
    replace E := E.trans hE
    replace HB0 := hid (HB0.out.ext hE)
    replace HB1 := hid (HB1.out.ext hE)
    replace HB2 := hid (HB2.out.ext hE)
    clear hE
    (try clear a0 r0 r1 r2 r3 r4 r5 r6 y0 y1 y2 y3 y4 y5 y6 y7 z0 z1 z2)
    have a0 := HB0.out.cell 0
    obtain ⟨r0, r1, r2, r3, r4, r5, r6⟩ : _ ∧ _ ∧ _ ∧ _ ∧ _ ∧ _ ∧ _ := ⟨HB1.out.cell 0, HB1.out.cell 1, HB1.out.cell 2, HB1.out.cell 3, HB1.out.cell 4, HB1.out.cell 5, HB1.out.cell 6⟩
    obtain ⟨y0, y1, y2, y3, y4, y5, y6, y7⟩ : _ ∧ _ ∧ _ ∧ _ ∧ _ ∧ _ ∧ _ ∧ _ := ⟨HB2.out.cell 0, HB2.out.cell 1, HB2.out.cell 2, HB2.out.cell 3, HB2.out.cell 4, HB2.out.cell 5, HB2.out.cell 6, HB2.out.cell 7⟩
    have z0 := HB0.out.lt
    have z1 := HB1.out.lt
    have z2 := HB2.out.lt
    simp only [List.getElem?_toArray, List.getElem?_cons_zero, List.getElem?_cons_succ] at a0 r0 r1 r2 r3 r4 r5 r6 y0 y1 y2 y3 y4 y5 y6 y7
    go_wp2_with fail
    refine (HWK.out _ (by (repeat' (first | with_reducible assumption | with_reducible exact Ext.refl _ | with_reducible refine Ext.alloc ?_ _ | with_reducible refine Ext.set ?_ ?_ _ | with_reducible refine Ext.drew ?_ | with_reducible refine Ext.drewN ?_ _ | with_reducible refine Ext.trans ?_ (by assumption) | (dsimp only; omega))))).mono ?_
    rintro e w9 ⟨rfl, hE9⟩
    have EZ : Ext w w9 := by (repeat' (first | with_reducible assumption | with_reducible exact Ext.refl _ | with_reducible refine Ext.alloc ?_ _ | with_reducible refine Ext.set ?_ ?_ _ | with_reducible refine Ext.drew ?_ | with_reducible refine Ext.drewN ?_ _ | with_reducible refine Ext.trans ?_ (by assumption) | (dsimp only; omega)))
    go_wp2
    go_ret
    exact ⟨rfl, EZ⟩
  by_cases q6 : 1000 < y.wind
  case pos =>
    refine .inr ?_
    unfold Lm.val esCells at *
    obtain ⟨wi, ra, tl, th⟩ := l
    obtain ⟨yh, ys, yr, yt, yw, yn, yp, yl⟩ := y
    dsimp only at *
    clear h hfar hse hlm
    go_enter Tryd.func6, Tryd.ntmps6
    have HB0 := hid (show Blk _ _ _ _ from blk_old (blk_old (blk_last w (.cells #[.slice A n c] 24)) (.cells #[.slice SA m sc, .slice KA kn kc, .int .i64 wi, .int .i64 ra, .int .i64 tl, .int .i64 th, .int .i64 len] 46)) (.cells #[.int .i64 yh, .int .i64 ys, .int .i64 yr, .int .i64 yt, .int .i64 yw, .int .i64 yn, .int .i64 yp, .int .i64 yl] 68))
    have HB1 := hid (show Blk _ _ _ _ from blk_old (blk_last (w.alloc (.cells #[.slice A n c] 24)) (.cells #[.slice SA m sc, .slice KA kn kc, .int .i64 wi, .int .i64 ra, .int .i64 tl, .int .i64 th, .int .i64 len] 46)) (.cells #[.int .i64 yh, .int .i64 ys, .int .i64 yr, .int .i64 yt, .int .i64 yw, .int .i64 yn, .int .i64 yp, .int .i64 yl] 68))
    have HB2 := hid (show Blk _ _ _ _ from blk_last ((w.alloc (.cells #[.slice A n c] 24)).alloc (.cells #[.slice SA m sc, .slice KA kn kc, .int .i64 wi, .int .i64 ra, .int .i64 tl, .int .i64 th, .int .i64 len] 46)) (.cells #[.int .i64 yh, .int .i64 ys, .int .i64 yr, .int .i64 yt, .int .i64 yw, .int .i64 yn, .int .i64 yp, .int .i64 yl] 68))
    rw [World.size_alloc] at HB1
    rw [World.size_alloc, World.size_alloc] at HB2
    have E : Ext w (((w.alloc (.cells #[.slice A n c] 24)).alloc (.cells #[.slice SA m sc, .slice KA kn kc, .int .i64 wi, .int .i64 ra, .int .i64 tl, .int .i64 th, .int .i64 len] 46)).alloc (.cells #[.int .i64 yh, .int .i64 ys, .int .i64 yr, .int .i64 yt, .int .i64 yw, .int .i64 yn, .int .i64 yp, .int .i64 yl] 68)) := by (repeat' (first | with_reducible assumption | with_reducible exact Ext.refl _ | with_reducible refine Ext.alloc ?_ _ | with_reducible refine Ext.set ?_ ?_ _ | with_reducible refine Ext.drew ?_ | with_reducible refine Ext.drewN ?_ _ | with_reducible refine Ext.trans ?_ (by assumption) | (dsimp only; omega)))
    go_wp2_with fail
    refine (HF.out _ E).mono ?_
    rintro e w2 ⟨rfl, hE⟩
    replace E := E.trans hE
    replace HB0 := hid (HB0.out.ext hE)
    replace HB1 := hid (HB1.out.ext hE)
    replace HB2 := hid (HB2.out.ext hE)
    clear hE
    (try clear a0 r0 r1 r2 r3 r4 r5 r6 y0 y1 y2 y3 y4 y5 y6 y7 z0 z1 z2)
    have a0 := HB0.out.cell 0
    obtain ⟨r0, r1, r2, r3, r4, r5, r6⟩ : _ ∧ _ ∧ _ ∧ _ ∧ _ ∧ _ ∧ _ := ⟨HB1.out.cell 0, HB1.out.cell 1, HB1.out.cell 2, HB1.out.cell 3, HB1.out.cell 4, HB1.out.cell 5, HB1.out.cell 6⟩
    obtain ⟨y0, y1, y2, y3, y4, y5, y6, y7⟩ : _ ∧ _ ∧ _ ∧ _ ∧ _ ∧ _ ∧ _ ∧ _ := ⟨HB2.out.cell 0, HB2.out.cell 1, HB2.out.cell 2, HB2.out.cell 3, HB2.out.cell 4, HB2.out.cell 5, HB2.out.cell 6, HB2.out.cell 7⟩
    have z0 := HB0.out.lt
    have z1 := HB1.out.lt
    have z2 := HB2.out.lt
    simp only [List.getElem?_toArray, List.getElem?_cons_zero, List.getElem?_cons_succ] at a0 r0 r1 r2 r3 r4 r5 r6 y0 y1 y2 y3 y4 y5 y6 y7
    go_wp2_with fail
    refine (HSE.out _ E).mono ?_
    rintro e w2 ⟨rfl, hE⟩
    replace E := E.trans hE
    replace HB0 := hid (HB0.out.ext hE)
    replace HB1 := hid (HB1.out.ext hE)
    replace HB2 := hid (HB2.out.ext hE)
    clear hE
    (try clear a0 r0 r1 r2 r3 r4 r5 r6 y0 y1 y2 y3 y4 y5 y6 y7 z0 z1 z2)
    have a0 := HB0.out.cell 0
    obtain ⟨r0, r1, r2, r3, r4, r5, r6⟩ : _ ∧ _ ∧ _ ∧ _ ∧ _ ∧ _ ∧ _ := ⟨HB1.out.cell 0, HB1.out.cell 1, HB1.out.cell 2, HB1.out.cell 3, HB1.out.cell 4, HB1.out.cell 5, HB1.out.cell 6⟩
    obtain ⟨y0, y1, y2, y3, y4, y5, y6, y7⟩ : _ ∧ _ ∧ _ ∧ _ ∧ _ ∧ _ ∧ _ ∧ _ := ⟨HB2.out.cell 0, HB2.out.cell 1, HB2.out.cell 2, HB2.out.cell 3, HB2.out.cell 4, HB2.out.cell 5, HB2.out.cell 6, HB2.out.cell 7⟩
    have z0 := HB0.out.lt
    have z1 := HB1.out.lt
    have z2 := HB2.out.lt
    simp only [List.getElem?_toArray, List.getElem?_cons_zero, List.getElem?_cons_succ] at a0 r0 r1 r2 r3 r4 r5 r6 y0 y1 y2 y3 y4 y5 y6 y7
    go_wp2_with fail
    refine (HLM.out _).mono ?_
    rintro e w2 ⟨rfl, hE⟩
    replace E := E.trans hE
    replace HB0 := hid (HB0.out.ext hE)
    replace HB1 := hid (HB1.out.ext hE)
    replace HB2 := hid (HB2.out.ext hE)
    clear hE
    (try clear a0 r0 r1 r2 r3 r4 r5 r6 y0 y1 y2 y3 y4 y5 y6 y7 z0 z1 z2)
    have a0 := HB0.out.cell 0
    obtain ⟨r0, r1, r2, r3, r4, r5, r6⟩ : _ ∧ _ ∧ _ ∧ _ ∧ _ ∧ _ ∧ _ := ⟨HB1.out.cell 0, HB1.out.cell 1, HB1.out.cell 2, HB1.out.cell 3, HB1.out.cell 4, HB1.out.cell 5, HB1.out.cell 6⟩
    obtain ⟨y0, y1, y2, y3, y4, y5, y6, y7⟩ : _ ∧ _ ∧ _ ∧ _ ∧ _ ∧ _ ∧ _ ∧ _ := ⟨HB2.out.cell 0, HB2.out.cell 1, HB2.out.cell 2, HB2.out.cell 3, HB2.out.cell 4, HB2.out.cell 5, HB2.out.cell 6, HB2.out.cell 7⟩
    have z0 := HB0.out.lt
    have z1 := HB1.out.lt
    have z2 := HB2.out.lt
    simp only [List.getElem?_toArray, List.getElem?_cons_zero, List.getElem?_cons_succ] at a0 r0 r1 r2 r3 r4 r5 r6 y0 y1 y2 y3 y4 y5 y6 y7
    go_wp2_with fail
    refine (HWK.out _ (by (repeat' (first | with_reducible assumption | with_reducible exact Ext.refl _ | with_reducible refine Ext.alloc ?_ _ | with_reducible refine Ext.set ?_ ?_ _ | with_reducible refine Ext.drew ?_ | with_reducible refine Ext.drewN ?_ _ | with_reducible refine Ext.trans ?_ (by assumption) | (dsimp only; omega))))).mono ?_
    rintro e w9 ⟨rfl, hE9⟩
    have EZ : Ext w w9 := by (repeat' (first | with_reducible assumption | with_reducible exact Ext.refl _ | with_reducible refine Ext.alloc ?_ _ | with_reducible refine Ext.set ?_ ?_ _ | with_reducible refine Ext.drew ?_ | with_reducible refine Ext.drewN ?_ _ | with_reducible refine Ext.trans ?_ (by assumption) | (dsimp only; omega)))
    go_wp2
    go_ret
    exact ⟨rfl, EZ⟩
  by_cases q7 : 1000 < y.rain
  case pos =>
    refine .inr ?_
    unfold Lm.val esCells at *
    obtain ⟨wi, ra, tl, th⟩ := l
    obtain ⟨yh, ys, yr, yt, yw, yn, yp, yl⟩ := y
    dsimp only at *
    clear h hfar hse hlm
    go_enter Tryd.func6, Tryd.ntmps6
    have HB0 := hid (show Blk _ _ _ _ from blk_old (blk_old (blk_last w (.cells #[.slice A n c] 24)) (.cells #[.slice SA m sc, .slice KA kn kc, .int .i64 wi, .int .i64 ra, .int .i64 tl, .int .i64 th, .int .i64 len] 46)) (.cells #[.int .i64 yh, .int .i64 ys, .int .i64 yr, .int .i64 yt, .int .i64 yw, .int .i64 yn, .int .i64 yp, .int .i64 yl] 68))
    have HB1 := hid (show Blk _ _ _ _ from blk_old (blk_last (w.alloc (.cells #[.slice A n c] 24)) (.cells #[.slice SA m sc, .slice KA kn kc, .int .i64 wi, .int .i64 ra, .int .i64 tl, .int .i64 th, .int .i64 len] 46)) (.cells #[.int .i64 yh, .int .i64 ys, .int .i64 yr, .int .i64 yt, .int .i64 yw, .int .i64 yn, .int .i64 yp, .int .i64 yl] 68))
    have HB2 := hid (show Blk _ _ _ _ from blk_last ((w.alloc (.cells #[.slice A n c] 24)).alloc (.cells #[.slice SA m sc, .slice KA kn kc, .int .i64 wi, .int .i64 ra, .int .i64 tl, .int .i64 th, .int .i64 len] 46)) (.cells #[.int .i64 yh, .int .i64 ys, .int .i64 yr, .int .i64 yt, .int .i64 yw, .int .i64 yn, .int .i64 yp, .int .i64 yl] 68))
    rw [World.size_alloc] at HB1
    rw [World.size_alloc, World.size_alloc] at HB2
    have E : Ext w (((w.alloc (.cells #[.slice A n c] 24)).alloc (.cells #[.slice SA m sc, .slice KA kn kc, .int .i64 wi, .int .i64 ra, .int .i64 tl, .int .i64 th, .int .i64 len] 46)).alloc (.cells #[.int .i64 yh, .int .i64 ys, .int .i64 yr, .int .i64 yt, .int .i64 yw, .int .i64 yn, .int .i64 yp, .int .i64 yl] 68)) := by (repeat' (first | with_reducible assumption | with_reducible exact Ext.refl _ | with_reducible refine Ext.alloc ?_ _ | with_reducible refine Ext.set ?_ ?_ _ | with_reducible refine Ext.drew ?_ | with_reducible refine Ext.drewN ?_ _ | with_reducible refine Ext.trans ?_ (by assumption) | (dsimp only; omega)))
    go_wp2_with fail
    refine (HF.out _ E).mono ?_
    rintro e w2 ⟨rfl, hE⟩
    replace E := E.trans hE
    replace HB0 := hid (HB0.out.ext hE)
    replace HB1 := hid (HB1.out.ext hE)
    replace HB2 := hid (HB2.out.ext hE)
    clear hE
    (try clear a0 r0 r1 r2 r3 r4 r5 r6 y0 y1 y2 y3 y4 y5 y6 y7 z0 z1 z2)
    have a0 := HB0.out.cell 0
    obtain ⟨r0, r1, r2, r3, r4, r5, r6⟩ : _ ∧ _ ∧ _ ∧ _ ∧ _ ∧ _ ∧ _ := ⟨HB1.out.cell 0, HB1.out.cell 1, HB1.out.cell 2, HB1.out.cell 3, HB1.out.cell 4, HB1.out.cell 5, HB1.out.cell 6⟩
    obtain ⟨y0, y1, y2, y3, y4, y5, y6, y7⟩ : _ ∧ _ ∧ _ ∧ _ ∧ _ ∧ _ ∧ _ ∧ _ := ⟨HB2.out.cell 0, HB2.out.cell 1, HB2.out.cell 2, HB2.out.cell 3, HB2.out.cell 4, HB2.out.cell 5, HB2.out.cell 6, HB2.out.cell 7⟩
    have z0 := HB0.out.lt
    have z1 := HB1.out.lt
    have z2 := HB2.out.lt
    simp only [List.getElem?_toArray, List.getElem?_cons_zero, List.getElem?_cons_succ] at a0 r0 r1 r2 r3 r4 r5 r6 y0 y1 y2 y3 y4 y5 y6 y7
    go_wp2_with fail
    refine (HSE.out _ E).mono ?_
    rintro e w2 ⟨rfl, hE⟩
    replace E := E.trans hE
    replace HB0 := hid (HB0.out.ext hE)
    replace HB1 := hid (HB1.out.ext hE)
    replace HB2 := hid (HB2.out.ext hE)
    clear hE
    (try clear a0 r0 r1 r2 r3 r4 r5 r6 y0 y1 y2 y3 y4 y5 y6 y7 z0 z1 z2)
    have a0 := HB0.out.cell 0
    obtain ⟨r0, r1, r2, r3, r4, r5, r6⟩ : _ ∧ _ ∧ _ ∧ _ ∧ _ ∧ _ ∧ _ := ⟨HB1.out.cell 0, HB1.out.cell 1, HB1.out.cell 2, HB1.out.cell 3, HB1.out.cell 4, HB1.out.cell 5, HB1.out.cell 6⟩
    obtain ⟨y0, y1, y2, y3, y4, y5, y6, y7⟩ : _ ∧ _ ∧ _ ∧ _ ∧ _ ∧ _ ∧ _ ∧ _ := ⟨HB2.out.cell 0, HB2.out.cell 1, HB2.out.cell 2, HB2.out.cell 3, HB2.out.cell 4, HB2.out.cell 5, HB2.out.cell 6, HB2.out.cell 7⟩
    have z0 := HB0.out.lt
    have z1 := HB1.out.lt
    have z2 := HB2.out.lt
    simp only [List.getElem?_toArray, List.getElem?_cons_zero, List.getElem?_cons_succ] at a0 r0 r1 r2 r3 r4 r5 r6 y0 y1 y2 y3 y4 y5 y6 y7
    go_wp2_with fail
    refine (HLM.out _).mono ?_
    rintro e w2 ⟨rfl, hE⟩
    replace E := E.trans hE
    replace HB0 := hid (HB0.out.ext hE)
    replace HB1 := hid (HB1.out.ext hE)
    replace HB2 := hid (HB2.out.ext hE)
    clear hE
    (try clear a0 r0 r1 r2 r3 r4 r5 r6 y0 y1 y2 y3 y4 y5 y6 y7 z0 z1 z2)
    have a0 := HB0.out.cell 0
    obtain ⟨r0, r1, r2, r3, r4, r5, r6⟩ : _ ∧ _ ∧ _ ∧ _ ∧ _ ∧ _ ∧ _ := ⟨HB1.out.cell 0, HB1.out.cell 1, HB1.out.cell 2, HB1.out.cell 3, HB1.out.cell 4, HB1.out.cell 5, HB1.out.cell 6⟩
    obtain ⟨y0, y1, y2, y3, y4, y5, y6, y7⟩ : _ ∧ _ ∧ _ ∧ _ ∧ _ ∧ _ ∧ _ ∧ _ := ⟨HB2.out.cell 0, HB2.out.cell 1, HB2.out.cell 2, HB2.out.cell 3, HB2.out.cell 4, HB2.out.cell 5, HB2.out.cell 6, HB2.out.cell 7⟩
    have z0 := HB0.out.lt
    have z1 := HB1.out.lt
    have z2 := HB2.out.lt
    simp only [List.getElem?_toArray, List.getElem?_cons_zero, List.getElem?_cons_succ] at a0 r0 r1 r2 r3 r4 r5 r6 y0 y1 y2 y3 y4 y5 y6 y7
    go_wp2_with fail
    refine (HWK.out _ (by (repeat' (first | with_reducible assumption | with_reducible exact Ext.refl _ | with_reducible refine Ext.alloc ?_ _ | with_reducible refine Ext.set ?_ ?_ _ | with_reducible refine Ext.drew ?_ | with_reducible refine Ext.drewN ?_ _ | with_reducible refine Ext.trans ?_ (by assumption) | (dsimp only; omega))))).mono ?_
    rintro e w9 ⟨rfl, hE9⟩
    have EZ : Ext w w9 := by (repeat' (first | with_reducible assumption | with_reducible exact Ext.refl _ | with_reducible refine Ext.alloc ?_ _ | with_reducible refine Ext.set ?_ ?_ _ | with_reducible refine Ext.drew ?_ | with_reducible refine Ext.drewN ?_ _ | with_reducible refine Ext.trans ?_ (by assumption) | (dsimp only; omega)))
    go_wp2
    go_ret
    exact ⟨rfl, EZ⟩
  by_cases q8 : 1000 < y.temp
  case pos =>
    refine .inr ?_
    unfold Lm.val esCells at *
    obtain ⟨wi, ra, tl, th⟩ := l
    obtain ⟨yh, ys, yr, yt, yw, yn, yp, yl⟩ := y
    dsimp only at *
    clear h hfar hse hlm
    go_enter Tryd.func6, Tryd.ntmps6
    have HB0 := hid (show Blk _ _ _ _ from blk_old (blk_old (blk_last w (.cells #[.slice A n c] 24)) (.cells #[.slice SA m sc, .slice KA kn kc, .int .i64 wi, .int .i64 ra, .int .i64 tl, .int .i64 th, .int .i64 len] 46)) (.cells #[.int .i64 yh, .int .i64 ys, .int .i64 yr, .int .i64 yt, .int .i64 yw, .int .i64 yn, .int .i64 yp, .int .i64 yl] 68))
    have HB1 := hid (show Blk _ _ _ _ from blk_old (blk_last (w.alloc (.cells #[.slice A n c] 24)) (.cells #[.slice SA m sc, .slice KA kn kc, .int .i64 wi, .int .i64 ra, .int .i64 tl, .int .i64 th, .int .i64 len] 46)) (.cells #[.int .i64 yh, .int .i64 ys, .int .i64 yr, .int .i64 yt, .int .i64 yw, .int .i64 yn, .int .i64 yp, .int .i64 yl] 68))
    have HB2 := hid (show Blk _ _ _ _ from blk_last ((w.alloc (.cells #[.slice A n c] 24)).alloc (.cells #[.slice SA m sc, .slice KA kn kc, .int .i64 wi, .int .i64 ra, .int .i64 tl, .int .i64 th, .int .i64 len] 46)) (.cells #[.int .i64 yh, .int .i64 ys, .int .i64 yr, .int .i64 yt, .int .i64 yw, .int .i64 yn, .int .i64 yp, .int .i64 yl] 68))
    rw [World.size_alloc] at HB1
    rw [World.size_alloc, World.size_alloc] at HB2
    have E : Ext w (((w.alloc (.cells #[.slice A n c] 24)).alloc (.cells #[.slice SA m sc, .slice KA kn kc, .int .i64 wi, .int .i64 ra, .int .i64 tl, .int .i64 th, .int .i64 len] 46)).alloc (.cells #[.int .i64 yh, .int .i64 ys, .int .i64 yr, .int .i64 yt, .int .i64 yw, .int .i64 yn, .int .i64 yp, .int .i64 yl] 68)) := by (repeat' (first | with_reducible assumption | with_reducible exact Ext.refl _ | with_reducible refine Ext.alloc ?_ _ | with_reducible refine Ext.set ?_ ?_ _ | with_reducible refine Ext.drew ?_ | with_reducible refine Ext.drewN ?_ _ | with_reducible refine Ext.trans ?_ (by assumption) | (dsimp only; omega)))
    go_wp2_with fail
    refine (HF.out _ E).mono ?_
    rintro e w2 ⟨rfl, hE⟩
    replace E := E.trans hE
    replace HB0 := hid (HB0.out.ext hE)
    replace HB1 := hid (HB1.out.ext hE)
    replace HB2 := hid (HB2.out.ext hE)
    clear hE
    (try clear a0 r0 r1 r2 r3 r4 r5 r6 y0 y1 y2 y3 y4 y5 y6 y7 z0 z1 z2)
    have a0 := HB0.out.cell 0
    obtain ⟨r0, r1, r2, r3, r4, r5, r6⟩ : _ ∧ _ ∧ _ ∧ _ ∧ _ ∧ _ ∧ _ := ⟨HB1.out.cell 0, HB1.out.cell 1, HB1.out.cell 2, HB1.out.cell 3, HB1.out.cell 4, HB1.out.cell 5, HB1.out.cell 6⟩
    obtain ⟨y0, y1, y2, y3, y4, y5, y6, y7⟩ : _ ∧ _ ∧ _ ∧ _ ∧ _ ∧ _ ∧ _ ∧ _ := ⟨HB2.out.cell 0, HB2.out.cell 1, HB2.out.cell 2, HB2.out.cell 3, HB2.out.cell 4, HB2.out.cell 5, HB2.out.cell 6, HB2.out.cell 7⟩
    have z0 := HB0.out.lt
    have z1 := HB1.out.lt
    have z2 := HB2.out.lt
    simp only [List.getElem?_toArray, List.getElem?_cons_zero, List.getElem?_cons_succ] at a0 r0 r1 r2 r3 r4 r5 r6 y0 y1 y2 y3 y4 y5 y6 y7
    go_wp2_with fail
    refine (HSE.out _ E).mono ?_
    rintro e w2 ⟨rfl, hE⟩
    replace E := E.trans hE
    replace HB0 := hid (HB0.out.ext hE)
    replace HB1 := hid (HB1.out.ext hE)
    replace HB2 := hid (HB2.out.ext hE)
    clear hE
    (try clear a0 r0 r1 r2 r3 r4 r5 r6 y0 y1 y2 y3 y4 y5 y6 y7 z0 z1 z2)
    have a0 := HB0.out.cell 0
    obtain ⟨r0, r1, r2, r3, r4, r5, r6⟩ : _ ∧ _ ∧ _ ∧ _ ∧ _ ∧ _ ∧ _ := ⟨HB1.out.cell 0, HB1.out.cell 1, HB1.out.cell 2, HB1.out.cell 3, HB1.out.cell 4, HB1.out.cell 5, HB1.out.cell 6⟩
    obtain ⟨y0, y1, y2, y3, y4, y5, y6, y7⟩ : _ ∧ _ ∧ _ ∧ _ ∧ _ ∧ _ ∧ _ ∧ _ := ⟨HB2.out.cell 0, HB2.out.cell 1, HB2.out.cell 2, HB2.out.cell 3, HB2.out.cell 4, HB2.out.cell 5, HB2.out.cell 6, HB2.out.cell 7⟩
    have z0 := HB0.out.lt
    have z1 := HB1.out.lt
    have z2 := HB2.out.lt
    simp only [List.getElem?_toArray, List.getElem?_cons_zero, List.getElem?_cons_succ] at a0 r0 r1 r2 r3 r4 r5 r6 y0 y1 y2 y3 y4 y5 y6 y7
    go_wp2_with fail
    refine (HLM.out _).mono ?_
    rintro e w2 ⟨rfl, hE⟩
    replace E := E.trans hE
    replace HB0 := hid (HB0.out.ext hE)
    replace HB1 := hid (HB1.out.ext hE)
    replace HB2 := hid (HB2.out.ext hE)
    clear hE
    (try clear a0 r0 r1 r2 r3 r4 r5 r6 y0 y1 y2 y3 y4 y5 y6 y7 z0 z1 z2)
    have a0 := HB0.out.cell 0
    obtain ⟨r0, r1, r2, r3, r4, r5, r6⟩ : _ ∧ _ ∧ _ ∧ _ ∧ _ ∧ _ ∧ _ := ⟨HB1.out.cell 0, HB1.out.cell 1, HB1.out.cell 2, HB1.out.cell 3, HB1.out.cell 4, HB1.out.cell 5, HB1.out.cell 6⟩
    obtain ⟨y0, y1, y2, y3, y4, y5, y6, y7⟩ : _ ∧ _ ∧ _ ∧ _ ∧ _ ∧ _ ∧ _ ∧ _ := ⟨HB2.out.cell 0, HB2.out.cell 1, HB2.out.cell 2, HB2.out.cell 3, HB2.out.cell 4, HB2.out.cell 5, HB2.out.cell 6, HB2.out.cell 7⟩
    have z0 := HB0.out.lt
    have z1 := HB1.out.lt
    have z2 := HB2.out.lt
    simp only [List.getElem?_toArray, List.getElem?_cons_zero, List.getElem?_cons_succ] at a0 r0 r1 r2 r3 r4 r5 r6 y0 y1 y2 y3 y4 y5 y6 y7
    go_wp2_with fail
    refine (HWK.out _ (by (repeat' (first | with_reducible assumption | with_reducible exact Ext.refl _ | with_reducible refine Ext.alloc ?_ _ | with_reducible refine Ext.set ?_ ?_ _ | with_reducible refine Ext.drew ?_ | with_reducible refine Ext.drewN ?_ _ | with_reducible refine Ext.trans ?_ (by assumption) | (dsimp only; omega))))).mono ?_
    rintro e w9 ⟨rfl, hE9⟩
    have EZ : Ext w w9 := by (repeat' (first | with_reducible assumption | with_reducible exact Ext.refl _ | with_reducible refine Ext.alloc ?_ _ | with_reducible refine Ext.set ?_ ?_ _ | with_reducible refine Ext.drew ?_ | with_reducible refine Ext.drewN ?_ _ | with_reducible refine Ext.trans ?_ (by assumption) | (dsimp only; omega)))
    go_wp2
    go_ret
    exact ⟨rfl, EZ⟩
  exact .inl ⟨hfar, hse, hlm, by omega, by omega, ⟨by omega, by omega⟩, ⟨by omega, by omega⟩, ⟨by omega, by omega⟩⟩
end Go.Proofs.YtcpkdnegmblonaaDoor
