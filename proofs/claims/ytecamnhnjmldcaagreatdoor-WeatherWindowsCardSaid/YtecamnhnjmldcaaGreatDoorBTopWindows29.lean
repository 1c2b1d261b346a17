/- The law of windows: the specification's answers. -/
import Derived.Test.YtecamnhnjmldcaaGreatDoorBTopWindows26
import Derived.Test.YtecamnhnjmldcaaGreatDoorBTopWindows27
import Derived.Test.YtecamnhnjmldcaaGreatDoorBTopWindows28
import Derived.Test.YtecamnhnjmldcaaGreatDoorB14
set_option linter.unusedSimpArgs false
set_option linter.unusedVariables false
namespace Go.Proofs.YtecamnhnjmldcaaGreatDoor
open Go.RowKit
theorem calls_absW {G : World → Prop} {w : World} (S : World → Prop) (h : S w) (k : ∀ W, S W → G W) : G w := k w h
theorem sureV_len (f : List (List Hr)) (seen : List Sg) (l : Lm) : (sureV f seen l).length ≤ hoursN f := by
  unfold sureV sureM
  split
  · exact spansM_len _ _
  · simp
theorem mayV_len (f : List (List Hr)) (seen : List Sg) (l : Lm) : (mayV f seen l).length ≤ hoursN f := by
  unfold mayV mayM
  split
  · exact spansM_len _ _
  · simp
set_option maxHeartbeats 8000000 in
set_option maxRecDepth 100000 in
theorem lwindows_any (f : List (List Hr)) (A : Option Addr) (n c : Nat) (seen : List Sg) (SA : Option Addr) (m sc : Nat) (hr len : Int) (l : Lm) (w : World) (h : AIn w f A n seen SA m) :
    Calls Tryz.prog 3 #[.agg #[.slice A n c], .slice SA m sc, .agg #[.int .i64 hr, .int .i64 len, .int .i64 l.wind, .int .i64 l.rain, .int .i64 l.tl, .int .i64 l.th]] w fun e w' => e = .returned (.bool true) ∧ Ext w w' := by
  have HWK := hid (fun (W : World) (hW : Ext w W) => works_any W (h.wid.ext hW))
  have HF := hid (fun (W : World) (hW : Ext w W) => far_any f A n c h.hn SA m sc W (h.sc.ext hW))
  have HB0 := hid (show Blk _ _ _ _ from blk_old (blk_last w (.cells #[.slice A n c] 24)) (.cells #[.int .i64 hr, .int .i64 len, .int .i64 l.wind, .int .i64 l.rain, .int .i64 l.tl, .int .i64 l.th] 31))
  have HB1 := hid (show Blk _ _ _ _ from blk_last (w.alloc (.cells #[.slice A n c] 24)) (.cells #[.int .i64 hr, .int .i64 len, .int .i64 l.wind, .int .i64 l.rain, .int .i64 l.tl, .int .i64 l.th] 31))
  rw [World.size_alloc] at HB1
  have E : Ext w ((w.alloc (.cells #[.slice A n c] 24)).alloc (.cells #[.int .i64 hr, .int .i64 len, .int .i64 l.wind, .int .i64 l.rain, .int .i64 l.tl, .int .i64 l.th] 31)) := by (repeat' (first | with_reducible assumption | with_reducible exact Ext.refl _ | with_reducible refine Ext.alloc ?_ _ | with_reducible refine Ext.set ?_ ?_ _ | with_reducible refine Ext.drew ?_ | with_reducible refine Ext.drewN ?_ _ | with_reducible refine Ext.trans ?_ (by assumption) | (dsimp only; omega)))
  cases hfar : farB f m
  case true =>
    rw [hfar] at HF
    clear h
    obtain ⟨wi, ra, tl, th⟩ := l
    dsimp only at *
    go_enter Tryz.func3, Tryz.ntmps3
    go_wp2_with fail
    refine (HF.out _ E).mono ?_
    rintro e w2 ⟨rfl, hE⟩
    replace E := E.trans hE
    replace HB0 := hid (HB0.out.ext hE)
    replace HB1 := hid (HB1.out.ext hE)
    (try replace HSC := hid (HSC.out.ext hE))
    (try replace HSG := hid (HSG.out.ext hE))
    (try replace HO1 := hid (HO1.out.ext hE))
    (try replace HO2 := hid (HO2.out.ext hE))
    (try replace HO3 := hid (HO3.out.ext hE))
    (try replace HO4 := hid (HO4.out.ext hE))
    (try replace HB7 := hid (HB7.out.ext hE))
    clear hE
    (try clear a0 z0 zE z1 l0 l1 l2 l3 l4 l5)
    (try clear a7 z7)
    have a0 := HB0.out.cell 0
    have z0 := HB0.out.lt
    obtain ⟨l0, l1, l2, l3, l4, l5⟩ : _ ∧ _ ∧ _ ∧ _ ∧ _ ∧ _ := ⟨HB1.out.cell 0, HB1.out.cell 1, HB1.out.cell 2, HB1.out.cell 3, HB1.out.cell 4, HB1.out.cell 5⟩
    have z1 := HB1.out.lt
    have zE := E.size
    simp only [List.getElem?_toArray, List.getElem?_cons_zero, List.getElem?_cons_succ] at a0 l0 l1 l2 l3 l4 l5
    (try (have a7 := HB7.out.cell 0; have z7 := HB7.out.lt; simp only [List.getElem?_toArray, List.getElem?_cons_zero] at a7))
    go_wp2_with fail
    refine (HWK.out _ (by (repeat' (first | with_reducible assumption | with_reducible exact Ext.refl _ | with_reducible refine Ext.alloc ?_ _ | with_reducible refine Ext.set ?_ ?_ _ | with_reducible refine Ext.drew ?_ | with_reducible refine Ext.drewN ?_ _ | with_reducible refine Ext.trans ?_ (by assumption) | (dsimp only; omega))))).mono ?_
    rintro e w9 ⟨rfl, hE9⟩
    have EZ : Ext w w9 := by (repeat' (first | with_reducible assumption | with_reducible exact Ext.refl _ | with_reducible refine Ext.alloc ?_ _ | with_reducible refine Ext.set ?_ ?_ _ | with_reducible refine Ext.drew ?_ | with_reducible refine Ext.drewN ?_ _ | with_reducible refine Ext.trans ?_ (by assumption) | (dsimp only; omega)))
    go_wp2
    go_ret
    exact ⟨rfl, EZ⟩
  rw [hfar] at HF
  have h0 := h.fin hfar
  have HIN := hid (fun (A2 : Option Addr) (SA2 : Option Addr) (W : World) (hW : Ext w W) (h1 : ScsAt W A2 f) (h2 : SgsAt W SA2 seen) => (⟨h0.hn, h0.hm, h0.hx, h0.hl, h0.hm2, h0.hwf, h1, h2, h0.wid.ext hW⟩ : FIn W f A2 n seen SA2 m))
  have HCP := hid (fun (W : World) (hW : Ext w W) => rCopy_any f A n c h0.hn h0.hm (fun x hx => by have := h0.hx x hx; omega) W (h0.sc.ext hW))
  have HK1 := hid (fun (A2 : Option Addr) (c2 : Nat) (SA2 : Option Addr) (sc2 : Nat) (W : World) (hW : Ext w W) (h1 : ScsAt W A2 f) (h2 : SgsAt W SA2 seen) => keeps_any f A2 n c2 seen SA2 m sc2 l W (HIN.out A2 SA2 W hW h1 h2))
  have HK2 := hid (fun (W : World) (hW : Ext w W) => by
    have := rKeeps_any f A n c seen SA m sc l W (h0.ext hW)
    unfold RKeepsIs at this
    rw [rkS_eq, rkM_eq, rlimE_keeps] at this
    exact this)
  have HW1 := hid (fun (A2 : Option Addr) (c2 : Nat) (SA2 : Option Addr) (sc2 : Nat) (W : World) (hW : Ext w W) (h1 : ScsAt W A2 f) (h2 : SgsAt W SA2 seen) => pwindow_any f A2 n c2 seen SA2 m sc2 l len W (HIN.out A2 SA2 W hW h1 h2))
  have HW2 := hid (fun (W : World) (hW : Ext w W) => by
    have := rWindow_any f A n c seen SA m sc l len W (h0.ext hW)
    rw [rwFirst_eq, rwLast_eq, rlimE_win] at this
    exact this)
  have HG1 := hid (fun (A2 : Option Addr) (c2 : Nat) (SA2 : Option Addr) (sc2 : Nat) (W : World) (hW : Ext w W) (h1 : ScsAt W A2 f) (h2 : SgsAt W SA2 seen) => gapP_any f A2 n c2 seen SA2 m sc2 l len W (HIN.out A2 SA2 W hW h1 h2))
  have HG2 := hid (fun (W : World) (hW : Ext w W) => by
    have := rGap_any f A n c seen SA m sc l len W (h0.ext hW)
    rw [rgS_eq, rlimE_win] at this
    exact this)
  have hN := h0.hours
  have hSl := Nat.le_trans (sureV_len f seen l) hN
  have hMl := Nat.le_trans (mayV_len f seen l) hN
  have HSS := hid (fun (A5 A6 : Option Addr) (c5 c6 : Nat) (W : World) (h5 : OpensAt W A5 (sureV f seen l)) (h6 : OpensAt W A6 (sureV f seen l)) => sameSpans_any A5 A6 _ _ c5 c6 (sureV f seen l) (sureV f seen l) rfl rfl hSl hSl W h5 h6)
  have HSM := hid (fun (A5 A6 : Option Addr) (c5 c6 : Nat) (W : World) (h5 : OpensAt W A5 (mayV f seen l)) (h6 : OpensAt W A6 (mayV f seen l)) => sameSpans_any A5 A6 _ _ c5 c6 (mayV f seen l) (mayV f seen l) rfl rfl hMl hMl W h5 h6)
  simp only [decide_true] at HSS HSM
  have HSG0 := hid h.sg
  have HSL := hid h.hl
  have hm2 := h0.hm2
  unfold KeepsIs at HK1
  clear h h0 hfar HIN hSl hMl hN
  generalize sureV f seen l = SV at *
  generalize mayV f seen l = MV at *
  generalize keepsE f seen l = ke at *
  generalize firstV f seen l len = fv at *
  generalize lastV f seen l len = lv at *
  generalize winE f seen l len = we at *
  generalize gapV f seen l len = gv at *
  generalize SV.length = sl at *
  generalize MV.length = ml at *
  unfold Lm.val at *
  obtain ⟨wi, ra, tl, th⟩ := l
  dsimp only at *
  go_enter Tryz.func3, Tryz.ntmps3
  go_wp2_with fail
  refine (HF.out _ E).mono ?_
  rintro e w2 ⟨rfl, hE⟩
  replace E := E.trans hE
  replace HB0 := hid (HB0.out.ext hE)
  replace HB1 := hid (HB1.out.ext hE)
  (try replace HSC := hid (HSC.out.ext hE))
  (try replace HSG := hid (HSG.out.ext hE))
  (try replace HO1 := hid (HO1.out.ext hE))
  (try replace HO2 := hid (HO2.out.ext hE))
  (try replace HO3 := hid (HO3.out.ext hE))
  (try replace HO4 := hid (HO4.out.ext hE))
  (try replace HB7 := hid (HB7.out.ext hE))
  clear hE
  (try clear a0 z0 zE z1 l0 l1 l2 l3 l4 l5)
  (try clear a7 z7)
  have a0 := HB0.out.cell 0
  have z0 := HB0.out.lt
  obtain ⟨l0, l1, l2, l3, l4, l5⟩ : _ ∧ _ ∧ _ ∧ _ ∧ _ ∧ _ := ⟨HB1.out.cell 0, HB1.out.cell 1, HB1.out.cell 2, HB1.out.cell 3, HB1.out.cell 4, HB1.out.cell 5⟩
  have z1 := HB1.out.lt
  have zE := E.size
  simp only [List.getElem?_toArray, List.getElem?_cons_zero, List.getElem?_cons_succ] at a0 l0 l1 l2 l3 l4 l5
  (try (have a7 := HB7.out.cell 0; have z7 := HB7.out.lt; simp only [List.getElem?_toArray, List.getElem?_cons_zero] at a7))
  go_wp2_with fail
  refine (HCP.out _ E).mono ?_
  rintro e w3 ⟨A2, c2, rfl, hsc, hE⟩
  replace E := E.trans hE
  replace HB0 := hid (HB0.out.ext hE)
  replace HB1 := hid (HB1.out.ext hE)
  (try replace HSC := hid (HSC.out.ext hE))
  (try replace HSG := hid (HSG.out.ext hE))
  (try replace HO1 := hid (HO1.out.ext hE))
  (try replace HO2 := hid (HO2.out.ext hE))
  (try replace HO3 := hid (HO3.out.ext hE))
  (try replace HO4 := hid (HO4.out.ext hE))
  (try replace HB7 := hid (HB7.out.ext hE))
  clear hE
  (try clear a0 z0 zE z1 l0 l1 l2 l3 l4 l5)
  (try clear a7 z7)
  have a0 := HB0.out.cell 0
  have z0 := HB0.out.lt
  obtain ⟨l0, l1, l2, l3, l4, l5⟩ : _ ∧ _ ∧ _ ∧ _ ∧ _ ∧ _ := ⟨HB1.out.cell 0, HB1.out.cell 1, HB1.out.cell 2, HB1.out.cell 3, HB1.out.cell 4, HB1.out.cell 5⟩
  have z1 := HB1.out.lt
  have zE := E.size
  simp only [List.getElem?_toArray, List.getElem?_cons_zero, List.getElem?_cons_succ] at a0 l0 l1 l2 l3 l4 l5
  (try (have a7 := HB7.out.cell 0; have z7 := HB7.out.lt; simp only [List.getElem?_toArray, List.getElem?_cons_zero] at a7))
  have HSC := hid hsc
  clear hsc HF HCP
  go_wp2_with (at_builtin; refine Halt.mk ?_)
  unfold Halt
  refine wpList_plain rfl fun _ hK => wp_appAllSg _ _ _ rfl w3.heap.size w3.heap.size SA sc seen rfl (blk_last _ _) (Nat.le_refl _) m HSL.out rfl ((HSG0.out.ext E).ext (ext_alloc1 _ _)) (by omega) ?_
  intro v4 w4 ho4 hg4
  refine hK _ _ ?_
  have hE : Ext w3 w4 := Below.grown (ext_alloc1 w3 _) hg4 (ext_alloc1 w3 _).size (fun j ej => by injection ej with ej; omega)
  obtain ⟨A3, c3, rfl, -, hf3, -⟩ := ho4.form (by decide) (fun _ => rfl) zeroSg
  have HSG := hid (flat_sgs.1 hf3)
  rw [HSL.out]
  clear ho4 hg4 hf3 hK
  replace E := E.trans hE
  replace HB0 := hid (HB0.out.ext hE)
  replace HB1 := hid (HB1.out.ext hE)
  (try replace HSC := hid (HSC.out.ext hE))
  (try replace HSG := hid (HSG.out.ext hE))
  (try replace HO1 := hid (HO1.out.ext hE))
  (try replace HO2 := hid (HO2.out.ext hE))
  (try replace HO3 := hid (HO3.out.ext hE))
  (try replace HO4 := hid (HO4.out.ext hE))
  (try replace HB7 := hid (HB7.out.ext hE))
  clear hE
  (try clear a0 z0 zE z1 l0 l1 l2 l3 l4 l5)
  (try clear a7 z7)
  have a0 := HB0.out.cell 0
  have z0 := HB0.out.lt
  obtain ⟨l0, l1, l2, l3, l4, l5⟩ : _ ∧ _ ∧ _ ∧ _ ∧ _ ∧ _ := ⟨HB1.out.cell 0, HB1.out.cell 1, HB1.out.cell 2, HB1.out.cell 3, HB1.out.cell 4, HB1.out.cell 5⟩
  have z1 := HB1.out.lt
  have zE := E.size
  simp only [List.getElem?_toArray, List.getElem?_cons_zero, List.getElem?_cons_succ] at a0 l0 l1 l2 l3 l4 l5
  (try (have a7 := HB7.out.cell 0; have z7 := HB7.out.lt; simp only [List.getElem?_toArray, List.getElem?_cons_zero] at a7))
  go_wp2_with fail
  refine calls_absW (G := fun W => Calls _ _ _ W _) (fun X => Blk X w4.heap.size 24 #[.slice A2 n c2] ∧ Ext w4 X) ⟨blk_last _ _, by (repeat' (first | with_reducible assumption | with_reducible exact Ext.refl _ | with_reducible refine Ext.alloc ?_ _ | with_reducible refine Ext.set ?_ ?_ _ | with_reducible refine Ext.drew ?_ | with_reducible refine Ext.drewN ?_ _ | with_reducible refine Ext.trans ?_ (by assumption) | (dsimp only; omega)))⟩ ?_
  rintro U ⟨hb7, hE⟩
  replace E := E.trans hE
  replace HB0 := hid (HB0.out.ext hE)
  replace HB1 := hid (HB1.out.ext hE)
  (try replace HSC := hid (HSC.out.ext hE))
  (try replace HSG := hid (HSG.out.ext hE))
  (try replace HO1 := hid (HO1.out.ext hE))
  (try replace HO2 := hid (HO2.out.ext hE))
  (try replace HO3 := hid (HO3.out.ext hE))
  (try replace HO4 := hid (HO4.out.ext hE))
  (try replace HB7 := hid (HB7.out.ext hE))
  clear hE
  (try clear a0 z0 zE z1 l0 l1 l2 l3 l4 l5)
  (try clear a7 z7)
  have a0 := HB0.out.cell 0
  have z0 := HB0.out.lt
  obtain ⟨l0, l1, l2, l3, l4, l5⟩ : _ ∧ _ ∧ _ ∧ _ ∧ _ ∧ _ := ⟨HB1.out.cell 0, HB1.out.cell 1, HB1.out.cell 2, HB1.out.cell 3, HB1.out.cell 4, HB1.out.cell 5⟩
  have z1 := HB1.out.lt
  have zE := E.size
  simp only [List.getElem?_toArray, List.getElem?_cons_zero, List.getElem?_cons_succ] at a0 l0 l1 l2 l3 l4 l5
  (try (have a7 := HB7.out.cell 0; have z7 := HB7.out.lt; simp only [List.getElem?_toArray, List.getElem?_cons_zero] at a7))
  have HB7 := hid hb7
  clear hb7
  have hE := Ext.refl U
  replace E := E.trans hE
  replace HB0 := hid (HB0.out.ext hE)
  replace HB1 := hid (HB1.out.ext hE)
  (try replace HSC := hid (HSC.out.ext hE))
  (try replace HSG := hid (HSG.out.ext hE))
  (try replace HO1 := hid (HO1.out.ext hE))
  (try replace HO2 := hid (HO2.out.ext hE))
  (try replace HO3 := hid (HO3.out.ext hE))
  (try replace HO4 := hid (HO4.out.ext hE))
  (try replace HB7 := hid (HB7.out.ext hE))
  clear hE
  (try clear a0 z0 zE z1 l0 l1 l2 l3 l4 l5)
  (try clear a7 z7)
  have a0 := HB0.out.cell 0
  have z0 := HB0.out.lt
  obtain ⟨l0, l1, l2, l3, l4, l5⟩ : _ ∧ _ ∧ _ ∧ _ ∧ _ ∧ _ := ⟨HB1.out.cell 0, HB1.out.cell 1, HB1.out.cell 2, HB1.out.cell 3, HB1.out.cell 4, HB1.out.cell 5⟩
  have z1 := HB1.out.lt
  have zE := E.size
  simp only [List.getElem?_toArray, List.getElem?_cons_zero, List.getElem?_cons_succ] at a0 l0 l1 l2 l3 l4 l5
  (try (have a7 := HB7.out.cell 0; have z7 := HB7.out.lt; simp only [List.getElem?_toArray, List.getElem?_cons_zero] at a7))
  refine (HK1.out A2 c2 A3 c3 _ E HSC.out HSG.out).mono ?_
  rintro e w5 ⟨A5, c5, A6, c6, rfl, h5, h6, hE⟩
  replace E := E.trans hE
  replace HB0 := hid (HB0.out.ext hE)
  replace HB1 := hid (HB1.out.ext hE)
  (try replace HSC := hid (HSC.out.ext hE))
  (try replace HSG := hid (HSG.out.ext hE))
  (try replace HO1 := hid (HO1.out.ext hE))
  (try replace HO2 := hid (HO2.out.ext hE))
  (try replace HO3 := hid (HO3.out.ext hE))
  (try replace HO4 := hid (HO4.out.ext hE))
  (try replace HB7 := hid (HB7.out.ext hE))
  clear hE
  (try clear a0 z0 zE z1 l0 l1 l2 l3 l4 l5)
  (try clear a7 z7)
  have a0 := HB0.out.cell 0
  have z0 := HB0.out.lt
  obtain ⟨l0, l1, l2, l3, l4, l5⟩ : _ ∧ _ ∧ _ ∧ _ ∧ _ ∧ _ := ⟨HB1.out.cell 0, HB1.out.cell 1, HB1.out.cell 2, HB1.out.cell 3, HB1.out.cell 4, HB1.out.cell 5⟩
  have z1 := HB1.out.lt
  have zE := E.size
  simp only [List.getElem?_toArray, List.getElem?_cons_zero, List.getElem?_cons_succ] at a0 l0 l1 l2 l3 l4 l5
  (try (have a7 := HB7.out.cell 0; have z7 := HB7.out.lt; simp only [List.getElem?_toArray, List.getElem?_cons_zero] at a7))
  have HO1 := hid h5
  have HO2 := hid h6
  clear h5 h6 HK1
  go_wp2_with fail
  refine (HK2.out _ E).mono ?_
  rintro e w6 ⟨A7, c7, A8, c8, rfl, h7, h8, hE⟩
  replace E := E.trans hE
  replace HB0 := hid (HB0.out.ext hE)
  replace HB1 := hid (HB1.out.ext hE)
  (try replace HSC := hid (HSC.out.ext hE))
  (try replace HSG := hid (HSG.out.ext hE))
  (try replace HO1 := hid (HO1.out.ext hE))
  (try replace HO2 := hid (HO2.out.ext hE))
  (try replace HO3 := hid (HO3.out.ext hE))
  (try replace HO4 := hid (HO4.out.ext hE))
  (try replace HB7 := hid (HB7.out.ext hE))
  clear hE
  (try clear a0 z0 zE z1 l0 l1 l2 l3 l4 l5)
  (try clear a7 z7)
  have a0 := HB0.out.cell 0
  have z0 := HB0.out.lt
  obtain ⟨l0, l1, l2, l3, l4, l5⟩ : _ ∧ _ ∧ _ ∧ _ ∧ _ ∧ _ := ⟨HB1.out.cell 0, HB1.out.cell 1, HB1.out.cell 2, HB1.out.cell 3, HB1.out.cell 4, HB1.out.cell 5⟩
  have z1 := HB1.out.lt
  have zE := E.size
  simp only [List.getElem?_toArray, List.getElem?_cons_zero, List.getElem?_cons_succ] at a0 l0 l1 l2 l3 l4 l5
  (try (have a7 := HB7.out.cell 0; have z7 := HB7.out.lt; simp only [List.getElem?_toArray, List.getElem?_cons_zero] at a7))
  have HO3 := hid h7
  have HO4 := hid h8
  clear h7 h8 HK2
  go_wp2_with fail
  refine (HSS.out A5 A7 c5 c7 _ HO1.out HO3.out).mono ?_
  rintro e w7 ⟨rfl, hE⟩
  replace E := E.trans hE
  replace HB0 := hid (HB0.out.ext hE)
  replace HB1 := hid (HB1.out.ext hE)
  (try replace HSC := hid (HSC.out.ext hE))
  (try replace HSG := hid (HSG.out.ext hE))
  (try replace HO1 := hid (HO1.out.ext hE))
  (try replace HO2 := hid (HO2.out.ext hE))
  (try replace HO3 := hid (HO3.out.ext hE))
  (try replace HO4 := hid (HO4.out.ext hE))
  (try replace HB7 := hid (HB7.out.ext hE))
  clear hE
  (try clear a0 z0 zE z1 l0 l1 l2 l3 l4 l5)
  (try clear a7 z7)
  have a0 := HB0.out.cell 0
  have z0 := HB0.out.lt
  obtain ⟨l0, l1, l2, l3, l4, l5⟩ : _ ∧ _ ∧ _ ∧ _ ∧ _ ∧ _ := ⟨HB1.out.cell 0, HB1.out.cell 1, HB1.out.cell 2, HB1.out.cell 3, HB1.out.cell 4, HB1.out.cell 5⟩
  have z1 := HB1.out.lt
  have zE := E.size
  simp only [List.getElem?_toArray, List.getElem?_cons_zero, List.getElem?_cons_succ] at a0 l0 l1 l2 l3 l4 l5
  (try (have a7 := HB7.out.cell 0; have z7 := HB7.out.lt; simp only [List.getElem?_toArray, List.getElem?_cons_zero] at a7))
  clear HSS HO1 HO3
  go_wp2_with fail
  refine (HSM.out A6 A8 c6 c8 _ HO2.out HO4.out).mono ?_
  rintro e w8 ⟨rfl, hE⟩
  replace E := E.trans hE
  replace HB0 := hid (HB0.out.ext hE)
  replace HB1 := hid (HB1.out.ext hE)
  (try replace HSC := hid (HSC.out.ext hE))
  (try replace HSG := hid (HSG.out.ext hE))
  (try replace HO1 := hid (HO1.out.ext hE))
  (try replace HO2 := hid (HO2.out.ext hE))
  (try replace HO3 := hid (HO3.out.ext hE))
  (try replace HO4 := hid (HO4.out.ext hE))
  (try replace HB7 := hid (HB7.out.ext hE))
  clear hE
  (try clear a0 z0 zE z1 l0 l1 l2 l3 l4 l5)
  (try clear a7 z7)
  have a0 := HB0.out.cell 0
  have z0 := HB0.out.lt
  obtain ⟨l0, l1, l2, l3, l4, l5⟩ : _ ∧ _ ∧ _ ∧ _ ∧ _ ∧ _ := ⟨HB1.out.cell 0, HB1.out.cell 1, HB1.out.cell 2, HB1.out.cell 3, HB1.out.cell 4, HB1.out.cell 5⟩
  have z1 := HB1.out.lt
  have zE := E.size
  simp only [List.getElem?_toArray, List.getElem?_cons_zero, List.getElem?_cons_succ] at a0 l0 l1 l2 l3 l4 l5
  (try (have a7 := HB7.out.cell 0; have z7 := HB7.out.lt; simp only [List.getElem?_toArray, List.getElem?_cons_zero] at a7))
  clear HSM HO2 HO4
  go_wp2_with fail
  refine (HW1.out A2 c2 A3 c3 _ E HSC.out HSG.out).mono ?_
  rintro e w10 ⟨rfl, hE⟩
  replace E := E.trans hE
  replace HB0 := hid (HB0.out.ext hE)
  replace HB1 := hid (HB1.out.ext hE)
  (try replace HSC := hid (HSC.out.ext hE))
  (try replace HSG := hid (HSG.out.ext hE))
  (try replace HO1 := hid (HO1.out.ext hE))
  (try replace HO2 := hid (HO2.out.ext hE))
  (try replace HO3 := hid (HO3.out.ext hE))
  (try replace HO4 := hid (HO4.out.ext hE))
  (try replace HB7 := hid (HB7.out.ext hE))
  clear hE
  (try clear a0 z0 zE z1 l0 l1 l2 l3 l4 l5)
  (try clear a7 z7)
  have a0 := HB0.out.cell 0
  have z0 := HB0.out.lt
  obtain ⟨l0, l1, l2, l3, l4, l5⟩ : _ ∧ _ ∧ _ ∧ _ ∧ _ ∧ _ := ⟨HB1.out.cell 0, HB1.out.cell 1, HB1.out.cell 2, HB1.out.cell 3, HB1.out.cell 4, HB1.out.cell 5⟩
  have z1 := HB1.out.lt
  have zE := E.size
  simp only [List.getElem?_toArray, List.getElem?_cons_zero, List.getElem?_cons_succ] at a0 l0 l1 l2 l3 l4 l5
  (try (have a7 := HB7.out.cell 0; have z7 := HB7.out.lt; simp only [List.getElem?_toArray, List.getElem?_cons_zero] at a7))
  clear HW1
  go_wp2_with fail
  refine (HW2.out _ E).mono ?_
  rintro e w11 ⟨rfl, hE⟩
  replace E := E.trans hE
  replace HB0 := hid (HB0.out.ext hE)
  replace HB1 := hid (HB1.out.ext hE)
  (try replace HSC := hid (HSC.out.ext hE))
  (try replace HSG := hid (HSG.out.ext hE))
  (try replace HO1 := hid (HO1.out.ext hE))
  (try replace HO2 := hid (HO2.out.ext hE))
  (try replace HO3 := hid (HO3.out.ext hE))
  (try replace HO4 := hid (HO4.out.ext hE))
  (try replace HB7 := hid (HB7.out.ext hE))
  clear hE
  (try clear a0 z0 zE z1 l0 l1 l2 l3 l4 l5)
  (try clear a7 z7)
  have a0 := HB0.out.cell 0
  have z0 := HB0.out.lt
  obtain ⟨l0, l1, l2, l3, l4, l5⟩ : _ ∧ _ ∧ _ ∧ _ ∧ _ ∧ _ := ⟨HB1.out.cell 0, HB1.out.cell 1, HB1.out.cell 2, HB1.out.cell 3, HB1.out.cell 4, HB1.out.cell 5⟩
  have z1 := HB1.out.lt
  have zE := E.size
  simp only [List.getElem?_toArray, List.getElem?_cons_zero, List.getElem?_cons_succ] at a0 l0 l1 l2 l3 l4 l5
  (try (have a7 := HB7.out.cell 0; have z7 := HB7.out.lt; simp only [List.getElem?_toArray, List.getElem?_cons_zero] at a7))
  clear HW2
  go_wp2_with fail
  refine (HG1.out A2 c2 A3 c3 _ E HSC.out HSG.out).mono ?_
  rintro e w12 ⟨rfl, hE⟩
  replace E := E.trans hE
  replace HB0 := hid (HB0.out.ext hE)
  replace HB1 := hid (HB1.out.ext hE)
  (try replace HSC := hid (HSC.out.ext hE))
  (try replace HSG := hid (HSG.out.ext hE))
  (try replace HO1 := hid (HO1.out.ext hE))
  (try replace HO2 := hid (HO2.out.ext hE))
  (try replace HO3 := hid (HO3.out.ext hE))
  (try replace HO4 := hid (HO4.out.ext hE))
  (try replace HB7 := hid (HB7.out.ext hE))
  clear hE
  (try clear a0 z0 zE z1 l0 l1 l2 l3 l4 l5)
  (try clear a7 z7)
  have a0 := HB0.out.cell 0
  have z0 := HB0.out.lt
  obtain ⟨l0, l1, l2, l3, l4, l5⟩ : _ ∧ _ ∧ _ ∧ _ ∧ _ ∧ _ := ⟨HB1.out.cell 0, HB1.out.cell 1, HB1.out.cell 2, HB1.out.cell 3, HB1.out.cell 4, HB1.out.cell 5⟩
  have z1 := HB1.out.lt
  have zE := E.size
  simp only [List.getElem?_toArray, List.getElem?_cons_zero, List.getElem?_cons_succ] at a0 l0 l1 l2 l3 l4 l5
  (try (have a7 := HB7.out.cell 0; have z7 := HB7.out.lt; simp only [List.getElem?_toArray, List.getElem?_cons_zero] at a7))
  clear HG1
  go_wp2_with fail
  refine (HG2.out _ E).mono ?_
  rintro e w13 ⟨rfl, hE⟩
  replace E := E.trans hE
  replace HB0 := hid (HB0.out.ext hE)
  replace HB1 := hid (HB1.out.ext hE)
  (try replace HSC := hid (HSC.out.ext hE))
  (try replace HSG := hid (HSG.out.ext hE))
  (try replace HO1 := hid (HO1.out.ext hE))
  (try replace HO2 := hid (HO2.out.ext hE))
  (try replace HO3 := hid (HO3.out.ext hE))
  (try replace HO4 := hid (HO4.out.ext hE))
  (try replace HB7 := hid (HB7.out.ext hE))
  clear hE
  (try clear a0 z0 zE z1 l0 l1 l2 l3 l4 l5)
  (try clear a7 z7)
  have a0 := HB0.out.cell 0
  have z0 := HB0.out.lt
  obtain ⟨l0, l1, l2, l3, l4, l5⟩ : _ ∧ _ ∧ _ ∧ _ ∧ _ ∧ _ := ⟨HB1.out.cell 0, HB1.out.cell 1, HB1.out.cell 2, HB1.out.cell 3, HB1.out.cell 4, HB1.out.cell 5⟩
  have z1 := HB1.out.lt
  have zE := E.size
  simp only [List.getElem?_toArray, List.getElem?_cons_zero, List.getElem?_cons_succ] at a0 l0 l1 l2 l3 l4 l5
  (try (have a7 := HB7.out.cell 0; have z7 := HB7.out.lt; simp only [List.getElem?_toArray, List.getElem?_cons_zero] at a7))
  clear HG2 HSC HSG HB7
  go_wp2_with fail
  refine (HWK.out _ (by (repeat' (first | with_reducible assumption | with_reducible exact Ext.refl _ | with_reducible refine Ext.alloc ?_ _ | with_reducible refine Ext.set ?_ ?_ _ | with_reducible refine Ext.drew ?_ | with_reducible refine Ext.drewN ?_ _ | with_reducible refine Ext.trans ?_ (by assumption) | (dsimp only; omega))))).mono ?_
  rintro e w9 ⟨rfl, hE9⟩
  have EZ : Ext w w9 := by (repeat' (first | with_reducible assumption | with_reducible exact Ext.refl _ | with_reducible refine Ext.alloc ?_ _ | with_reducible refine Ext.set ?_ ?_ _ | with_reducible refine Ext.drew ?_ | with_reducible refine Ext.drewN ?_ _ | with_reducible refine Ext.trans ?_ (by assumption) | (dsimp only; omega)))
  go_wp2
  go_ret
  exact ⟨rfl, EZ⟩
end Go.Proofs.YtecamnhnjmldcaaGreatDoor
