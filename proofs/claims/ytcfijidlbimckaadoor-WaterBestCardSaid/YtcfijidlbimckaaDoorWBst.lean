/- The law of the next test. -/
import Derived.Test.YtcfijidlbimckaaDoorVal
import Derived.Test.YtcfijidlbimckaaDoorMoreM
import Derived.Test.YtcfijidlbimckaaDoorBstM
set_option linter.unusedSimpArgs false
set_option linter.unusedVariables false
namespace Go.Proofs.YtcfijidlbimckaaDoor
open Go.RowKit
set_option maxHeartbeats 8000000 in
set_option maxRecDepth 100000 in
theorem waterBest_any (d : Wat) (A : WA) (mix : Int) (w : World) (hW : WIn w d A) (hT : TabW w) :
    Calls Tryd.prog 7 #[wval d A, .int .i64 mix] w fun e w' => e = .returned (.bool true) ∧ Ext w w' := by
  have HV := hid (fun W (hE : Ext w W) => valid_any d A W (hW.ext hE))
  have HWK := hid (fun W (hE : Ext w W) => works_any W (hT.ext hE))
  have BN := hid (Blk.new w 25 (wcells d A))
  cases hv : validB d
  case false =>
    rw [hv] at HV
    clear hv
    clear hW hT
    unfold wval wcells at *
    obtain ⟨spr, most, miss, al, smp⟩ := d
    obtain ⟨SA, sc, MA, mc⟩ := A
    dsimp only at *
    generalize spr.length = n at *
    generalize smp.length = m at *
    go_enter Tryd.func7, Tryd.ntmps7
    go_wp2_with fail
    refine (HV.out _ (by (repeat' (first | with_reducible assumption | with_reducible exact Ext.refl _ | with_reducible refine Ext.alloc ?_ _ | with_reducible refine Ext.set ?_ ?_ _ | with_reducible refine Ext.drew ?_ | with_reducible refine Ext.drewN ?_ _ | with_reducible refine Ext.trans ?_ (by assumption) | (dsimp only; omega))))).mono ?_
    rintro e w2 ⟨rfl, hE⟩
    have E : Ext w w2 := by (repeat' (first | with_reducible assumption | with_reducible exact Ext.refl _ | with_reducible refine Ext.alloc ?_ _ | with_reducible refine Ext.set ?_ ?_ _ | with_reducible refine Ext.drew ?_ | with_reducible refine Ext.drewN ?_ _ | with_reducible refine Ext.trans ?_ (by assumption) | (dsimp only; omega)))
    have HB := hid (BN.out.ext hE)
    clear hE BN
    have d0 := HB.out.cell 0
    have d1 := HB.out.cell 1
    have d2 := HB.out.cell 2
    have d3 := HB.out.cell 3
    have d4 := HB.out.cell 4
    simp only [List.getElem?_toArray, List.getElem?_cons_zero, List.getElem?_cons_succ] at d0 d1 d2 d3 d4
    have dz := HB.out.lt
    go_wp2_with fail
    go_wp2_with fail
    refine (HWK.out _ E).mono ?_
    rintro e w9 ⟨rfl, hE⟩
    replace E := E.trans hE
    clear hE
    go_wp2
    go_ret
    exact ⟨rfl, E⟩
  have hwb : watB d = true := by unfold validB at hv; simp at hv; exact hv.2
  have hok := watB_ok hwb
  have hn8 := hok.n8
  have hm20 := hok.m20
  rw [hv] at HV
  have HMX := hid (fun x W => rIsMix_any d A x (by omega) W)
  cases hmx : mixB d.spr.length mix
  case false =>
    replace HMX := hid (fun W => HMX.out mix W)
    rw [hmx] at HMX
    clear hmx hok hwb hv
    clear hW hT
    unfold wval wcells at *
    obtain ⟨spr, most, miss, al, smp⟩ := d
    obtain ⟨SA, sc, MA, mc⟩ := A
    dsimp only at *
    generalize spr.length = n at *
    generalize smp.length = m at *
    go_enter Tryd.func7, Tryd.ntmps7
    go_wp2_with fail
    refine (HV.out _ (by (repeat' (first | with_reducible assumption | with_reducible exact Ext.refl _ | with_reducible refine Ext.alloc ?_ _ | with_reducible refine Ext.set ?_ ?_ _ | with_reducible refine Ext.drew ?_ | with_reducible refine Ext.drewN ?_ _ | with_reducible refine Ext.trans ?_ (by assumption) | (dsimp only; omega))))).mono ?_
    rintro e w2 ⟨rfl, hE⟩
    have E : Ext w w2 := by (repeat' (first | with_reducible assumption | with_reducible exact Ext.refl _ | with_reducible refine Ext.alloc ?_ _ | with_reducible refine Ext.set ?_ ?_ _ | with_reducible refine Ext.drew ?_ | with_reducible refine Ext.drewN ?_ _ | with_reducible refine Ext.trans ?_ (by assumption) | (dsimp only; omega)))
    have HB := hid (BN.out.ext hE)
    clear hE BN
    have d0 := HB.out.cell 0
    have d1 := HB.out.cell 1
    have d2 := HB.out.cell 2
    have d3 := HB.out.cell 3
    have d4 := HB.out.cell 4
    simp only [List.getElem?_toArray, List.getElem?_cons_zero, List.getElem?_cons_succ] at d0 d1 d2 d3 d4
    have dz := HB.out.lt
    go_wp2_with fail
    refine (HMX.out _).mono ?_
    rintro e w3 ⟨rfl, hE⟩
    replace HB := hid (HB.out.ext hE)
    replace E := E.trans hE
    clear hE d0 d1 d2 d3 d4 dz
    have d0 := HB.out.cell 0
    have d1 := HB.out.cell 1
    have d2 := HB.out.cell 2
    have d3 := HB.out.cell 3
    have d4 := HB.out.cell 4
    simp only [List.getElem?_toArray, List.getElem?_cons_zero, List.getElem?_cons_succ] at d0 d1 d2 d3 d4
    have dz := HB.out.lt
    go_wp2_with fail
    go_wp2_with fail
    refine (HWK.out _ E).mono ?_
    rintro e w9 ⟨rfl, hE⟩
    replace E := E.trans hE
    clear hE
    go_wp2
    go_ret
    exact ⟨rfl, E⟩
  have HMB := HMX
  replace HMX := hid (fun W => HMX.out mix W)
  rw [hmx] at HMX
  have htl : (tlI d).length ≤ 1000 := by
    unfold tlI
    rw [if_pos hwb, List.length_map]
    have := truths_len hok
    omega
  have HTP := hid (fun W (hE : Ext w W) => truths_any d A (by omega) (by omega) W (hW.ext hE) (hT.ext hE))
  have HPB := hid (fun W (hE : Ext w W) => pbest_any d A (by omega) (by omega) W (hW.ext hE) (hT.ext hE))
  unfold BestIs at HPB
  rcases watE_cases hwb with ⟨he, hnil⟩ | ⟨he, hnil⟩
  case inr =>
    rw [he] at HTP HPB
    clear hmx hok hwb hv he hnil HMB
    generalize tlI d = tl at *
    generalize bestM d = bm at *
    generalize bestL d = bl at *
    clear hW hT
    unfold wval wcells at *
    obtain ⟨spr, most, miss, al, smp⟩ := d
    obtain ⟨SA, sc, MA, mc⟩ := A
    dsimp only at *
    generalize spr.length = n at *
    generalize smp.length = m at *
    go_enter Tryd.func7, Tryd.ntmps7
    go_wp2_with fail
    refine (HV.out _ (by (repeat' (first | with_reducible assumption | with_reducible exact Ext.refl _ | with_reducible refine Ext.alloc ?_ _ | with_reducible refine Ext.set ?_ ?_ _ | with_reducible refine Ext.drew ?_ | with_reducible refine Ext.drewN ?_ _ | with_reducible refine Ext.trans ?_ (by assumption) | (dsimp only; omega))))).mono ?_
    rintro e w2 ⟨rfl, hE⟩
    have E : Ext w w2 := by (repeat' (first | with_reducible assumption | with_reducible exact Ext.refl _ | with_reducible refine Ext.alloc ?_ _ | with_reducible refine Ext.set ?_ ?_ _ | with_reducible refine Ext.drew ?_ | with_reducible refine Ext.drewN ?_ _ | with_reducible refine Ext.trans ?_ (by assumption) | (dsimp only; omega)))
    have HB := hid (BN.out.ext hE)
    clear hE BN
    have d0 := HB.out.cell 0
    have d1 := HB.out.cell 1
    have d2 := HB.out.cell 2
    have d3 := HB.out.cell 3
    have d4 := HB.out.cell 4
    simp only [List.getElem?_toArray, List.getElem?_cons_zero, List.getElem?_cons_succ] at d0 d1 d2 d3 d4
    have dz := HB.out.lt
    go_wp2_with fail
    refine (HMX.out _).mono ?_
    rintro e w3 ⟨rfl, hE⟩
    replace HB := hid (HB.out.ext hE)
    replace E := E.trans hE
    clear hE d0 d1 d2 d3 d4 dz
    have d0 := HB.out.cell 0
    have d1 := HB.out.cell 1
    have d2 := HB.out.cell 2
    have d3 := HB.out.cell 3
    have d4 := HB.out.cell 4
    simp only [List.getElem?_toArray, List.getElem?_cons_zero, List.getElem?_cons_succ] at d0 d1 d2 d3 d4
    have dz := HB.out.lt
    go_wp2_with fail
    refine (HTP.out _ E).mono ?_
    rintro e w4 ⟨v, rfl, hown, hE⟩
    obtain ⟨TA, tc, rfl, hS⟩ := hown.form
    have HI := hid hS
    clear hown hS
    replace HB := hid (HB.out.ext hE)
    replace E := E.trans hE
    clear hE d0 d1 d2 d3 d4 dz
    have d0 := HB.out.cell 0
    have d1 := HB.out.cell 1
    have d2 := HB.out.cell 2
    have d3 := HB.out.cell 3
    have d4 := HB.out.cell 4
    simp only [List.getElem?_toArray, List.getElem?_cons_zero, List.getElem?_cons_succ] at d0 d1 d2 d3 d4
    have dz := HB.out.lt
    go_wp2_with fail
    refine (HPB.out _ E).mono ?_
    rintro e w5 ⟨rfl, hE⟩
    replace HI := hid (HI.out.ext hE)
    replace HB := hid (HB.out.ext hE)
    replace E := E.trans hE
    clear hE d0 d1 d2 d3 d4 dz
    have d0 := HB.out.cell 0
    have d1 := HB.out.cell 1
    have d2 := HB.out.cell 2
    have d3 := HB.out.cell 3
    have d4 := HB.out.cell 4
    simp only [List.getElem?_toArray, List.getElem?_cons_zero, List.getElem?_cons_succ] at d0 d1 d2 d3 d4
    have dz := HB.out.lt
    go_wp2_with fail
    refine (HWK.out _ E).mono ?_
    rintro e w9 ⟨rfl, hE⟩
    replace E := E.trans hE
    clear hE
    go_wp2
    go_ret
    exact ⟨rfl, E⟩
  have hmI := wB_true.1 (show wB mix 1 ((2 ^ d.spr.length - 1 : Nat) : Int) = true from hmx)
  obtain ⟨mx, rfl⟩ := Int.eq_ofNat_of_zero_le (show 0 ≤ mix by omega)
  have h256 := two8 hn8
  have hlt := truths_lt hok
  have htI : tlI d = (truthsL d).map Int.ofNat := by unfold tlI; rw [if_pos hwb]
  have hbst := (bstL_best (truthsL d) (2 ^ d.spr.length)).2 (by omega)
  have hbm : bestM d = (bstL (truthsL d) (List.range (2 ^ d.spr.length))).1 := by unfold bestM; rw [if_pos he]
  have hbl : bestL d = (bstL (truthsL d) (List.range (2 ^ d.spr.length))).2 := by unfold bestL; rw [if_pos he]
  rw [← hbm, ← hbl] at hbst
  obtain ⟨hb1, hb2, hb3, hb4⟩ := hbst
  replace hb4 := hb4 mx (by omega) (by omega)
  have HC1 := hid (clean_len (x := bestM d) (by omega) hlt)
  have HF1 := hid (foul_len (x := bestM d) (by omega) hlt)
  have HC2 := hid (clean_len (x := mx) (by omega) hlt)
  have HF2 := hid (foul_len (x := mx) (by omega) hlt)
  replace HMB := hid (fun W => HMB.out ((bestM d : Nat) : Int) W)
  rw [show mixB d.spr.length ((bestM d : Nat) : Int) = true from wB_true.2 ⟨by omega, by omega⟩] at HMB
  rw [← htI] at HC1 HF1 HC2 HF2
  have HSP := hid (fun (x : Nat) (TA : Option Addr) (tc : Nat) W (hS : IntsAt W TA (tlI d)) => rsplit_any (tlI d) TA _ tc (x : Int) rfl htl W hS)
  unfold SplIs at HSP
  unfold worse at hb3 hb4
  rw [he] at HTP HPB
  clear hmx hok hwb hv he hnil hbm hbl htI hlt
  generalize cleanN (bestM d) (truthsL d) = c1 at *
  generalize cleanN mx (truthsL d) = c2 at *
  generalize (truthsL d).length - c1 = f1 at *
  generalize (truthsL d).length - c2 = f2 at *
  generalize tlI d = tl at *
  generalize bestM d = bm at *
  generalize bestL d = bl at *
  generalize 2 ^ d.spr.length = n2 at *
  by_cases hx1 : c1 < f1
  · rw [if_pos hx1] at hb3
    subst hb3
    by_cases hx2 : c2 < f2
    · rw [if_pos hx2] at hb4
      rcases hb4 with h | ⟨h, h'⟩
      · clear hW hT
        unfold wval wcells at *
        obtain ⟨spr, most, miss, al, smp⟩ := d
        obtain ⟨SA, sc, MA, mc⟩ := A
        dsimp only at *
        generalize spr.length = n at *
        generalize smp.length = m at *
        go_enter Tryd.func7, Tryd.ntmps7
        go_wp2_with fail
        refine (HV.out _ (by (repeat' (first | with_reducible assumption | with_reducible exact Ext.refl _ | with_reducible refine Ext.alloc ?_ _ | with_reducible refine Ext.set ?_ ?_ _ | with_reducible refine Ext.drew ?_ | with_reducible refine Ext.drewN ?_ _ | with_reducible refine Ext.trans ?_ (by assumption) | (dsimp only; omega))))).mono ?_
        rintro e w2 ⟨rfl, hE⟩
        have E : Ext w w2 := by (repeat' (first | with_reducible assumption | with_reducible exact Ext.refl _ | with_reducible refine Ext.alloc ?_ _ | with_reducible refine Ext.set ?_ ?_ _ | with_reducible refine Ext.drew ?_ | with_reducible refine Ext.drewN ?_ _ | with_reducible refine Ext.trans ?_ (by assumption) | (dsimp only; omega)))
        have HB := hid (BN.out.ext hE)
        clear hE BN
        have d0 := HB.out.cell 0
        have d1 := HB.out.cell 1
        have d2 := HB.out.cell 2
        have d3 := HB.out.cell 3
        have d4 := HB.out.cell 4
        simp only [List.getElem?_toArray, List.getElem?_cons_zero, List.getElem?_cons_succ] at d0 d1 d2 d3 d4
        have dz := HB.out.lt
        go_wp2_with fail
        refine (HMX.out _).mono ?_
        rintro e w3 ⟨rfl, hE⟩
        replace HB := hid (HB.out.ext hE)
        replace E := E.trans hE
        clear hE d0 d1 d2 d3 d4 dz
        have d0 := HB.out.cell 0
        have d1 := HB.out.cell 1
        have d2 := HB.out.cell 2
        have d3 := HB.out.cell 3
        have d4 := HB.out.cell 4
        simp only [List.getElem?_toArray, List.getElem?_cons_zero, List.getElem?_cons_succ] at d0 d1 d2 d3 d4
        have dz := HB.out.lt
        go_wp2_with fail
        refine (HTP.out _ E).mono ?_
        rintro e w4 ⟨v, rfl, hown, hE⟩
        obtain ⟨TA, tc, rfl, hS⟩ := hown.form
        have HI := hid hS
        clear hown hS
        replace HB := hid (HB.out.ext hE)
        replace E := E.trans hE
        clear hE d0 d1 d2 d3 d4 dz
        have d0 := HB.out.cell 0
        have d1 := HB.out.cell 1
        have d2 := HB.out.cell 2
        have d3 := HB.out.cell 3
        have d4 := HB.out.cell 4
        simp only [List.getElem?_toArray, List.getElem?_cons_zero, List.getElem?_cons_succ] at d0 d1 d2 d3 d4
        have dz := HB.out.lt
        go_wp2_with fail
        refine (HPB.out _ E).mono ?_
        rintro e w5 ⟨rfl, hE⟩
        replace HI := hid (HI.out.ext hE)
        replace HB := hid (HB.out.ext hE)
        replace E := E.trans hE
        clear hE d0 d1 d2 d3 d4 dz
        have d0 := HB.out.cell 0
        have d1 := HB.out.cell 1
        have d2 := HB.out.cell 2
        have d3 := HB.out.cell 3
        have d4 := HB.out.cell 4
        simp only [List.getElem?_toArray, List.getElem?_cons_zero, List.getElem?_cons_succ] at d0 d1 d2 d3 d4
        have dz := HB.out.lt
        go_wp2_with fail
        refine (HMB.out _).mono ?_
        rintro e w5 ⟨rfl, hE⟩
        replace HI := hid (HI.out.ext hE)
        replace HB := hid (HB.out.ext hE)
        replace E := E.trans hE
        clear hE d0 d1 d2 d3 d4 dz
        have d0 := HB.out.cell 0
        have d1 := HB.out.cell 1
        have d2 := HB.out.cell 2
        have d3 := HB.out.cell 3
        have d4 := HB.out.cell 4
        simp only [List.getElem?_toArray, List.getElem?_cons_zero, List.getElem?_cons_succ] at d0 d1 d2 d3 d4
        have dz := HB.out.lt
        go_wp2_with fail
        refine (HSP.out bm _ _ _ HI.out).mono ?_
        rintro e w6 ⟨v, u, rfl, hv1, hu1, hE⟩
        obtain ⟨CA, cc, rfl, -⟩ := hv1.form
        obtain ⟨FA, fc, rfl, -⟩ := hu1.form
        replace HI := hid (HI.out.ext hE)
        clear hv1 hu1
        rw [HC1.out, HF1.out]
        replace HB := hid (HB.out.ext hE)
        replace E := E.trans hE
        clear hE d0 d1 d2 d3 d4 dz
        have d0 := HB.out.cell 0
        have d1 := HB.out.cell 1
        have d2 := HB.out.cell 2
        have d3 := HB.out.cell 3
        have d4 := HB.out.cell 4
        simp only [List.getElem?_toArray, List.getElem?_cons_zero, List.getElem?_cons_succ] at d0 d1 d2 d3 d4
        have dz := HB.out.lt
        go_wp2_with fail
        refine (HSP.out mx _ _ _ HI.out).mono ?_
        rintro e w6 ⟨v, u, rfl, hv1, hu1, hE⟩
        obtain ⟨CA, cc, rfl, -⟩ := hv1.form
        obtain ⟨FA, fc, rfl, -⟩ := hu1.form
        replace HI := hid (HI.out.ext hE)
        clear hv1 hu1
        rw [HC2.out, HF2.out]
        replace HB := hid (HB.out.ext hE)
        replace E := E.trans hE
        clear hE d0 d1 d2 d3 d4 dz
        have d0 := HB.out.cell 0
        have d1 := HB.out.cell 1
        have d2 := HB.out.cell 2
        have d3 := HB.out.cell 3
        have d4 := HB.out.cell 4
        simp only [List.getElem?_toArray, List.getElem?_cons_zero, List.getElem?_cons_succ] at d0 d1 d2 d3 d4
        have dz := HB.out.lt
        go_wp2_with fail
        refine (HWK.out _ E).mono ?_
        rintro e w9 ⟨rfl, hE⟩
        replace E := E.trans hE
        clear hE
        go_wp2
        go_ret
        exact ⟨rfl, E⟩
      · subst h
        clear hW hT
        unfold wval wcells at *
        obtain ⟨spr, most, miss, al, smp⟩ := d
        obtain ⟨SA, sc, MA, mc⟩ := A
        dsimp only at *
        generalize spr.length = n at *
        generalize smp.length = m at *
        go_enter Tryd.func7, Tryd.ntmps7
        go_wp2_with fail
        refine (HV.out _ (by (repeat' (first | with_reducible assumption | with_reducible exact Ext.refl _ | with_reducible refine Ext.alloc ?_ _ | with_reducible refine Ext.set ?_ ?_ _ | with_reducible refine Ext.drew ?_ | with_reducible refine Ext.drewN ?_ _ | with_reducible refine Ext.trans ?_ (by assumption) | (dsimp only; omega))))).mono ?_
        rintro e w2 ⟨rfl, hE⟩
        have E : Ext w w2 := by (repeat' (first | with_reducible assumption | with_reducible exact Ext.refl _ | with_reducible refine Ext.alloc ?_ _ | with_reducible refine Ext.set ?_ ?_ _ | with_reducible refine Ext.drew ?_ | with_reducible refine Ext.drewN ?_ _ | with_reducible refine Ext.trans ?_ (by assumption) | (dsimp only; omega)))
        have HB := hid (BN.out.ext hE)
        clear hE BN
        have d0 := HB.out.cell 0
        have d1 := HB.out.cell 1
        have d2 := HB.out.cell 2
        have d3 := HB.out.cell 3
        have d4 := HB.out.cell 4
        simp only [List.getElem?_toArray, List.getElem?_cons_zero, List.getElem?_cons_succ] at d0 d1 d2 d3 d4
        have dz := HB.out.lt
        go_wp2_with fail
        refine (HMX.out _).mono ?_
        rintro e w3 ⟨rfl, hE⟩
        replace HB := hid (HB.out.ext hE)
        replace E := E.trans hE
        clear hE d0 d1 d2 d3 d4 dz
        have d0 := HB.out.cell 0
        have d1 := HB.out.cell 1
        have d2 := HB.out.cell 2
        have d3 := HB.out.cell 3
        have d4 := HB.out.cell 4
        simp only [List.getElem?_toArray, List.getElem?_cons_zero, List.getElem?_cons_succ] at d0 d1 d2 d3 d4
        have dz := HB.out.lt
        go_wp2_with fail
        refine (HTP.out _ E).mono ?_
        rintro e w4 ⟨v, rfl, hown, hE⟩
        obtain ⟨TA, tc, rfl, hS⟩ := hown.form
        have HI := hid hS
        clear hown hS
        replace HB := hid (HB.out.ext hE)
        replace E := E.trans hE
        clear hE d0 d1 d2 d3 d4 dz
        have d0 := HB.out.cell 0
        have d1 := HB.out.cell 1
        have d2 := HB.out.cell 2
        have d3 := HB.out.cell 3
        have d4 := HB.out.cell 4
        simp only [List.getElem?_toArray, List.getElem?_cons_zero, List.getElem?_cons_succ] at d0 d1 d2 d3 d4
        have dz := HB.out.lt
        go_wp2_with fail
        refine (HPB.out _ E).mono ?_
        rintro e w5 ⟨rfl, hE⟩
        replace HI := hid (HI.out.ext hE)
        replace HB := hid (HB.out.ext hE)
        replace E := E.trans hE
        clear hE d0 d1 d2 d3 d4 dz
        have d0 := HB.out.cell 0
        have d1 := HB.out.cell 1
        have d2 := HB.out.cell 2
        have d3 := HB.out.cell 3
        have d4 := HB.out.cell 4
        simp only [List.getElem?_toArray, List.getElem?_cons_zero, List.getElem?_cons_succ] at d0 d1 d2 d3 d4
        have dz := HB.out.lt
        go_wp2_with fail
        refine (HMB.out _).mono ?_
        rintro e w5 ⟨rfl, hE⟩
        replace HI := hid (HI.out.ext hE)
        replace HB := hid (HB.out.ext hE)
        replace E := E.trans hE
        clear hE d0 d1 d2 d3 d4 dz
        have d0 := HB.out.cell 0
        have d1 := HB.out.cell 1
        have d2 := HB.out.cell 2
        have d3 := HB.out.cell 3
        have d4 := HB.out.cell 4
        simp only [List.getElem?_toArray, List.getElem?_cons_zero, List.getElem?_cons_succ] at d0 d1 d2 d3 d4
        have dz := HB.out.lt
        go_wp2_with fail
        refine (HSP.out bm _ _ _ HI.out).mono ?_
        rintro e w6 ⟨v, u, rfl, hv1, hu1, hE⟩
        obtain ⟨CA, cc, rfl, -⟩ := hv1.form
        obtain ⟨FA, fc, rfl, -⟩ := hu1.form
        replace HI := hid (HI.out.ext hE)
        clear hv1 hu1
        rw [HC1.out, HF1.out]
        replace HB := hid (HB.out.ext hE)
        replace E := E.trans hE
        clear hE d0 d1 d2 d3 d4 dz
        have d0 := HB.out.cell 0
        have d1 := HB.out.cell 1
        have d2 := HB.out.cell 2
        have d3 := HB.out.cell 3
        have d4 := HB.out.cell 4
        simp only [List.getElem?_toArray, List.getElem?_cons_zero, List.getElem?_cons_succ] at d0 d1 d2 d3 d4
        have dz := HB.out.lt
        go_wp2_with fail
        refine (HSP.out mx _ _ _ HI.out).mono ?_
        rintro e w6 ⟨v, u, rfl, hv1, hu1, hE⟩
        obtain ⟨CA, cc, rfl, -⟩ := hv1.form
        obtain ⟨FA, fc, rfl, -⟩ := hu1.form
        replace HI := hid (HI.out.ext hE)
        clear hv1 hu1
        rw [HC2.out, HF2.out]
        replace HB := hid (HB.out.ext hE)
        replace E := E.trans hE
        clear hE d0 d1 d2 d3 d4 dz
        have d0 := HB.out.cell 0
        have d1 := HB.out.cell 1
        have d2 := HB.out.cell 2
        have d3 := HB.out.cell 3
        have d4 := HB.out.cell 4
        simp only [List.getElem?_toArray, List.getElem?_cons_zero, List.getElem?_cons_succ] at d0 d1 d2 d3 d4
        have dz := HB.out.lt
        go_wp2_with fail
        refine (HWK.out _ E).mono ?_
        rintro e w9 ⟨rfl, hE⟩
        replace E := E.trans hE
        clear hE
        go_wp2
        go_ret
        exact ⟨rfl, E⟩
    · rw [if_neg hx2] at hb4
      rcases hb4 with h | ⟨h, h'⟩
      · clear hW hT
        unfold wval wcells at *
        obtain ⟨spr, most, miss, al, smp⟩ := d
        obtain ⟨SA, sc, MA, mc⟩ := A
        dsimp only at *
        generalize spr.length = n at *
        generalize smp.length = m at *
        go_enter Tryd.func7, Tryd.ntmps7
        go_wp2_with fail
        refine (HV.out _ (by (repeat' (first | with_reducible assumption | with_reducible exact Ext.refl _ | with_reducible refine Ext.alloc ?_ _ | with_reducible refine Ext.set ?_ ?_ _ | with_reducible refine Ext.drew ?_ | with_reducible refine Ext.drewN ?_ _ | with_reducible refine Ext.trans ?_ (by assumption) | (dsimp only; omega))))).mono ?_
        rintro e w2 ⟨rfl, hE⟩
        have E : Ext w w2 := by (repeat' (first | with_reducible assumption | with_reducible exact Ext.refl _ | with_reducible refine Ext.alloc ?_ _ | with_reducible refine Ext.set ?_ ?_ _ | with_reducible refine Ext.drew ?_ | with_reducible refine Ext.drewN ?_ _ | with_reducible refine Ext.trans ?_ (by assumption) | (dsimp only; omega)))
        have HB := hid (BN.out.ext hE)
        clear hE BN
        have d0 := HB.out.cell 0
        have d1 := HB.out.cell 1
        have d2 := HB.out.cell 2
        have d3 := HB.out.cell 3
        have d4 := HB.out.cell 4
        simp only [List.getElem?_toArray, List.getElem?_cons_zero, List.getElem?_cons_succ] at d0 d1 d2 d3 d4
        have dz := HB.out.lt
        go_wp2_with fail
        refine (HMX.out _).mono ?_
        rintro e w3 ⟨rfl, hE⟩
        replace HB := hid (HB.out.ext hE)
        replace E := E.trans hE
        clear hE d0 d1 d2 d3 d4 dz
        have d0 := HB.out.cell 0
        have d1 := HB.out.cell 1
        have d2 := HB.out.cell 2
        have d3 := HB.out.cell 3
        have d4 := HB.out.cell 4
        simp only [List.getElem?_toArray, List.getElem?_cons_zero, List.getElem?_cons_succ] at d0 d1 d2 d3 d4
        have dz := HB.out.lt
        go_wp2_with fail
        refine (HTP.out _ E).mono ?_
        rintro e w4 ⟨v, rfl, hown, hE⟩
        obtain ⟨TA, tc, rfl, hS⟩ := hown.form
        have HI := hid hS
        clear hown hS
        replace HB := hid (HB.out.ext hE)
        replace E := E.trans hE
        clear hE d0 d1 d2 d3 d4 dz
        have d0 := HB.out.cell 0
        have d1 := HB.out.cell 1
        have d2 := HB.out.cell 2
        have d3 := HB.out.cell 3
        have d4 := HB.out.cell 4
        simp only [List.getElem?_toArray, List.getElem?_cons_zero, List.getElem?_cons_succ] at d0 d1 d2 d3 d4
        have dz := HB.out.lt
        go_wp2_with fail
        refine (HPB.out _ E).mono ?_
        rintro e w5 ⟨rfl, hE⟩
        replace HI := hid (HI.out.ext hE)
        replace HB := hid (HB.out.ext hE)
        replace E := E.trans hE
        clear hE d0 d1 d2 d3 d4 dz
        have d0 := HB.out.cell 0
        have d1 := HB.out.cell 1
        have d2 := HB.out.cell 2
        have d3 := HB.out.cell 3
        have d4 := HB.out.cell 4
        simp only [List.getElem?_toArray, List.getElem?_cons_zero, List.getElem?_cons_succ] at d0 d1 d2 d3 d4
        have dz := HB.out.lt
        go_wp2_with fail
        refine (HMB.out _).mono ?_
        rintro e w5 ⟨rfl, hE⟩
        replace HI := hid (HI.out.ext hE)
        replace HB := hid (HB.out.ext hE)
        replace E := E.trans hE
        clear hE d0 d1 d2 d3 d4 dz
        have d0 := HB.out.cell 0
        have d1 := HB.out.cell 1
        have d2 := HB.out.cell 2
        have d3 := HB.out.cell 3
        have d4 := HB.out.cell 4
        simp only [List.getElem?_toArray, List.getElem?_cons_zero, List.getElem?_cons_succ] at d0 d1 d2 d3 d4
        have dz := HB.out.lt
        go_wp2_with fail
        refine (HSP.out bm _ _ _ HI.out).mono ?_
        rintro e w6 ⟨v, u, rfl, hv1, hu1, hE⟩
        obtain ⟨CA, cc, rfl, -⟩ := hv1.form
        obtain ⟨FA, fc, rfl, -⟩ := hu1.form
        replace HI := hid (HI.out.ext hE)
        clear hv1 hu1
        rw [HC1.out, HF1.out]
        replace HB := hid (HB.out.ext hE)
        replace E := E.trans hE
        clear hE d0 d1 d2 d3 d4 dz
        have d0 := HB.out.cell 0
        have d1 := HB.out.cell 1
        have d2 := HB.out.cell 2
        have d3 := HB.out.cell 3
        have d4 := HB.out.cell 4
        simp only [List.getElem?_toArray, List.getElem?_cons_zero, List.getElem?_cons_succ] at d0 d1 d2 d3 d4
        have dz := HB.out.lt
        go_wp2_with fail
        refine (HSP.out mx _ _ _ HI.out).mono ?_
        rintro e w6 ⟨v, u, rfl, hv1, hu1, hE⟩
        obtain ⟨CA, cc, rfl, -⟩ := hv1.form
        obtain ⟨FA, fc, rfl, -⟩ := hu1.form
        replace HI := hid (HI.out.ext hE)
        clear hv1 hu1
        rw [HC2.out, HF2.out]
        replace HB := hid (HB.out.ext hE)
        replace E := E.trans hE
        clear hE d0 d1 d2 d3 d4 dz
        have d0 := HB.out.cell 0
        have d1 := HB.out.cell 1
        have d2 := HB.out.cell 2
        have d3 := HB.out.cell 3
        have d4 := HB.out.cell 4
        simp only [List.getElem?_toArray, List.getElem?_cons_zero, List.getElem?_cons_succ] at d0 d1 d2 d3 d4
        have dz := HB.out.lt
        go_wp2_with fail
        refine (HWK.out _ E).mono ?_
        rintro e w9 ⟨rfl, hE⟩
        replace E := E.trans hE
        clear hE
        go_wp2
        go_ret
        exact ⟨rfl, E⟩
      · subst h
        clear hW hT
        unfold wval wcells at *
        obtain ⟨spr, most, miss, al, smp⟩ := d
        obtain ⟨SA, sc, MA, mc⟩ := A
        dsimp only at *
        generalize spr.length = n at *
        generalize smp.length = m at *
        go_enter Tryd.func7, Tryd.ntmps7
        go_wp2_with fail
        refine (HV.out _ (by (repeat' (first | with_reducible assumption | with_reducible exact Ext.refl _ | with_reducible refine Ext.alloc ?_ _ | with_reducible refine Ext.set ?_ ?_ _ | with_reducible refine Ext.drew ?_ | with_reducible refine Ext.drewN ?_ _ | with_reducible refine Ext.trans ?_ (by assumption) | (dsimp only; omega))))).mono ?_
        rintro e w2 ⟨rfl, hE⟩
        have E : Ext w w2 := by (repeat' (first | with_reducible assumption | with_reducible exact Ext.refl _ | with_reducible refine Ext.alloc ?_ _ | with_reducible refine Ext.set ?_ ?_ _ | with_reducible refine Ext.drew ?_ | with_reducible refine Ext.drewN ?_ _ | with_reducible refine Ext.trans ?_ (by assumption) | (dsimp only; omega)))
        have HB := hid (BN.out.ext hE)
        clear hE BN
        have d0 := HB.out.cell 0
        have d1 := HB.out.cell 1
        have d2 := HB.out.cell 2
        have d3 := HB.out.cell 3
        have d4 := HB.out.cell 4
        simp only [List.getElem?_toArray, List.getElem?_cons_zero, List.getElem?_cons_succ] at d0 d1 d2 d3 d4
        have dz := HB.out.lt
        go_wp2_with fail
        refine (HMX.out _).mono ?_
        rintro e w3 ⟨rfl, hE⟩
        replace HB := hid (HB.out.ext hE)
        replace E := E.trans hE
        clear hE d0 d1 d2 d3 d4 dz
        have d0 := HB.out.cell 0
        have d1 := HB.out.cell 1
        have d2 := HB.out.cell 2
        have d3 := HB.out.cell 3
        have d4 := HB.out.cell 4
        simp only [List.getElem?_toArray, List.getElem?_cons_zero, List.getElem?_cons_succ] at d0 d1 d2 d3 d4
        have dz := HB.out.lt
        go_wp2_with fail
        refine (HTP.out _ E).mono ?_
        rintro e w4 ⟨v, rfl, hown, hE⟩
        obtain ⟨TA, tc, rfl, hS⟩ := hown.form
        have HI := hid hS
        clear hown hS
        replace HB := hid (HB.out.ext hE)
        replace E := E.trans hE
        clear hE d0 d1 d2 d3 d4 dz
        have d0 := HB.out.cell 0
        have d1 := HB.out.cell 1
        have d2 := HB.out.cell 2
        have d3 := HB.out.cell 3
        have d4 := HB.out.cell 4
        simp only [List.getElem?_toArray, List.getElem?_cons_zero, List.getElem?_cons_succ] at d0 d1 d2 d3 d4
        have dz := HB.out.lt
        go_wp2_with fail
        refine (HPB.out _ E).mono ?_
        rintro e w5 ⟨rfl, hE⟩
        replace HI := hid (HI.out.ext hE)
        replace HB := hid (HB.out.ext hE)
        replace E := E.trans hE
        clear hE d0 d1 d2 d3 d4 dz
        have d0 := HB.out.cell 0
        have d1 := HB.out.cell 1
        have d2 := HB.out.cell 2
        have d3 := HB.out.cell 3
        have d4 := HB.out.cell 4
        simp only [List.getElem?_toArray, List.getElem?_cons_zero, List.getElem?_cons_succ] at d0 d1 d2 d3 d4
        have dz := HB.out.lt
        go_wp2_with fail
        refine (HMB.out _).mono ?_
        rintro e w5 ⟨rfl, hE⟩
        replace HI := hid (HI.out.ext hE)
        replace HB := hid (HB.out.ext hE)
        replace E := E.trans hE
        clear hE d0 d1 d2 d3 d4 dz
        have d0 := HB.out.cell 0
        have d1 := HB.out.cell 1
        have d2 := HB.out.cell 2
        have d3 := HB.out.cell 3
        have d4 := HB.out.cell 4
        simp only [List.getElem?_toArray, List.getElem?_cons_zero, List.getElem?_cons_succ] at d0 d1 d2 d3 d4
        have dz := HB.out.lt
        go_wp2_with fail
        refine (HSP.out bm _ _ _ HI.out).mono ?_
        rintro e w6 ⟨v, u, rfl, hv1, hu1, hE⟩
        obtain ⟨CA, cc, rfl, -⟩ := hv1.form
        obtain ⟨FA, fc, rfl, -⟩ := hu1.form
        replace HI := hid (HI.out.ext hE)
        clear hv1 hu1
        rw [HC1.out, HF1.out]
        replace HB := hid (HB.out.ext hE)
        replace E := E.trans hE
        clear hE d0 d1 d2 d3 d4 dz
        have d0 := HB.out.cell 0
        have d1 := HB.out.cell 1
        have d2 := HB.out.cell 2
        have d3 := HB.out.cell 3
        have d4 := HB.out.cell 4
        simp only [List.getElem?_toArray, List.getElem?_cons_zero, List.getElem?_cons_succ] at d0 d1 d2 d3 d4
        have dz := HB.out.lt
        go_wp2_with fail
        refine (HSP.out mx _ _ _ HI.out).mono ?_
        rintro e w6 ⟨v, u, rfl, hv1, hu1, hE⟩
        obtain ⟨CA, cc, rfl, -⟩ := hv1.form
        obtain ⟨FA, fc, rfl, -⟩ := hu1.form
        replace HI := hid (HI.out.ext hE)
        clear hv1 hu1
        rw [HC2.out, HF2.out]
        replace HB := hid (HB.out.ext hE)
        replace E := E.trans hE
        clear hE d0 d1 d2 d3 d4 dz
        have d0 := HB.out.cell 0
        have d1 := HB.out.cell 1
        have d2 := HB.out.cell 2
        have d3 := HB.out.cell 3
        have d4 := HB.out.cell 4
        simp only [List.getElem?_toArray, List.getElem?_cons_zero, List.getElem?_cons_succ] at d0 d1 d2 d3 d4
        have dz := HB.out.lt
        go_wp2_with fail
        refine (HWK.out _ E).mono ?_
        rintro e w9 ⟨rfl, hE⟩
        replace E := E.trans hE
        clear hE
        go_wp2
        go_ret
        exact ⟨rfl, E⟩
  · rw [if_neg hx1] at hb3
    subst hb3
    by_cases hx2 : c2 < f2
    · rw [if_pos hx2] at hb4
      rcases hb4 with h | ⟨h, h'⟩
      · clear hW hT
        unfold wval wcells at *
        obtain ⟨spr, most, miss, al, smp⟩ := d
        obtain ⟨SA, sc, MA, mc⟩ := A
        dsimp only at *
        generalize spr.length = n at *
        generalize smp.length = m at *
        go_enter Tryd.func7, Tryd.ntmps7
        go_wp2_with fail
        refine (HV.out _ (by (repeat' (first | with_reducible assumption | with_reducible exact Ext.refl _ | with_reducible refine Ext.alloc ?_ _ | with_reducible refine Ext.set ?_ ?_ _ | with_reducible refine Ext.drew ?_ | with_reducible refine Ext.drewN ?_ _ | with_reducible refine Ext.trans ?_ (by assumption) | (dsimp only; omega))))).mono ?_
        rintro e w2 ⟨rfl, hE⟩
        have E : Ext w w2 := by (repeat' (first | with_reducible assumption | with_reducible exact Ext.refl _ | with_reducible refine Ext.alloc ?_ _ | with_reducible refine Ext.set ?_ ?_ _ | with_reducible refine Ext.drew ?_ | with_reducible refine Ext.drewN ?_ _ | with_reducible refine Ext.trans ?_ (by assumption) | (dsimp only; omega)))
        have HB := hid (BN.out.ext hE)
        clear hE BN
        have d0 := HB.out.cell 0
        have d1 := HB.out.cell 1
        have d2 := HB.out.cell 2
        have d3 := HB.out.cell 3
        have d4 := HB.out.cell 4
        simp only [List.getElem?_toArray, List.getElem?_cons_zero, List.getElem?_cons_succ] at d0 d1 d2 d3 d4
        have dz := HB.out.lt
        go_wp2_with fail
        refine (HMX.out _).mono ?_
        rintro e w3 ⟨rfl, hE⟩
        replace HB := hid (HB.out.ext hE)
        replace E := E.trans hE
        clear hE d0 d1 d2 d3 d4 dz
        have d0 := HB.out.cell 0
        have d1 := HB.out.cell 1
        have d2 := HB.out.cell 2
        have d3 := HB.out.cell 3
        have d4 := HB.out.cell 4
        simp only [List.getElem?_toArray, List.getElem?_cons_zero, List.getElem?_cons_succ] at d0 d1 d2 d3 d4
        have dz := HB.out.lt
        go_wp2_with fail
        refine (HTP.out _ E).mono ?_
        rintro e w4 ⟨v, rfl, hown, hE⟩
        obtain ⟨TA, tc, rfl, hS⟩ := hown.form
        have HI := hid hS
        clear hown hS
        replace HB := hid (HB.out.ext hE)
        replace E := E.trans hE
        clear hE d0 d1 d2 d3 d4 dz
        have d0 := HB.out.cell 0
        have d1 := HB.out.cell 1
        have d2 := HB.out.cell 2
        have d3 := HB.out.cell 3
        have d4 := HB.out.cell 4
        simp only [List.getElem?_toArray, List.getElem?_cons_zero, List.getElem?_cons_succ] at d0 d1 d2 d3 d4
        have dz := HB.out.lt
        go_wp2_with fail
        refine (HPB.out _ E).mono ?_
        rintro e w5 ⟨rfl, hE⟩
        replace HI := hid (HI.out.ext hE)
        replace HB := hid (HB.out.ext hE)
        replace E := E.trans hE
        clear hE d0 d1 d2 d3 d4 dz
        have d0 := HB.out.cell 0
        have d1 := HB.out.cell 1
        have d2 := HB.out.cell 2
        have d3 := HB.out.cell 3
        have d4 := HB.out.cell 4
        simp only [List.getElem?_toArray, List.getElem?_cons_zero, List.getElem?_cons_succ] at d0 d1 d2 d3 d4
        have dz := HB.out.lt
        go_wp2_with fail
        refine (HMB.out _).mono ?_
        rintro e w5 ⟨rfl, hE⟩
        replace HI := hid (HI.out.ext hE)
        replace HB := hid (HB.out.ext hE)
        replace E := E.trans hE
        clear hE d0 d1 d2 d3 d4 dz
        have d0 := HB.out.cell 0
        have d1 := HB.out.cell 1
        have d2 := HB.out.cell 2
        have d3 := HB.out.cell 3
        have d4 := HB.out.cell 4
        simp only [List.getElem?_toArray, List.getElem?_cons_zero, List.getElem?_cons_succ] at d0 d1 d2 d3 d4
        have dz := HB.out.lt
        go_wp2_with fail
        refine (HSP.out bm _ _ _ HI.out).mono ?_
        rintro e w6 ⟨v, u, rfl, hv1, hu1, hE⟩
        obtain ⟨CA, cc, rfl, -⟩ := hv1.form
        obtain ⟨FA, fc, rfl, -⟩ := hu1.form
        replace HI := hid (HI.out.ext hE)
        clear hv1 hu1
        rw [HC1.out, HF1.out]
        replace HB := hid (HB.out.ext hE)
        replace E := E.trans hE
        clear hE d0 d1 d2 d3 d4 dz
        have d0 := HB.out.cell 0
        have d1 := HB.out.cell 1
        have d2 := HB.out.cell 2
        have d3 := HB.out.cell 3
        have d4 := HB.out.cell 4
        simp only [List.getElem?_toArray, List.getElem?_cons_zero, List.getElem?_cons_succ] at d0 d1 d2 d3 d4
        have dz := HB.out.lt
        go_wp2_with fail
        refine (HSP.out mx _ _ _ HI.out).mono ?_
        rintro e w6 ⟨v, u, rfl, hv1, hu1, hE⟩
        obtain ⟨CA, cc, rfl, -⟩ := hv1.form
        obtain ⟨FA, fc, rfl, -⟩ := hu1.form
        replace HI := hid (HI.out.ext hE)
        clear hv1 hu1
        rw [HC2.out, HF2.out]
        replace HB := hid (HB.out.ext hE)
        replace E := E.trans hE
        clear hE d0 d1 d2 d3 d4 dz
        have d0 := HB.out.cell 0
        have d1 := HB.out.cell 1
        have d2 := HB.out.cell 2
        have d3 := HB.out.cell 3
        have d4 := HB.out.cell 4
        simp only [List.getElem?_toArray, List.getElem?_cons_zero, List.getElem?_cons_succ] at d0 d1 d2 d3 d4
        have dz := HB.out.lt
        go_wp2_with fail
        refine (HWK.out _ E).mono ?_
        rintro e w9 ⟨rfl, hE⟩
        replace E := E.trans hE
        clear hE
        go_wp2
        go_ret
        exact ⟨rfl, E⟩
      · subst h
        clear hW hT
        unfold wval wcells at *
        obtain ⟨spr, most, miss, al, smp⟩ := d
        obtain ⟨SA, sc, MA, mc⟩ := A
        dsimp only at *
        generalize spr.length = n at *
        generalize smp.length = m at *
        go_enter Tryd.func7, Tryd.ntmps7
        go_wp2_with fail
        refine (HV.out _ (by (repeat' (first | with_reducible assumption | with_reducible exact Ext.refl _ | with_reducible refine Ext.alloc ?_ _ | with_reducible refine Ext.set ?_ ?_ _ | with_reducible refine Ext.drew ?_ | with_reducible refine Ext.drewN ?_ _ | with_reducible refine Ext.trans ?_ (by assumption) | (dsimp only; omega))))).mono ?_
        rintro e w2 ⟨rfl, hE⟩
        have E : Ext w w2 := by (repeat' (first | with_reducible assumption | with_reducible exact Ext.refl _ | with_reducible refine Ext.alloc ?_ _ | with_reducible refine Ext.set ?_ ?_ _ | with_reducible refine Ext.drew ?_ | with_reducible refine Ext.drewN ?_ _ | with_reducible refine Ext.trans ?_ (by assumption) | (dsimp only; omega)))
        have HB := hid (BN.out.ext hE)
        clear hE BN
        have d0 := HB.out.cell 0
        have d1 := HB.out.cell 1
        have d2 := HB.out.cell 2
        have d3 := HB.out.cell 3
        have d4 := HB.out.cell 4
        simp only [List.getElem?_toArray, List.getElem?_cons_zero, List.getElem?_cons_succ] at d0 d1 d2 d3 d4
        have dz := HB.out.lt
        go_wp2_with fail
        refine (HMX.out _).mono ?_
        rintro e w3 ⟨rfl, hE⟩
        replace HB := hid (HB.out.ext hE)
        replace E := E.trans hE
        clear hE d0 d1 d2 d3 d4 dz
        have d0 := HB.out.cell 0
        have d1 := HB.out.cell 1
        have d2 := HB.out.cell 2
        have d3 := HB.out.cell 3
        have d4 := HB.out.cell 4
        simp only [List.getElem?_toArray, List.getElem?_cons_zero, List.getElem?_cons_succ] at d0 d1 d2 d3 d4
        have dz := HB.out.lt
        go_wp2_with fail
        refine (HTP.out _ E).mono ?_
        rintro e w4 ⟨v, rfl, hown, hE⟩
        obtain ⟨TA, tc, rfl, hS⟩ := hown.form
        have HI := hid hS
        clear hown hS
        replace HB := hid (HB.out.ext hE)
        replace E := E.trans hE
        clear hE d0 d1 d2 d3 d4 dz
        have d0 := HB.out.cell 0
        have d1 := HB.out.cell 1
        have d2 := HB.out.cell 2
        have d3 := HB.out.cell 3
        have d4 := HB.out.cell 4
        simp only [List.getElem?_toArray, List.getElem?_cons_zero, List.getElem?_cons_succ] at d0 d1 d2 d3 d4
        have dz := HB.out.lt
        go_wp2_with fail
        refine (HPB.out _ E).mono ?_
        rintro e w5 ⟨rfl, hE⟩
        replace HI := hid (HI.out.ext hE)
        replace HB := hid (HB.out.ext hE)
        replace E := E.trans hE
        clear hE d0 d1 d2 d3 d4 dz
        have d0 := HB.out.cell 0
        have d1 := HB.out.cell 1
        have d2 := HB.out.cell 2
        have d3 := HB.out.cell 3
        have d4 := HB.out.cell 4
        simp only [List.getElem?_toArray, List.getElem?_cons_zero, List.getElem?_cons_succ] at d0 d1 d2 d3 d4
        have dz := HB.out.lt
        go_wp2_with fail
        refine (HMB.out _).mono ?_
        rintro e w5 ⟨rfl, hE⟩
        replace HI := hid (HI.out.ext hE)
        replace HB := hid (HB.out.ext hE)
        replace E := E.trans hE
        clear hE d0 d1 d2 d3 d4 dz
        have d0 := HB.out.cell 0
        have d1 := HB.out.cell 1
        have d2 := HB.out.cell 2
        have d3 := HB.out.cell 3
        have d4 := HB.out.cell 4
        simp only [List.getElem?_toArray, List.getElem?_cons_zero, List.getElem?_cons_succ] at d0 d1 d2 d3 d4
        have dz := HB.out.lt
        go_wp2_with fail
        refine (HSP.out bm _ _ _ HI.out).mono ?_
        rintro e w6 ⟨v, u, rfl, hv1, hu1, hE⟩
        obtain ⟨CA, cc, rfl, -⟩ := hv1.form
        obtain ⟨FA, fc, rfl, -⟩ := hu1.form
        replace HI := hid (HI.out.ext hE)
        clear hv1 hu1
        rw [HC1.out, HF1.out]
        replace HB := hid (HB.out.ext hE)
        replace E := E.trans hE
        clear hE d0 d1 d2 d3 d4 dz
        have d0 := HB.out.cell 0
        have d1 := HB.out.cell 1
        have d2 := HB.out.cell 2
        have d3 := HB.out.cell 3
        have d4 := HB.out.cell 4
        simp only [List.getElem?_toArray, List.getElem?_cons_zero, List.getElem?_cons_succ] at d0 d1 d2 d3 d4
        have dz := HB.out.lt
        go_wp2_with fail
        refine (HSP.out mx _ _ _ HI.out).mono ?_
        rintro e w6 ⟨v, u, rfl, hv1, hu1, hE⟩
        obtain ⟨CA, cc, rfl, -⟩ := hv1.form
        obtain ⟨FA, fc, rfl, -⟩ := hu1.form
        replace HI := hid (HI.out.ext hE)
        clear hv1 hu1
        rw [HC2.out, HF2.out]
        replace HB := hid (HB.out.ext hE)
        replace E := E.trans hE
        clear hE d0 d1 d2 d3 d4 dz
        have d0 := HB.out.cell 0
        have d1 := HB.out.cell 1
        have d2 := HB.out.cell 2
        have d3 := HB.out.cell 3
        have d4 := HB.out.cell 4
        simp only [List.getElem?_toArray, List.getElem?_cons_zero, List.getElem?_cons_succ] at d0 d1 d2 d3 d4
        have dz := HB.out.lt
        go_wp2_with fail
        refine (HWK.out _ E).mono ?_
        rintro e w9 ⟨rfl, hE⟩
        replace E := E.trans hE
        clear hE
        go_wp2
        go_ret
        exact ⟨rfl, E⟩
    · rw [if_neg hx2] at hb4
      rcases hb4 with h | ⟨h, h'⟩
      · clear hW hT
        unfold wval wcells at *
        obtain ⟨spr, most, miss, al, smp⟩ := d
        obtain ⟨SA, sc, MA, mc⟩ := A
        dsimp only at *
        generalize spr.length = n at *
        generalize smp.length = m at *
        go_enter Tryd.func7, Tryd.ntmps7
        go_wp2_with fail
        refine (HV.out _ (by (repeat' (first | with_reducible assumption | with_reducible exact Ext.refl _ | with_reducible refine Ext.alloc ?_ _ | with_reducible refine Ext.set ?_ ?_ _ | with_reducible refine Ext.drew ?_ | with_reducible refine Ext.drewN ?_ _ | with_reducible refine Ext.trans ?_ (by assumption) | (dsimp only; omega))))).mono ?_
        rintro e w2 ⟨rfl, hE⟩
        have E : Ext w w2 := by (repeat' (first | with_reducible assumption | with_reducible exact Ext.refl _ | with_reducible refine Ext.alloc ?_ _ | with_reducible refine Ext.set ?_ ?_ _ | with_reducible refine Ext.drew ?_ | with_reducible refine Ext.drewN ?_ _ | with_reducible refine Ext.trans ?_ (by assumption) | (dsimp only; omega)))
        have HB := hid (BN.out.ext hE)
        clear hE BN
        have d0 := HB.out.cell 0
        have d1 := HB.out.cell 1
        have d2 := HB.out.cell 2
        have d3 := HB.out.cell 3
        have d4 := HB.out.cell 4
        simp only [List.getElem?_toArray, List.getElem?_cons_zero, List.getElem?_cons_succ] at d0 d1 d2 d3 d4
        have dz := HB.out.lt
        go_wp2_with fail
        refine (HMX.out _).mono ?_
        rintro e w3 ⟨rfl, hE⟩
        replace HB := hid (HB.out.ext hE)
        replace E := E.trans hE
        clear hE d0 d1 d2 d3 d4 dz
        have d0 := HB.out.cell 0
        have d1 := HB.out.cell 1
        have d2 := HB.out.cell 2
        have d3 := HB.out.cell 3
        have d4 := HB.out.cell 4
        simp only [List.getElem?_toArray, List.getElem?_cons_zero, List.getElem?_cons_succ] at d0 d1 d2 d3 d4
        have dz := HB.out.lt
        go_wp2_with fail
        refine (HTP.out _ E).mono ?_
        rintro e w4 ⟨v, rfl, hown, hE⟩
        obtain ⟨TA, tc, rfl, hS⟩ := hown.form
        have HI := hid hS
        clear hown hS
        replace HB := hid (HB.out.ext hE)
        replace E := E.trans hE
        clear hE d0 d1 d2 d3 d4 dz
        have d0 := HB.out.cell 0
        have d1 := HB.out.cell 1
        have d2 := HB.out.cell 2
        have d3 := HB.out.cell 3
        have d4 := HB.out.cell 4
        simp only [List.getElem?_toArray, List.getElem?_cons_zero, List.getElem?_cons_succ] at d0 d1 d2 d3 d4
        have dz := HB.out.lt
        go_wp2_with fail
        refine (HPB.out _ E).mono ?_
        rintro e w5 ⟨rfl, hE⟩
        replace HI := hid (HI.out.ext hE)
        replace HB := hid (HB.out.ext hE)
        replace E := E.trans hE
        clear hE d0 d1 d2 d3 d4 dz
        have d0 := HB.out.cell 0
        have d1 := HB.out.cell 1
        have d2 := HB.out.cell 2
        have d3 := HB.out.cell 3
        have d4 := HB.out.cell 4
        simp only [List.getElem?_toArray, List.getElem?_cons_zero, List.getElem?_cons_succ] at d0 d1 d2 d3 d4
        have dz := HB.out.lt
        go_wp2_with fail
        refine (HMB.out _).mono ?_
        rintro e w5 ⟨rfl, hE⟩
        replace HI := hid (HI.out.ext hE)
        replace HB := hid (HB.out.ext hE)
        replace E := E.trans hE
        clear hE d0 d1 d2 d3 d4 dz
        have d0 := HB.out.cell 0
        have d1 := HB.out.cell 1
        have d2 := HB.out.cell 2
        have d3 := HB.out.cell 3
        have d4 := HB.out.cell 4
        simp only [List.getElem?_toArray, List.getElem?_cons_zero, List.getElem?_cons_succ] at d0 d1 d2 d3 d4
        have dz := HB.out.lt
        go_wp2_with fail
        refine (HSP.out bm _ _ _ HI.out).mono ?_
        rintro e w6 ⟨v, u, rfl, hv1, hu1, hE⟩
        obtain ⟨CA, cc, rfl, -⟩ := hv1.form
        obtain ⟨FA, fc, rfl, -⟩ := hu1.form
        replace HI := hid (HI.out.ext hE)
        clear hv1 hu1
        rw [HC1.out, HF1.out]
        replace HB := hid (HB.out.ext hE)
        replace E := E.trans hE
        clear hE d0 d1 d2 d3 d4 dz
        have d0 := HB.out.cell 0
        have d1 := HB.out.cell 1
        have d2 := HB.out.cell 2
        have d3 := HB.out.cell 3
        have d4 := HB.out.cell 4
        simp only [List.getElem?_toArray, List.getElem?_cons_zero, List.getElem?_cons_succ] at d0 d1 d2 d3 d4
        have dz := HB.out.lt
        go_wp2_with fail
        refine (HSP.out mx _ _ _ HI.out).mono ?_
        rintro e w6 ⟨v, u, rfl, hv1, hu1, hE⟩
        obtain ⟨CA, cc, rfl, -⟩ := hv1.form
        obtain ⟨FA, fc, rfl, -⟩ := hu1.form
        replace HI := hid (HI.out.ext hE)
        clear hv1 hu1
        rw [HC2.out, HF2.out]
        replace HB := hid (HB.out.ext hE)
        replace E := E.trans hE
        clear hE d0 d1 d2 d3 d4 dz
        have d0 := HB.out.cell 0
        have d1 := HB.out.cell 1
        have d2 := HB.out.cell 2
        have d3 := HB.out.cell 3
        have d4 := HB.out.cell 4
        simp only [List.getElem?_toArray, List.getElem?_cons_zero, List.getElem?_cons_succ] at d0 d1 d2 d3 d4
        have dz := HB.out.lt
        go_wp2_with fail
        refine (HWK.out _ E).mono ?_
        rintro e w9 ⟨rfl, hE⟩
        replace E := E.trans hE
        clear hE
        go_wp2
        go_ret
        exact ⟨rfl, E⟩
      · subst h
        clear hW hT
        unfold wval wcells at *
        obtain ⟨spr, most, miss, al, smp⟩ := d
        obtain ⟨SA, sc, MA, mc⟩ := A
        dsimp only at *
        generalize spr.length = n at *
        generalize smp.length = m at *
        go_enter Tryd.func7, Tryd.ntmps7
        go_wp2_with fail
        refine (HV.out _ (by (repeat' (first | with_reducible assumption | with_reducible exact Ext.refl _ | with_reducible refine Ext.alloc ?_ _ | with_reducible refine Ext.set ?_ ?_ _ | with_reducible refine Ext.drew ?_ | with_reducible refine Ext.drewN ?_ _ | with_reducible refine Ext.trans ?_ (by assumption) | (dsimp only; omega))))).mono ?_
        rintro e w2 ⟨rfl, hE⟩
        have E : Ext w w2 := by (repeat' (first | with_reducible assumption | with_reducible exact Ext.refl _ | with_reducible refine Ext.alloc ?_ _ | with_reducible refine Ext.set ?_ ?_ _ | with_reducible refine Ext.drew ?_ | with_reducible refine Ext.drewN ?_ _ | with_reducible refine Ext.trans ?_ (by assumption) | (dsimp only; omega)))
        have HB := hid (BN.out.ext hE)
        clear hE BN
        have d0 := HB.out.cell 0
        have d1 := HB.out.cell 1
        have d2 := HB.out.cell 2
        have d3 := HB.out.cell 3
        have d4 := HB.out.cell 4
        simp only [List.getElem?_toArray, List.getElem?_cons_zero, List.getElem?_cons_succ] at d0 d1 d2 d3 d4
        have dz := HB.out.lt
        go_wp2_with fail
        refine (HMX.out _).mono ?_
        rintro e w3 ⟨rfl, hE⟩
        replace HB := hid (HB.out.ext hE)
        replace E := E.trans hE
        clear hE d0 d1 d2 d3 d4 dz
        have d0 := HB.out.cell 0
        have d1 := HB.out.cell 1
        have d2 := HB.out.cell 2
        have d3 := HB.out.cell 3
        have d4 := HB.out.cell 4
        simp only [List.getElem?_toArray, List.getElem?_cons_zero, List.getElem?_cons_succ] at d0 d1 d2 d3 d4
        have dz := HB.out.lt
        go_wp2_with fail
        refine (HTP.out _ E).mono ?_
        rintro e w4 ⟨v, rfl, hown, hE⟩
        obtain ⟨TA, tc, rfl, hS⟩ := hown.form
        have HI := hid hS
        clear hown hS
        replace HB := hid (HB.out.ext hE)
        replace E := E.trans hE
        clear hE d0 d1 d2 d3 d4 dz
        have d0 := HB.out.cell 0
        have d1 := HB.out.cell 1
        have d2 := HB.out.cell 2
        have d3 := HB.out.cell 3
        have d4 := HB.out.cell 4
        simp only [List.getElem?_toArray, List.getElem?_cons_zero, List.getElem?_cons_succ] at d0 d1 d2 d3 d4
        have dz := HB.out.lt
        go_wp2_with fail
        refine (HPB.out _ E).mono ?_
        rintro e w5 ⟨rfl, hE⟩
        replace HI := hid (HI.out.ext hE)
        replace HB := hid (HB.out.ext hE)
        replace E := E.trans hE
        clear hE d0 d1 d2 d3 d4 dz
        have d0 := HB.out.cell 0
        have d1 := HB.out.cell 1
        have d2 := HB.out.cell 2
        have d3 := HB.out.cell 3
        have d4 := HB.out.cell 4
        simp only [List.getElem?_toArray, List.getElem?_cons_zero, List.getElem?_cons_succ] at d0 d1 d2 d3 d4
        have dz := HB.out.lt
        go_wp2_with fail
        refine (HMB.out _).mono ?_
        rintro e w5 ⟨rfl, hE⟩
        replace HI := hid (HI.out.ext hE)
        replace HB := hid (HB.out.ext hE)
        replace E := E.trans hE
        clear hE d0 d1 d2 d3 d4 dz
        have d0 := HB.out.cell 0
        have d1 := HB.out.cell 1
        have d2 := HB.out.cell 2
        have d3 := HB.out.cell 3
        have d4 := HB.out.cell 4
        simp only [List.getElem?_toArray, List.getElem?_cons_zero, List.getElem?_cons_succ] at d0 d1 d2 d3 d4
        have dz := HB.out.lt
        go_wp2_with fail
        refine (HSP.out bm _ _ _ HI.out).mono ?_
        rintro e w6 ⟨v, u, rfl, hv1, hu1, hE⟩
        obtain ⟨CA, cc, rfl, -⟩ := hv1.form
        obtain ⟨FA, fc, rfl, -⟩ := hu1.form
        replace HI := hid (HI.out.ext hE)
        clear hv1 hu1
        rw [HC1.out, HF1.out]
        replace HB := hid (HB.out.ext hE)
        replace E := E.trans hE
        clear hE d0 d1 d2 d3 d4 dz
        have d0 := HB.out.cell 0
        have d1 := HB.out.cell 1
        have d2 := HB.out.cell 2
        have d3 := HB.out.cell 3
        have d4 := HB.out.cell 4
        simp only [List.getElem?_toArray, List.getElem?_cons_zero, List.getElem?_cons_succ] at d0 d1 d2 d3 d4
        have dz := HB.out.lt
        go_wp2_with fail
        refine (HSP.out mx _ _ _ HI.out).mono ?_
        rintro e w6 ⟨v, u, rfl, hv1, hu1, hE⟩
        obtain ⟨CA, cc, rfl, -⟩ := hv1.form
        obtain ⟨FA, fc, rfl, -⟩ := hu1.form
        replace HI := hid (HI.out.ext hE)
        clear hv1 hu1
        rw [HC2.out, HF2.out]
        replace HB := hid (HB.out.ext hE)
        replace E := E.trans hE
        clear hE d0 d1 d2 d3 d4 dz
        have d0 := HB.out.cell 0
        have d1 := HB.out.cell 1
        have d2 := HB.out.cell 2
        have d3 := HB.out.cell 3
        have d4 := HB.out.cell 4
        simp only [List.getElem?_toArray, List.getElem?_cons_zero, List.getElem?_cons_succ] at d0 d1 d2 d3 d4
        have dz := HB.out.lt
        go_wp2_with fail
        refine (HWK.out _ E).mono ?_
        rintro e w9 ⟨rfl, hE⟩
        replace E := E.trans hE
        clear hE
        go_wp2
        go_ret
        exact ⟨rfl, E⟩
end Go.Proofs.YtcfijidlbimckaaDoor
