/- The law of water that is served. -/
import Derived.Test.YtdlenenonmjklaaDoorVal
import Derived.Test.YtdlenenonmjklaaDoorRPosO
import Derived.Test.YtdlenenonmjklaaDoorSrvM
set_option linter.unusedSimpArgs false
set_option linter.unusedVariables false
namespace Go.Proofs.YtdlenenonmjklaaDoor
open Go.RowKit
def posAt (d : Wat) (t : Int) : Bool := if wB t 0 ((2 ^ d.spr.length - 1 : Nat) : Int) = true then posR d d.smp t.toNat else false
theorem posAt_any (d : Wat) (A : WA) (hok : WOk d) (t : Int) (w : World) (hW : WIn w d A) :
    Calls Tryd.prog 13 #[wval d A, .slice A.MA d.smp.length A.mc, .int .i64 t] w fun e w' => e = .returned (.bool (posAt d t)) ∧ Ext w w' := by
  have h8 := hok.n8
  have h20 := hok.m20
  unfold posAt
  cases hw : wB t 0 ((2 ^ d.spr.length - 1 : Nat) : Int)
  · exact rPossible_out d A d.smp A.MA A.mc t hw (by omega) (by omega) w hW.smp
  · have h1 := wB_true.1 hw
    have h2 := hok.p256
    obtain ⟨k, rfl⟩ := Int.eq_ofNat_of_zero_le h1.1
    rw [if_pos rfl, Int.toNat_natCast]
    exact rPossible_any d A d.smp A.MA A.mc k (by omega) (by omega) (by omega) hok.mix255 w hW.smp
set_option maxHeartbeats 8000000 in
set_option maxRecDepth 100000 in
theorem waterServed_any (d : Wat) (A : WA) (t need : Int) (w : World) (hW : WIn w d A) (hT : TabW w) :
    Calls Tryd.prog 3 #[wval d A, .int .i64 t, .int .i64 need] w fun e w' => e = .returned (.bool true) ∧ Ext w w' := by
  have HV := hid (fun W (hE : Ext w W) => valid_any d A W (hW.ext hE))
  have HWK := hid (fun W (hE : Ext w W) => works_any W (hT.ext hE))
  have BN := hid (Blk.new w 25 (wcells d A))
  cases hv : validB d
  case false =>
    rw [hv] at HV
    clear hW hT hv
    unfold wval wcells at *
    obtain ⟨spr, most, miss, al, smp⟩ := d
    obtain ⟨SA, sc, MA, mc⟩ := A
    dsimp only at *
    generalize spr.length = n at *
    generalize smp.length = m at *
    go_enter Tryd.func3, Tryd.ntmps3
    go_wp2_with fail
    refine (HV.out _ (by (repeat' (first | with_reducible assumption | with_reducible exact Ext.refl _ | with_reducible refine Ext.alloc ?_ _ | with_reducible refine Ext.set ?_ ?_ _ | with_reducible refine Ext.drew ?_ | with_reducible refine Ext.drewN ?_ _ | with_reducible refine Ext.trans ?_ (by assumption) | (dsimp only; omega))))).mono ?_
    rintro e w2 ⟨rfl, hE⟩
    have E : Ext w w2 := by (repeat' (first | with_reducible assumption | with_reducible exact Ext.refl _ | with_reducible refine Ext.alloc ?_ _ | with_reducible refine Ext.set ?_ ?_ _ | with_reducible refine Ext.drew ?_ | with_reducible refine Ext.drewN ?_ _ | with_reducible refine Ext.trans ?_ (by assumption) | (dsimp only; omega)))
    have HB := hid (BN.out.ext hE)
    clear hE BN
    have d0 := HB.out.cell 0
    have d1 := HB.out.cell 1
    have d2 := HB.out.cell 2
    have d3 := HB.out.cell 3
    have d4 := HB.out.cell 4
    simp only [List.getElem?_toArray, List.getElem?_cons_zero, List.getElem?_cons_succ] at d0 d1 d2 d3 d4
    have dz := HB.out.lt
    go_wp2_with fail
    refine (HWK.out _ E).mono ?_
    rintro e w9 ⟨rfl, hE⟩
    replace E := E.trans hE
    clear hE
    go_wp2
    go_ret
    exact ⟨rfl, E⟩
  have hwb : watB d = true := by unfold validB at hv; simp at hv; exact hv.2
  have hok := watB_ok hwb
  have HP := hid (fun W (hE : Ext w W) => posAt_any d A hok t W (hW.ext hE))
  rw [hv] at HV
  cases hp : posAt d t
  case false =>
    rw [hp] at HP
    clear hW hT hv hwb hok hp
    unfold wval wcells at *
    obtain ⟨spr, most, miss, al, smp⟩ := d
    obtain ⟨SA, sc, MA, mc⟩ := A
    dsimp only at *
    generalize spr.length = n at *
    generalize smp.length = m at *
    go_enter Tryd.func3, Tryd.ntmps3
    go_wp2_with fail
    refine (HV.out _ (by (repeat' (first | with_reducible assumption | with_reducible exact Ext.refl _ | with_reducible refine Ext.alloc ?_ _ | with_reducible refine Ext.set ?_ ?_ _ | with_reducible refine Ext.drew ?_ | with_reducible refine Ext.drewN ?_ _ | with_reducible refine Ext.trans ?_ (by assumption) | (dsimp only; omega))))).mono ?_
    rintro e w2 ⟨rfl, hE⟩
    have E : Ext w w2 := by (repeat' (first | with_reducible assumption | with_reducible exact Ext.refl _ | with_reducible refine Ext.alloc ?_ _ | with_reducible refine Ext.set ?_ ?_ _ | with_reducible refine Ext.drew ?_ | with_reducible refine Ext.drewN ?_ _ | with_reducible refine Ext.trans ?_ (by assumption) | (dsimp only; omega)))
    have HB := hid (BN.out.ext hE)
    clear hE BN
    have d0 := HB.out.cell 0
    have d1 := HB.out.cell 1
    have d2 := HB.out.cell 2
    have d3 := HB.out.cell 3
    have d4 := HB.out.cell 4
    simp only [List.getElem?_toArray, List.getElem?_cons_zero, List.getElem?_cons_succ] at d0 d1 d2 d3 d4
    have dz := HB.out.lt
    go_wp2_with fail
    refine (HP.out _ E).mono ?_
    rintro e w3 ⟨rfl, hE⟩
    replace HB := hid (HB.out.ext hE)
    replace E := E.trans hE
    clear hE d0 d1 d2 d3 d4 dz
    have d0 := HB.out.cell 0
    have d1 := HB.out.cell 1
    have d2 := HB.out.cell 2
    have d3 := HB.out.cell 3
    have d4 := HB.out.cell 4
    simp only [List.getElem?_toArray, List.getElem?_cons_zero, List.getElem?_cons_succ] at d0 d1 d2 d3 d4
    have dz := HB.out.lt
    go_wp2_with fail
    refine (HWK.out _ E).mono ?_
    rintro e w9 ⟨rfl, hE⟩
    replace E := E.trans hE
    clear hE
    go_wp2
    go_ret
    exact ⟨rfl, E⟩
  by_cases hn1 : need < 0
  case pos =>
    rw [hp] at HP
    clear hW hT hv hwb hok hp
    unfold wval wcells at *
    obtain ⟨spr, most, miss, al, smp⟩ := d
    obtain ⟨SA, sc, MA, mc⟩ := A
    dsimp only at *
    generalize spr.length = n at *
    generalize smp.length = m at *
    go_enter Tryd.func3, Tryd.ntmps3
    go_wp2_with fail
    refine (HV.out _ (by (repeat' (first | with_reducible assumption | with_reducible exact Ext.refl _ | with_reducible refine Ext.alloc ?_ _ | with_reducible refine Ext.set ?_ ?_ _ | with_reducible refine Ext.drew ?_ | with_reducible refine Ext.drewN ?_ _ | with_reducible refine Ext.trans ?_ (by assumption) | (dsimp only; omega))))).mono ?_
    rintro e w2 ⟨rfl, hE⟩
    have E : Ext w w2 := by (repeat' (first | with_reducible assumption | with_reducible exact Ext.refl _ | with_reducible refine Ext.alloc ?_ _ | with_reducible refine Ext.set ?_ ?_ _ | with_reducible refine Ext.drew ?_ | with_reducible refine Ext.drewN ?_ _ | with_reducible refine Ext.trans ?_ (by assumption) | (dsimp only; omega)))
    have HB := hid (BN.out.ext hE)
    clear hE BN
    have d0 := HB.out.cell 0
    have d1 := HB.out.cell 1
    have d2 := HB.out.cell 2
    have d3 := HB.out.cell 3
    have d4 := HB.out.cell 4
    simp only [List.getElem?_toArray, List.getElem?_cons_zero, List.getElem?_cons_succ] at d0 d1 d2 d3 d4
    have dz := HB.out.lt
    go_wp2_with fail
    refine (HP.out _ E).mono ?_
    rintro e w3 ⟨rfl, hE⟩
    replace HB := hid (HB.out.ext hE)
    replace E := E.trans hE
    clear hE d0 d1 d2 d3 d4 dz
    have d0 := HB.out.cell 0
    have d1 := HB.out.cell 1
    have d2 := HB.out.cell 2
    have d3 := HB.out.cell 3
    have d4 := HB.out.cell 4
    simp only [List.getElem?_toArray, List.getElem?_cons_zero, List.getElem?_cons_succ] at d0 d1 d2 d3 d4
    have dz := HB.out.lt
    go_wp2_with fail
    refine (HWK.out _ E).mono ?_
    rintro e w9 ⟨rfl, hE⟩
    replace E := E.trans hE
    clear hE
    go_wp2
    go_ret
    exact ⟨rfl, E⟩
  by_cases hn2 : 10000 < need
  case pos =>
    rw [hp] at HP
    clear hW hT hv hwb hok hp
    unfold wval wcells at *
    obtain ⟨spr, most, miss, al, smp⟩ := d
    obtain ⟨SA, sc, MA, mc⟩ := A
    dsimp only at *
    generalize spr.length = n at *
    generalize smp.length = m at *
    go_enter Tryd.func3, Tryd.ntmps3
    go_wp2_with fail
    refine (HV.out _ (by (repeat' (first | with_reducible assumption | with_reducible exact Ext.refl _ | with_reducible refine Ext.alloc ?_ _ | with_reducible refine Ext.set ?_ ?_ _ | with_reducible refine Ext.drew ?_ | with_reducible refine Ext.drewN ?_ _ | with_reducible refine Ext.trans ?_ (by assumption) | (dsimp only; omega))))).mono ?_
    rintro e w2 ⟨rfl, hE⟩
    have E : Ext w w2 := by (repeat' (first | with_reducible assumption | with_reducible exact Ext.refl _ | with_reducible refine Ext.alloc ?_ _ | with_reducible refine Ext.set ?_ ?_ _ | with_reducible refine Ext.drew ?_ | with_reducible refine Ext.drewN ?_ _ | with_reducible refine Ext.trans ?_ (by assumption) | (dsimp only; omega)))
    have HB := hid (BN.out.ext hE)
    clear hE BN
    have d0 := HB.out.cell 0
    have d1 := HB.out.cell 1
    have d2 := HB.out.cell 2
    have d3 := HB.out.cell 3
    have d4 := HB.out.cell 4
    simp only [List.getElem?_toArray, List.getElem?_cons_zero, List.getElem?_cons_succ] at d0 d1 d2 d3 d4
    have dz := HB.out.lt
    go_wp2_with fail
    refine (HP.out _ E).mono ?_
    rintro e w3 ⟨rfl, hE⟩
    replace HB := hid (HB.out.ext hE)
    replace E := E.trans hE
    clear hE d0 d1 d2 d3 d4 dz
    have d0 := HB.out.cell 0
    have d1 := HB.out.cell 1
    have d2 := HB.out.cell 2
    have d3 := HB.out.cell 3
    have d4 := HB.out.cell 4
    simp only [List.getElem?_toArray, List.getElem?_cons_zero, List.getElem?_cons_succ] at d0 d1 d2 d3 d4
    have dz := HB.out.lt
    go_wp2_with fail
    refine (HWK.out _ E).mono ?_
    rintro e w9 ⟨rfl, hE⟩
    replace E := E.trans hE
    clear hE
    go_wp2
    go_ret
    exact ⟨rfl, E⟩
  rw [hp] at HP
  obtain ⟨tn, rfl, hpr⟩ : ∃ tn : Nat, t = (tn : Int) ∧ posR d d.smp tn = true := by
    unfold posAt at hp
    split at hp
    · rename_i h1
      have h2 := wB_true.1 h1
      obtain ⟨k, rfl⟩ := Int.eq_ofNat_of_zero_le h2.1
      exact ⟨k, rfl, by simpa using hp⟩
    · cases hp
  have htm := posR_mem hok hpr
  have hnil : truthsL d ≠ [] := List.ne_nil_of_mem htm
  have he : watE d = 0 := by unfold watE; rw [if_pos hwb, if_neg hnil]
  have HANY := hid (tlI_has hwb htm)
  have h256 := two8 hok.n8
  have hl := truths_lt hok
  have htn := hl tn htm
  have hn8 := hok.n8
  have hm20 := hok.m20
  have hsv : surV d = sureN d.spr.length (truthsL d) := by unfold surV; rw [if_pos he]
  have hmv : mayV d = mayN d.spr.length (truthsL d) := by unfold mayV; rw [if_pos he]
  have hsl := sureN_le d.spr.length (truthsL d)
  have hml : mayN d.spr.length (truthsL d) ≤ 2 ^ d.spr.length - 1 := dif_le _ _
  have htl : (tlI d).length ≤ 1000 := by
    unfold tlI
    rw [if_pos hwb, List.length_map]
    have := truths_len hok
    omega
  have HAL := hid (fun W => rAll_any d A (by omega) W)
  have HTP := hid (fun W (hE : Ext w W) => truths_any d A (by omega) (by omega) W (hW.ext hE) (hT.ext hE))
  have HCL := hid (fun W (hE : Ext w W) => pclean_any d A (by omega) (by omega) W (hW.ext hE) (hT.ext hE))
  have HSV := hid (fun W (hE : Ext w W) => pserve_any d A need (by omega) (by omega) W (hW.ext hE) (hT.ext hE))
  have HPP := hid (fun (k : Nat) (h1 : 1 ≤ k) (h2 : k ≤ 2 ^ d.spr.length - 1) W (hE : Ext w W) => ppure_any d A (k : Int) (by omega) (by omega) W (hW.ext hE) (hT.ext hE))
  have HPE := hid (fun (k : Nat) (h1 : 1 ≤ k) (h2 : k ≤ 2 ^ d.spr.length - 1) => (show purE d (k : Int) = 0 by
    unfold purE
    rw [if_pos hwb, if_pos (show mixB d.spr.length (k : Int) = true from wB_true.2 ⟨by omega, by omega⟩), if_neg hnil]))
  have HPM := hid (fun (k : Nat) (h1 : 1 ≤ k) (h2 : k ≤ 2 ^ d.spr.length - 1) (h3 : k &&& tn = 0) => (show purM d (k : Int) = true by
    unfold purM
    rw [if_pos (HPE.out k h1 h2), Int.toNat_natCast]
    exact decide_eq_true (cleanN_pos htm h3)))
  have HPS := hid (fun (k : Nat) (h1 : 1 ≤ k) (h2 : k ≤ 2 ^ d.spr.length - 1) (h3 : k &&& tn ≠ 0) => (show purS d (k : Int) = false by
    unfold purS
    rw [if_pos (HPE.out k h1 h2), Int.toNat_natCast]
    have := cleanN_lt htm h3
    exact decide_eq_false (by omega)))
  have HPC := hid (fun (k : Nat) (h1 : 1 ≤ k) (h2 : k ≤ 2 ^ d.spr.length - 1) (h3 : dif k (sureN d.spr.length (truthsL d)) = 0) => (show purS d (k : Int) = true by
    unfold purS
    rw [if_pos (HPE.out k h1 h2), Int.toNat_natCast]
    exact decide_eq_true (cleanN_of_sure h256 hl (by omega) h3)))
  have hx1 := and_i64 (a := sureN d.spr.length (truthsL d)) (b := tn) (by omega) (by omega)
  rw [sureN_and h256 hl htm] at hx1
  have hd2 := dif_le (2 ^ d.spr.length - 1) tn
  have hx2 : bits BinOp.andNot IntKind.i64 ((2 ^ d.spr.length - 1 : Nat) : Int) (tn : Int) = ((dif (2 ^ d.spr.length - 1) tn : Nat) : Int) := andNot_i64 (by omega) (by omega)
  have hx3 : bits BinOp.andNot IntKind.i64 ((dif (2 ^ d.spr.length - 1) tn : Nat) : Int) ((mayN d.spr.length (truthsL d) : Nat) : Int) = 0 := by
    have h := andNot_i64 (a := dif (2 ^ d.spr.length - 1) tn) (b := mayN d.spr.length (truthsL d)) (by omega) (by omega)
    rw [h]
    have h2 := mayN_all h256 hl htm
    unfold dif at h2 ⊢
    rw [h2]; rfl
  have hwn : wB need 0 10000 = true := wB_true.2 ⟨by omega, by omega⟩
  have hse : servE d need = 0 ∨ servE d need = 3 := by
    unfold servE
    rw [if_pos hwb, if_pos hwn, if_neg hnil]
    split
    · exact .inl rfl
    · exact .inr rfl
  have hsp : servE d need = 0 → servP d need = sureN d.spr.length (truthsL d) := fun h => by unfold servP; rw [if_pos h]; rfl
  have hsq : servE d need = 0 → servQ d need < 256 := fun h => by
    unfold servQ servT
    rw [if_pos h]
    cases ho : servO d need with
    | none => decide
    | some p => have := servO_lt hok ho; have := hok.p2; dsimp only; omega
  have hpq := servQ_and hok need
  unfold ServeIs at HSV
  unfold PureIs at HPP
  rw [he] at HTP HCL
  rw [hsv, hmv] at HCL
  clear hv hwb hok hp hpr htm hnil he hl hsv hmv hwn
  generalize hzz : 2 ^ d.spr.length - 1 = z at *
  generalize sureN d.spr.length (truthsL d) = sv at *
  generalize mayN d.spr.length (truthsL d) = mv at *
  generalize tlI d = tl at *
  generalize dif z tn = dz1 at *
  generalize servE d need = se at *
  generalize servP d need = sp at *
  generalize servQ d need = sq at *
  generalize servF d need = sf at *
  generalize purS d = pS at *
  generalize purM d = pM at *
  generalize purE d = pE at *
  have hx1' : bits BinOp.and IntKind.i64 (sv : Int) (tn : Int) = 0 := by simpa using hx1
  clear hx1
  clear hW hT
  unfold wval wcells at *
  obtain ⟨spr, most, miss, al, smp⟩ := d
  obtain ⟨SA, sc, MA, mc⟩ := A
  dsimp only at *
  generalize spr.length = n at *
  generalize smp.length = m at *
  go_enter Tryd.func3, Tryd.ntmps3
  go_wp2_with fail
  refine (HV.out _ (by (repeat' (first | with_reducible assumption | with_reducible exact Ext.refl _ | with_reducible refine Ext.alloc ?_ _ | with_reducible refine Ext.set ?_ ?_ _ | with_reducible refine Ext.drew ?_ | with_reducible refine Ext.drewN ?_ _ | with_reducible refine Ext.trans ?_ (by assumption) | (dsimp only; omega))))).mono ?_
  rintro e w2 ⟨rfl, hE⟩
  have E : Ext w w2 := by (repeat' (first | with_reducible assumption | with_reducible exact Ext.refl _ | with_reducible refine Ext.alloc ?_ _ | with_reducible refine Ext.set ?_ ?_ _ | with_reducible refine Ext.drew ?_ | with_reducible refine Ext.drewN ?_ _ | with_reducible refine Ext.trans ?_ (by assumption) | (dsimp only; omega)))
  have HB := hid (BN.out.ext hE)
  clear hE BN
  have d0 := HB.out.cell 0
  have d1 := HB.out.cell 1
  have d2 := HB.out.cell 2
  have d3 := HB.out.cell 3
  have d4 := HB.out.cell 4
  simp only [List.getElem?_toArray, List.getElem?_cons_zero, List.getElem?_cons_succ] at d0 d1 d2 d3 d4
  have dz := HB.out.lt
  go_wp2_with fail
  refine (HP.out _ E).mono ?_
  rintro e w3 ⟨rfl, hE⟩
  replace HB := hid (HB.out.ext hE)
  replace E := E.trans hE
  clear hE d0 d1 d2 d3 d4 dz
  have d0 := HB.out.cell 0
  have d1 := HB.out.cell 1
  have d2 := HB.out.cell 2
  have d3 := HB.out.cell 3
  have d4 := HB.out.cell 4
  simp only [List.getElem?_toArray, List.getElem?_cons_zero, List.getElem?_cons_succ] at d0 d1 d2 d3 d4
  have dz := HB.out.lt
  go_wp2_with fail
  refine (HTP.out _ E).mono ?_
  rintro e w4 ⟨v, rfl, hown, hE⟩
  obtain ⟨TA, tc, rfl, hS⟩ := hown.form
  have HI := hid hS
  clear hown hS
  replace HB := hid (HB.out.ext hE)
  replace E := E.trans hE
  clear hE d0 d1 d2 d3 d4 dz
  have d0 := HB.out.cell 0
  have d1 := HB.out.cell 1
  have d2 := HB.out.cell 2
  have d3 := HB.out.cell 3
  have d4 := HB.out.cell 4
  simp only [List.getElem?_toArray, List.getElem?_cons_zero, List.getElem?_cons_succ] at d0 d1 d2 d3 d4
  have dz := HB.out.lt
  go_wp2_with fail
  refine (HCL.out _ E).mono ?_
  rintro e w5 ⟨rfl, hE⟩
  replace HI := hid (HI.out.ext hE)
  replace HB := hid (HB.out.ext hE)
  replace E := E.trans hE
  clear hE d0 d1 d2 d3 d4 dz
  have d0 := HB.out.cell 0
  have d1 := HB.out.cell 1
  have d2 := HB.out.cell 2
  have d3 := HB.out.cell 3
  have d4 := HB.out.cell 4
  simp only [List.getElem?_toArray, List.getElem?_cons_zero, List.getElem?_cons_succ] at d0 d1 d2 d3 d4
  have dz := HB.out.lt
  go_wp2_with fail
  refine (HSV.out _ E).mono ?_
  rintro e w6 ⟨rfl, hE⟩
  replace HI := hid (HI.out.ext hE)
  replace HB := hid (HB.out.ext hE)
  replace E := E.trans hE
  clear hE d0 d1 d2 d3 d4 dz
  have d0 := HB.out.cell 0
  have d1 := HB.out.cell 1
  have d2 := HB.out.cell 2
  have d3 := HB.out.cell 3
  have d4 := HB.out.cell 4
  simp only [List.getElem?_toArray, List.getElem?_cons_zero, List.getElem?_cons_succ] at d0 d1 d2 d3 d4
  have dz := HB.out.lt
  go_wp2_with fail
  refine (contains_any TA tc _ tl rfl htl (tn : Int) _ HI.out).mono ?_
  rintro e w7 ⟨rfl, rfl⟩
  rw [HANY.out]
  clear HI
  go_wp2_with (simp only [hx1'])
  refine (HAL.out _).mono ?_
  rintro e w8 ⟨rfl, hE⟩
  replace HB := hid (HB.out.ext hE)
  replace E := E.trans hE
  clear hE d0 d1 d2 d3 d4 dz
  have d0 := HB.out.cell 0
  have d1 := HB.out.cell 1
  have d2 := HB.out.cell 2
  have d3 := HB.out.cell 3
  have d4 := HB.out.cell 4
  simp only [List.getElem?_toArray, List.getElem?_cons_zero, List.getElem?_cons_succ] at d0 d1 d2 d3 d4
  have dz := HB.out.lt
  obtain rfl | rfl := hse
  case inr =>
    go_wp2_with (simp only [hx2, hx3])
    refine (HWK.out _ E).mono ?_
    rintro e w9 ⟨rfl, hE⟩
    replace E := E.trans hE
    clear hE
    go_wp2
    go_ret
    exact ⟨rfl, E⟩
  obtain rfl := hsp rfl
  have hq := hsq rfl
  have hx4 : bits BinOp.and IntKind.i64 (sp : Int) (sq : Int) = 0 := by
    have h := and_i64 (a := sp) (b := sq) (by omega) (by omega)
    rw [hpq] at h
    simpa using h
  clear hsp hsq
  go_wp2_with (simp only [hx2, hx3, hx1', hx4])
  go_loopw [16] (fun i wr => Ext w wr ∧ Blk wr w.heap.size 25 #[.slice SA n sc, .int .i64 most, .int .i64 miss, .int .i64 al, .slice MA m mc] ∧ ∃ k : Nat, 1 ≤ k ∧ k ≤ z + 1 ∧ i = .int .i64 k) (fun i _ => z + 1 - (intOf i).toNat)
  case atStart => exact ⟨E, HB.out, 1, Nat.le_refl _, by omega, rfl⟩
  case round =>
    clear E HB d0 d1 d2 d3 d4 dz HTP HCL HSV HV HP HANY
    obtain ⟨E, hB0, k, hk1, hk2, rfl⟩ := hrel
    have HB := hid hB0
    clear hB0
    have d0 := HB.out.cell 0
    have d1 := HB.out.cell 1
    have d2 := HB.out.cell 2
    have d3 := HB.out.cell 3
    have d4 := HB.out.cell 4
    simp only [List.getElem?_toArray, List.getElem?_cons_zero, List.getElem?_cons_succ] at d0 d1 d2 d3 d4
    have dz := HB.out.lt
    go_wp2_with fail
    refine (HAL.out _).mono ?_
    rintro e w9 ⟨rfl, hE⟩
    replace HB := hid (HB.out.ext hE)
    replace E := E.trans hE
    clear hE d0 d1 d2 d3 d4 dz
    have d0 := HB.out.cell 0
    have d1 := HB.out.cell 1
    have d2 := HB.out.cell 2
    have d3 := HB.out.cell 3
    have d4 := HB.out.cell 4
    simp only [List.getElem?_toArray, List.getElem?_cons_zero, List.getElem?_cons_succ] at d0 d1 d2 d3 d4
    have dz := HB.out.lt
    by_cases hlt : k ≤ z
    · have HPP1 := hid (HPP.out k hk1 hlt)
      rw [HPE.out k hk1 hlt] at HPP1
      have hm1 := HPM.out k hk1 hlt
      have hm2 := HPS.out k hk1 hlt
      have hm3 := HPC.out k hk1 hlt
      generalize pS (k : Int) = ps at *
      generalize pM (k : Int) = pm at *
      have hy1 := and_i64 (a := k) (b := tn) (by omega) (by omega)
      have hy2 : bits BinOp.andNot IntKind.i64 (k : Int) (sp : Int) = ((dif k sp : Nat) : Int) := andNot_i64 (by omega) (by omega)
      generalize k &&& tn = kt at *
      generalize dif k sp = kd at *
      have HM1 := hid hm1
      have HM2 := hid hm2
      have HM3 := hid hm3
      clear hm1 hm2 hm3 HPP HPE HPM HPS HPC
      go_wp2_with fail
      refine (HPP1.out _ E).mono ?_
      rintro e w10 ⟨rfl, hE⟩
      replace HB := hid (HB.out.ext hE)
      replace E := E.trans hE
      clear hE d0 d1 d2 d3 d4 dz
      have d0 := HB.out.cell 0
      have d1 := HB.out.cell 1
      have d2 := HB.out.cell 2
      have d3 := HB.out.cell 3
      have d4 := HB.out.cell 4
      simp only [List.getElem?_toArray, List.getElem?_cons_zero, List.getElem?_cons_succ] at d0 d1 d2 d3 d4
      have dz := HB.out.lt
      by_cases h1 : kt = 0
      · obtain rfl := HM1.out h1
        subst h1
        by_cases h2 : kd = 0
        · obtain rfl := HM3.out h2
          subst h2
          go_wp2_with (simp only [hy1, hy2])
          go_roundw
          case rel => exact ⟨E, HB.out, k + 1, by omega, by omega, by go_num⟩
          case measure => simp [intOf]; omega
        · cases ps
          all_goals
            go_wp2_with (simp only [hy1, hy2])
            go_roundw
            case rel => exact ⟨E, HB.out, k + 1, by omega, by omega, by go_num⟩
            case measure => simp [intOf]; omega
      · obtain rfl := HM2.out h1
        have h2 : kd ≠ 0 := fun h => by have := HM3.out h; cases this
        cases pm
        all_goals
          go_wp2_with (simp only [hy1, hy2])
          go_roundw
          case rel => exact ⟨E, HB.out, k + 1, by omega, by omega, by go_num⟩
          case measure => simp [intOf]; omega
    · go_wp2_with fail
      refine (HWK.out _ E).mono ?_
      rintro e w11 ⟨rfl, hE⟩
      replace E := E.trans hE
      clear hE
      go_wp2
      go_ret
      exact ⟨rfl, E⟩
end Go.Proofs.YtdlenenonmjklaaDoor
