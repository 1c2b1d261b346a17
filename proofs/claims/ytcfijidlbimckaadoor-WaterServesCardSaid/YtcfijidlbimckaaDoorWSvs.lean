/- The law of Serve and Conflict. -/
import Derived.Test.YtcfijidlbimckaaDoorWrk
import Derived.Test.YtcfijidlbimckaaDoorCpy
import Derived.Test.YtcfijidlbimckaaDoorRSrv
import Derived.Test.YtcfijidlbimckaaDoorRConf
set_option linter.unusedSimpArgs false
set_option linter.unusedVariables false
namespace Go.Proofs.YtcfijidlbimckaaDoor
open Go.RowKit
set_option maxHeartbeats 8000000 in
set_option maxRecDepth 100000 in
theorem waterServes_any (d : Wat) (A : WA) (x : Int) (w : World) (hW : WIn w d A) (hT : TabW w) :
    Calls Tryd.prog 10 #[wval d A, .int .i64 x] w fun e w' => e = .returned (.bool true) ∧ Ext w w' := by
  have HF := hid (fun W => far_any d A W)
  have HWK := hid (fun W (hE : Ext w W) => works_any W (hT.ext hE))
  have BN := hid (Blk.new w 25 (wcells d A))
  cases hf : farB d
  case true =>
    rw [hf] at HF
    clear hW hT hf
    unfold wval wcells at *
    obtain ⟨spr, most, miss, al, smp⟩ := d
    obtain ⟨SA, sc, MA, mc⟩ := A
    dsimp only at *
    generalize spr.length = n at *
    generalize smp.length = m at *
    go_enter Tryd.func10, Tryd.ntmps10
    go_wp2_with fail
    refine (HF.out _).mono ?_
    rintro e w2 ⟨rfl, hE⟩
    have E2 : Ext w w2 := by (repeat' (first | with_reducible assumption | with_reducible exact Ext.refl _ | with_reducible refine Ext.alloc ?_ _ | with_reducible refine Ext.set ?_ ?_ _ | with_reducible refine Ext.drew ?_ | with_reducible refine Ext.drewN ?_ _ | with_reducible refine Ext.trans ?_ (by assumption) | (dsimp only; omega)))
    go_wp2_with fail
    refine (HWK.out _ E2).mono ?_
    rintro e w3 ⟨rfl, hE3⟩
    go_wp2
    go_ret
    exact ⟨rfl, E2.trans hE3⟩
  have hb : d.spr.length ≤ 30 ∧ d.smp.length ≤ 60 := by
    unfold farB at hf
    simp only [Bool.or_eq_false_iff, Bool.and_eq_false_iff, decide_eq_false_iff_not] at hf
    omega
  obtain ⟨hn, hm⟩ := hb
  have HCP := hid (fun W (hE : Ext w W) => rcopy_any d A (by omega) (by omega) W (hW.ext hE))
  have HSR := hid (fun W (hE : Ext w W) => rserve_any d A x hn (by omega) W (hW.ext hE))
  have HFR := hid (fun W (hE : Ext w W) => rconf_any d A hn (by omega) W (hW.ext hE))
  have HSP := hid (fun A' W0 (h0 : WIn W0 d A') (hX : Ext w W0) W (hE : Ext W0 W) => pserve_any d A' x (by omega) (by omega) W (h0.ext hE) (hT.ext (hX.trans hE)))
  have HFP := hid (fun A' W0 (h0 : WIn W0 d A') (hX : Ext w W0) W (hE : Ext W0 W) => pconf_any d A' (by omega) (by omega) W (h0.ext hE) (hT.ext (hX.trans hE)))
  have htl : (conI d).length ≤ 1000 := by
    unfold conI
    split
    · rw [List.length_map]
      have := bitsL_len (conN d)
      omega
    · simp
  unfold ServeIs at HSP HSR
  unfold ConfIs at HFP HFR
  rw [hf] at HF
  clear hW hT hf
  generalize conI d = tl at *
  generalize conE d = we at *
  generalize servP d x = sp at *
  generalize servQ d x = sq at *
  generalize servF d x = sf at *
  generalize servE d x = se at *
  unfold wval wcells at *
  obtain ⟨spr, most, miss, al, smp⟩ := d
  obtain ⟨SA, sc, MA, mc⟩ := A
  dsimp only at *
  generalize hsn : spr.length = n at *
  generalize hsm : smp.length = m at *
  go_enter Tryd.func10, Tryd.ntmps10
  go_wp2_with fail
  refine (HF.out _).mono ?_
  rintro e w2 ⟨rfl, hE⟩
  have E2 : Ext w w2 := by (repeat' (first | with_reducible assumption | with_reducible exact Ext.refl _ | with_reducible refine Ext.alloc ?_ _ | with_reducible refine Ext.set ?_ ?_ _ | with_reducible refine Ext.drew ?_ | with_reducible refine Ext.drewN ?_ _ | with_reducible refine Ext.trans ?_ (by assumption) | (dsimp only; omega)))
  have HB0 := hid (BN.out.ext hE)
  have d0 := HB0.out.cell 0
  have d1 := HB0.out.cell 1
  have d2 := HB0.out.cell 2
  have d3 := HB0.out.cell 3
  have d4 := HB0.out.cell 4
  simp only [List.getElem?_toArray, List.getElem?_cons_zero, List.getElem?_cons_succ] at d0 d1 d2 d3 d4
  have dz := HB0.out.lt
  clear hE BN
  go_wp2_with fail
  refine (HCP.out _ E2).mono ?_
  rintro e w3 ⟨⟨SB, sb, MB, mb⟩, rfl, hWI, hE⟩
  have HB3 := hid (HB0.out.ext hE)
  have E3 := E2.trans hE
  dsimp only
  have HSP2 := hid (HSP.out _ _ hWI E3)
  have HFP2 := hid (HFP.out _ _ hWI E3)
  clear HSP HFP hWI HCP hE E2 HB0 d0 d1 d2 d3 d4 dz
  dsimp only at HSP2 HFP2
  have d0 := HB3.out.cell 0
  have d1 := HB3.out.cell 1
  have d2 := HB3.out.cell 2
  have d3 := HB3.out.cell 3
  have d4 := HB3.out.cell 4
  simp only [List.getElem?_toArray, List.getElem?_cons_zero, List.getElem?_cons_succ] at d0 d1 d2 d3 d4
  have dz := HB3.out.lt
  go_wp2_with fail
  have HC := hid (Blk.new w3 25 #[.slice SB n sb, .int .i64 most, .int .i64 miss, .int .i64 al, .slice MB m mb])
  have HB := hid (HB3.out.alloc (.cells #[.slice SB n sb, .int .i64 most, .int .i64 miss, .int .i64 al, .slice MB m mb] 25))
  have E := E3.alloc (.cells #[.slice SB n sb, .int .i64 most, .int .i64 miss, .int .i64 al, .slice MB m mb] 25)
  have X := ext_alloc1 w3 (.cells #[.slice SB n sb, .int .i64 most, .int .i64 miss, .int .i64 al, .slice MB m mb] 25)
  obtain ⟨W, hWe⟩ : ∃ W, w3.alloc (.cells #[.slice SB n sb, .int .i64 most, .int .i64 miss, .int .i64 al, .slice MB m mb] 25) = W := ⟨_, rfl⟩
  rw [hWe] at HC HB E X ⊢
  clear hWe HB3 d0 d1 d2 d3 d4 dz
  have d0 := HB.out.cell 0
  have d1 := HB.out.cell 1
  have d2 := HB.out.cell 2
  have d3 := HB.out.cell 3
  have d4 := HB.out.cell 4
  simp only [List.getElem?_toArray, List.getElem?_cons_zero, List.getElem?_cons_succ] at d0 d1 d2 d3 d4
  have dz := HB.out.lt
  have e0 := HC.out.cell 0
  have e1 := HC.out.cell 1
  have e2 := HC.out.cell 2
  have e3 := HC.out.cell 3
  have e4 := HC.out.cell 4
  simp only [List.getElem?_toArray, List.getElem?_cons_zero, List.getElem?_cons_succ] at e0 e1 e2 e3 e4
  have ez := HC.out.lt
  obtain ⟨qc, hqc⟩ : ∃ q, w3.heap.size = q := ⟨_, rfl⟩
  rw [hqc] at HC e0 e1 e2 e3 e4 ez ⊢
  clear hqc
  go_wp2_with fail
  refine (HSP2.out _ X).mono ?_
  rintro e w6 ⟨rfl, hE⟩
  replace HB := hid (HB.out.ext hE)
  replace HC := hid (HC.out.ext hE)
  replace E := E.trans hE
  replace X := X.trans hE
  clear hE d0 d1 d2 d3 d4 dz e0 e1 e2 e3 e4 ez
  have d0 := HB.out.cell 0
  have d1 := HB.out.cell 1
  have d2 := HB.out.cell 2
  have d3 := HB.out.cell 3
  have d4 := HB.out.cell 4
  simp only [List.getElem?_toArray, List.getElem?_cons_zero, List.getElem?_cons_succ] at d0 d1 d2 d3 d4
  have dz := HB.out.lt
  have e0 := HC.out.cell 0
  have e1 := HC.out.cell 1
  have e2 := HC.out.cell 2
  have e3 := HC.out.cell 3
  have e4 := HC.out.cell 4
  simp only [List.getElem?_toArray, List.getElem?_cons_zero, List.getElem?_cons_succ] at e0 e1 e2 e3 e4
  have ez := HC.out.lt
  go_wp2_with fail
  refine (HSR.out _ E).mono ?_
  rintro e w6 ⟨rfl, hE⟩
  replace HB := hid (HB.out.ext hE)
  replace HC := hid (HC.out.ext hE)
  replace E := E.trans hE
  replace X := X.trans hE
  clear hE d0 d1 d2 d3 d4 dz e0 e1 e2 e3 e4 ez
  have d0 := HB.out.cell 0
  have d1 := HB.out.cell 1
  have d2 := HB.out.cell 2
  have d3 := HB.out.cell 3
  have d4 := HB.out.cell 4
  simp only [List.getElem?_toArray, List.getElem?_cons_zero, List.getElem?_cons_succ] at d0 d1 d2 d3 d4
  have dz := HB.out.lt
  have e0 := HC.out.cell 0
  have e1 := HC.out.cell 1
  have e2 := HC.out.cell 2
  have e3 := HC.out.cell 3
  have e4 := HC.out.cell 4
  simp only [List.getElem?_toArray, List.getElem?_cons_zero, List.getElem?_cons_succ] at e0 e1 e2 e3 e4
  have ez := HC.out.lt
  go_wp2_with fail
  refine (HFP2.out _ X).mono ?_
  rintro e w6 ⟨v, rfl, hown, hE⟩
  obtain ⟨T1, t1, rfl, hS1⟩ := hown.form
  have HS1 := hid hS1
  clear hown hS1
  replace HB := hid (HB.out.ext hE)
  replace HC := hid (HC.out.ext hE)
  replace E := E.trans hE
  replace X := X.trans hE
  clear hE d0 d1 d2 d3 d4 dz e0 e1 e2 e3 e4 ez
  have d0 := HB.out.cell 0
  have d1 := HB.out.cell 1
  have d2 := HB.out.cell 2
  have d3 := HB.out.cell 3
  have d4 := HB.out.cell 4
  simp only [List.getElem?_toArray, List.getElem?_cons_zero, List.getElem?_cons_succ] at d0 d1 d2 d3 d4
  have dz := HB.out.lt
  have e0 := HC.out.cell 0
  have e1 := HC.out.cell 1
  have e2 := HC.out.cell 2
  have e3 := HC.out.cell 3
  have e4 := HC.out.cell 4
  simp only [List.getElem?_toArray, List.getElem?_cons_zero, List.getElem?_cons_succ] at e0 e1 e2 e3 e4
  have ez := HC.out.lt
  go_wp2_with fail
  refine (HFR.out _ E).mono ?_
  rintro e w7 ⟨v, rfl, hown, hE⟩
  obtain ⟨T2, t2, rfl, hS2⟩ := hown.form
  have HS2 := hid hS2
  replace HS1 := hid (HS1.out.ext hE)
  clear hown hS2
  replace HB := hid (HB.out.ext hE)
  replace HC := hid (HC.out.ext hE)
  replace E := E.trans hE
  replace X := X.trans hE
  clear hE d0 d1 d2 d3 d4 dz e0 e1 e2 e3 e4 ez
  have d0 := HB.out.cell 0
  have d1 := HB.out.cell 1
  have d2 := HB.out.cell 2
  have d3 := HB.out.cell 3
  have d4 := HB.out.cell 4
  simp only [List.getElem?_toArray, List.getElem?_cons_zero, List.getElem?_cons_succ] at d0 d1 d2 d3 d4
  have dz := HB.out.lt
  have e0 := HC.out.cell 0
  have e1 := HC.out.cell 1
  have e2 := HC.out.cell 2
  have e3 := HC.out.cell 3
  have e4 := HC.out.cell 4
  simp only [List.getElem?_toArray, List.getElem?_cons_zero, List.getElem?_cons_succ] at e0 e1 e2 e3 e4
  have ez := HC.out.lt
  go_wp2_with fail
  refine (sameInts_any T1 T2 _ _ t1 t2 tl tl rfl rfl htl htl _ HS1.out HS2.out).mono ?_
  rintro e w8 ⟨rfl, hE⟩
  rw [decide_eq_true rfl]
  clear HS1 HS2
  replace HB := hid (HB.out.ext hE)
  replace HC := hid (HC.out.ext hE)
  replace E := E.trans hE
  replace X := X.trans hE
  clear hE d0 d1 d2 d3 d4 dz e0 e1 e2 e3 e4 ez
  have d0 := HB.out.cell 0
  have d1 := HB.out.cell 1
  have d2 := HB.out.cell 2
  have d3 := HB.out.cell 3
  have d4 := HB.out.cell 4
  simp only [List.getElem?_toArray, List.getElem?_cons_zero, List.getElem?_cons_succ] at d0 d1 d2 d3 d4
  have dz := HB.out.lt
  have e0 := HC.out.cell 0
  have e1 := HC.out.cell 1
  have e2 := HC.out.cell 2
  have e3 := HC.out.cell 3
  have e4 := HC.out.cell 4
  simp only [List.getElem?_toArray, List.getElem?_cons_zero, List.getElem?_cons_succ] at e0 e1 e2 e3 e4
  have ez := HC.out.lt
  go_wp2_with fail
  refine (HWK.out _ E).mono ?_
  rintro e w13 ⟨rfl, hE⟩
  replace E := E.trans hE
  clear hE
  go_wp2
  go_ret
  exact ⟨rfl, E⟩
end Go.Proofs.YtcfijidlbimckaaDoor
