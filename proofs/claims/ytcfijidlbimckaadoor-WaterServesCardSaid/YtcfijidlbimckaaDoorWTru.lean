/- The law of Truths, Clean and Pure. -/
import Derived.Test.YtcfijidlbimckaaDoorWrk
import Derived.Test.YtcfijidlbimckaaDoorCpy
import Derived.Test.YtcfijidlbimckaaDoorRPur
set_option linter.unusedSimpArgs false
set_option linter.unusedVariables false
namespace Go.Proofs.YtcfijidlbimckaaDoor
open Go.RowKit
theorem WA_eta (d : Wat) (A : WA) : wval d A = .agg (wcells d A) := rfl
set_option maxHeartbeats 8000000 in
set_option maxRecDepth 100000 in
theorem waterTruths_any (d : Wat) (A : WA) (x : Int) (w : World) (hW : WIn w d A) (hT : TabW w) :
    Calls Tryd.prog 9 #[wval d A, .int .i64 x] w fun e w' => e = .returned (.bool true) ∧ Ext w w' := by
  have HF := hid (fun W => far_any d A W)
  have HWK := hid (fun W (hE : Ext w W) => works_any W (hT.ext hE))
  have BN := hid (Blk.new w 25 (wcells d A))
  cases hf : farB d
  case true =>
    rw [hf] at HF
    clear hW hT hf
    unfold wval wcells at *
    obtain ⟨spr, most, miss, al, smp⟩ := d
    obtain ⟨SA, sc, MA, mc⟩ := A
    dsimp only at *
    generalize spr.length = n at *
    generalize smp.length = m at *
    go_enter Tryd.func9, Tryd.ntmps9
    go_wp2_with fail
    refine (HF.out _).mono ?_
    rintro e w2 ⟨rfl, hE⟩
    have E2 : Ext w w2 := by (repeat' (first | with_reducible assumption | with_reducible exact Ext.refl _ | with_reducible refine Ext.alloc ?_ _ | with_reducible refine Ext.set ?_ ?_ _ | with_reducible refine Ext.drew ?_ | with_reducible refine Ext.drewN ?_ _ | with_reducible refine Ext.trans ?_ (by assumption) | (dsimp only; omega)))
    go_wp2_with fail
    refine (HWK.out _ E2).mono ?_
    rintro e w3 ⟨rfl, hE3⟩
    go_wp2
    go_ret
    exact ⟨rfl, E2.trans hE3⟩
  have hb : d.spr.length ≤ 30 ∧ d.smp.length ≤ 60 := by
    unfold farB at hf
    simp only [Bool.or_eq_false_iff, Bool.and_eq_false_iff, decide_eq_false_iff_not] at hf
    omega
  obtain ⟨hn, hm⟩ := hb
  have HCP := hid (fun W (hE : Ext w W) => rcopy_any d A (by omega) (by omega) W (hW.ext hE))
  have HKR := hid (fun W (hE : Ext w W) => rCheck_any d A hn (by omega) W (hW.ext hE))
  have HTR := hid (fun W (hE : Ext w W) => rTruths_any d A hn (by omega) W (hW.ext hE))
  have HCR := hid (fun W (hE : Ext w W) => rClean_any d A hn (by omega) W (hW.ext hE))
  have HPR := hid (fun W (hE : Ext w W) => rPure_any d A x hn (by omega) W (hW.ext hE))
  have HKP := hid (fun A' W0 (h0 : WIn W0 d A') W (hE : Ext W0 W) => check_any d A' (by omega) (by omega) W (h0.ext hE))
  have HTP := hid (fun A' W0 (h0 : WIn W0 d A') (hX : Ext w W0) W (hE : Ext W0 W) => truths_any d A' (by omega) (by omega) W (h0.ext hE) (hT.ext (hX.trans hE)))
  have HCL := hid (fun A' W0 (h0 : WIn W0 d A') (hX : Ext w W0) W (hE : Ext W0 W) => pclean_any d A' (by omega) (by omega) W (h0.ext hE) (hT.ext (hX.trans hE)))
  have HPP := hid (fun A' W0 (h0 : WIn W0 d A') (hX : Ext w W0) W (hE : Ext W0 W) => ppure_any d A' x (by omega) (by omega) W (h0.ext hE) (hT.ext (hX.trans hE)))
  have htl : (tlI d).length ≤ 1000 := by
    unfold tlI
    split
    · rename_i hc
      rw [List.length_map]
      have := truths_len (watB_ok hc)
      omega
    · simp
  unfold PureIs at HPP HPR
  rw [hf] at HF
  clear hW hT hf
  generalize tlI d = tl at *
  generalize watE d = we at *
  generalize surV d = sv at *
  generalize mayV d = mv at *
  generalize purS d x = ps at *
  generalize purM d x = pm at *
  generalize purE d x = pe at *
  generalize watB d = wb at *
  obtain ⟨wv, hwv⟩ : ∃ wv : Int, (if wb = true then (0 : Int) else 40) = wv := ⟨_, rfl⟩
  rw [hwv] at HKR HKP
  clear hwv
  unfold wval wcells at *
  obtain ⟨spr, most, miss, al, smp⟩ := d
  obtain ⟨SA, sc, MA, mc⟩ := A
  dsimp only at *
  generalize hsn : spr.length = n at *
  generalize hsm : smp.length = m at *
  go_enter Tryd.func9, Tryd.ntmps9
  go_wp2_with fail
  refine (HF.out _).mono ?_
  rintro e w2 ⟨rfl, hE⟩
  have E2 : Ext w w2 := by (repeat' (first | with_reducible assumption | with_reducible exact Ext.refl _ | with_reducible refine Ext.alloc ?_ _ | with_reducible refine Ext.set ?_ ?_ _ | with_reducible refine Ext.drew ?_ | with_reducible refine Ext.drewN ?_ _ | with_reducible refine Ext.trans ?_ (by assumption) | (dsimp only; omega)))
  have HB0 := hid (BN.out.ext hE)
  have d0 := HB0.out.cell 0
  have d1 := HB0.out.cell 1
  have d2 := HB0.out.cell 2
  have d3 := HB0.out.cell 3
  have d4 := HB0.out.cell 4
  simp only [List.getElem?_toArray, List.getElem?_cons_zero, List.getElem?_cons_succ] at d0 d1 d2 d3 d4
  have dz := HB0.out.lt
  clear hE BN
  go_wp2_with fail
  refine (HCP.out _ E2).mono ?_
  rintro e w3 ⟨⟨SB, sb, MB, mb⟩, rfl, hWI, hE⟩
  have HB3 := hid (HB0.out.ext hE)
  have E3 := E2.trans hE
  dsimp only
  have HKP2 := hid (HKP.out _ _ hWI)
  have HTP2 := hid (HTP.out _ _ hWI E3)
  have HCL2 := hid (HCL.out _ _ hWI E3)
  have HPP2 := hid (HPP.out _ _ hWI E3)
  clear HKP HTP HCL HPP hWI HCP hE E2 HB0 d0 d1 d2 d3 d4 dz
  dsimp only at HKP2 HTP2 HCL2 HPP2
  have d0 := HB3.out.cell 0
  have d1 := HB3.out.cell 1
  have d2 := HB3.out.cell 2
  have d3 := HB3.out.cell 3
  have d4 := HB3.out.cell 4
  simp only [List.getElem?_toArray, List.getElem?_cons_zero, List.getElem?_cons_succ] at d0 d1 d2 d3 d4
  have dz := HB3.out.lt
  go_wp2_with fail
  have HC := hid (Blk.new w3 25 #[.slice SB n sb, .int .i64 most, .int .i64 miss, .int .i64 al, .slice MB m mb])
  have HB := hid (HB3.out.alloc (.cells #[.slice SB n sb, .int .i64 most, .int .i64 miss, .int .i64 al, .slice MB m mb] 25))
  have E := E3.alloc (.cells #[.slice SB n sb, .int .i64 most, .int .i64 miss, .int .i64 al, .slice MB m mb] 25)
  have X := ext_alloc1 w3 (.cells #[.slice SB n sb, .int .i64 most, .int .i64 miss, .int .i64 al, .slice MB m mb] 25)
  obtain ⟨W, hWe⟩ : ∃ W, w3.alloc (.cells #[.slice SB n sb, .int .i64 most, .int .i64 miss, .int .i64 al, .slice MB m mb] 25) = W := ⟨_, rfl⟩
  rw [hWe] at HC HB E X ⊢
  clear hWe HB3 d0 d1 d2 d3 d4 dz
  have d0 := HB.out.cell 0
  have d1 := HB.out.cell 1
  have d2 := HB.out.cell 2
  have d3 := HB.out.cell 3
  have d4 := HB.out.cell 4
  simp only [List.getElem?_toArray, List.getElem?_cons_zero, List.getElem?_cons_succ] at d0 d1 d2 d3 d4
  have dz := HB.out.lt
  have e0 := HC.out.cell 0
  have e1 := HC.out.cell 1
  have e2 := HC.out.cell 2
  have e3 := HC.out.cell 3
  have e4 := HC.out.cell 4
  simp only [List.getElem?_toArray, List.getElem?_cons_zero, List.getElem?_cons_succ] at e0 e1 e2 e3 e4
  have ez := HC.out.lt
  obtain ⟨qc, hqc⟩ : ∃ q, w3.heap.size = q := ⟨_, rfl⟩
  rw [hqc] at HC e0 e1 e2 e3 e4 ez ⊢
  clear hqc
  refine wp_region_held_drew (S := fun w' => (∀ b o, b < W.heap.size → w'.cell? ⟨b, o, none⟩ = W.cell? ⟨b, o, none⟩) ∧ W.heap.size ≤ w'.heap.size ∧ Ext W w') (by kernel_rfl) ?hS0 (fun hHeld => ?_)
  case hS0 => exact ⟨fun _ _ _ => rfl, Nat.le_refl _, Ext.drew (Ext.refl _)⟩
  refine wpAnyH_take (i := 0) (oi := _) (v := ?v0xa) rfl (by kernel_rfl) (by kernel_rfl) (by kernel_rfl) (fun _ _ _ h => h) (Or.inl ⟨by rfl, ?y0xa⟩) (by assumption) ?r0xa
  case y0xa => (intro w' hSw; (try dsimp only at hSw); go_simp; (try with_reducible rfl))
  try simp only [Act.put, List.getElem_toArray, List.getElem_cons_zero, List.getElem_cons_succ, List.setIfInBounds_toArray, List.set_cons_zero, List.set_cons_succ]
  refine wpAnyH_take (i := 2) (oi := _) (v := ?v2xa) rfl (by kernel_rfl) (by kernel_rfl) (by kernel_rfl) (fun _ _ _ h => h) (Or.inl ⟨by rfl, ?y2xa⟩) (by assumption) ?r2xa
  case y2xa => (intro w' hSw; (try dsimp only at hSw); go_simp; (try with_reducible rfl))
  try simp only [Act.put, List.getElem_toArray, List.getElem_cons_zero, List.getElem_cons_succ, List.setIfInBounds_toArray, List.set_cons_zero, List.set_cons_succ]
  refine wpAnyH_ready (rs := [1]) (by kernel_rfl) (by simp) ?_
  refine AllReadyH.cons (o := _) rfl (fun K hK => ?_) AllReadyH.nil
  go_simp
  refine (HKP2.out _ (X.trans (Ext.drew (Ext.refl _)))).mono ?_
  rintro e w4 ⟨rfl, hE4⟩
  dsimp only
  have X4 : Ext W w4 := (Ext.drew (Ext.refl W)).trans hE4
  refine hK.out _ _ (sK X4) (fun hHeld2 => ?_)
  clear hK K
  try simp only [Act.put, List.getElem_toArray, List.getElem_cons_zero, List.getElem_cons_succ, List.setIfInBounds_toArray, List.set_cons_zero, List.set_cons_succ]
  refine wpAnyH_ready (rs := [3]) (by kernel_rfl) (by simp) ?_
  refine AllReadyH.cons (o := _) rfl (fun K hK => ?_) AllReadyH.nil
  go_simp
  refine (HKR.out _ (E.trans X4)).mono ?_
  rintro e w5 ⟨rfl, hE5⟩
  dsimp only
  have hE := X4.trans hE5
  refine hK.out _ _ (sK hE) (fun hHeld3 => ?_)
  clear hK K
  try simp only [Act.put, List.getElem_toArray, List.getElem_cons_zero, List.getElem_cons_succ, List.setIfInBounds_toArray, List.set_cons_zero, List.set_cons_succ]
  refine wpAnyH_take (i := 4) (oi := _) (v := ?v4xb) rfl (by kernel_rfl) (by kernel_rfl) (by kernel_rfl) (fun _ _ _ h => h) (Or.inl ⟨by rfl, ?y4xb⟩) (by assumption) ?r4xb
  case y4xb => (intro w' hSw; (try dsimp only at hSw); go_simp; (try with_reducible rfl))
  try simp only [Act.put, List.getElem_toArray, List.getElem_cons_zero, List.getElem_cons_succ, List.setIfInBounds_toArray, List.set_cons_zero, List.set_cons_succ]
  clear hHeld hHeld2 hHeld3
  refine wpAnyH_done (by kernel_rfl) ?_ _
  clear X4 hE4 hE5 HKP2 HKR
  replace HB := hid (HB.out.ext hE)
  replace HC := hid (HC.out.ext hE)
  replace E := E.trans hE
  replace X := X.trans hE
  clear hE d0 d1 d2 d3 d4 dz e0 e1 e2 e3 e4 ez
  have d0 := HB.out.cell 0
  have d1 := HB.out.cell 1
  have d2 := HB.out.cell 2
  have d3 := HB.out.cell 3
  have d4 := HB.out.cell 4
  simp only [List.getElem?_toArray, List.getElem?_cons_zero, List.getElem?_cons_succ] at d0 d1 d2 d3 d4
  have dz := HB.out.lt
  have e0 := HC.out.cell 0
  have e1 := HC.out.cell 1
  have e2 := HC.out.cell 2
  have e3 := HC.out.cell 3
  have e4 := HC.out.cell 4
  simp only [List.getElem?_toArray, List.getElem?_cons_zero, List.getElem?_cons_succ] at e0 e1 e2 e3 e4
  have ez := HC.out.lt
  go_wp2_with fail
  refine (HTP2.out _ X).mono ?_
  rintro e w6 ⟨v, rfl, hown, hE⟩
  obtain ⟨T1, t1, rfl, hS1⟩ := hown.form
  have HS1 := hid hS1
  clear hown hS1 HTP2
  replace HB := hid (HB.out.ext hE)
  replace HC := hid (HC.out.ext hE)
  replace E := E.trans hE
  replace X := X.trans hE
  clear hE d0 d1 d2 d3 d4 dz e0 e1 e2 e3 e4 ez
  have d0 := HB.out.cell 0
  have d1 := HB.out.cell 1
  have d2 := HB.out.cell 2
  have d3 := HB.out.cell 3
  have d4 := HB.out.cell 4
  simp only [List.getElem?_toArray, List.getElem?_cons_zero, List.getElem?_cons_succ] at d0 d1 d2 d3 d4
  have dz := HB.out.lt
  have e0 := HC.out.cell 0
  have e1 := HC.out.cell 1
  have e2 := HC.out.cell 2
  have e3 := HC.out.cell 3
  have e4 := HC.out.cell 4
  simp only [List.getElem?_toArray, List.getElem?_cons_zero, List.getElem?_cons_succ] at e0 e1 e2 e3 e4
  have ez := HC.out.lt
  go_wp2_with fail
  refine (HTR.out _ E).mono ?_
  rintro e w7 ⟨v, rfl, hown, hE⟩
  obtain ⟨T2, t2, rfl, hS2⟩ := hown.form
  have HS2 := hid hS2
  replace HS1 := hid (HS1.out.ext hE)
  clear hown hS2 HTR
  replace HB := hid (HB.out.ext hE)
  replace HC := hid (HC.out.ext hE)
  replace E := E.trans hE
  replace X := X.trans hE
  clear hE d0 d1 d2 d3 d4 dz e0 e1 e2 e3 e4 ez
  have d0 := HB.out.cell 0
  have d1 := HB.out.cell 1
  have d2 := HB.out.cell 2
  have d3 := HB.out.cell 3
  have d4 := HB.out.cell 4
  simp only [List.getElem?_toArray, List.getElem?_cons_zero, List.getElem?_cons_succ] at d0 d1 d2 d3 d4
  have dz := HB.out.lt
  have e0 := HC.out.cell 0
  have e1 := HC.out.cell 1
  have e2 := HC.out.cell 2
  have e3 := HC.out.cell 3
  have e4 := HC.out.cell 4
  simp only [List.getElem?_toArray, List.getElem?_cons_zero, List.getElem?_cons_succ] at e0 e1 e2 e3 e4
  have ez := HC.out.lt
  go_wp2_with fail
  refine (sameInts_any T1 T2 _ _ t1 t2 tl tl rfl rfl htl htl _ HS1.out HS2.out).mono ?_
  rintro e w8 ⟨rfl, hE⟩
  rw [decide_eq_true rfl]
  clear HS1 HS2
  replace HB := hid (HB.out.ext hE)
  replace HC := hid (HC.out.ext hE)
  replace E := E.trans hE
  replace X := X.trans hE
  clear hE d0 d1 d2 d3 d4 dz e0 e1 e2 e3 e4 ez
  have d0 := HB.out.cell 0
  have d1 := HB.out.cell 1
  have d2 := HB.out.cell 2
  have d3 := HB.out.cell 3
  have d4 := HB.out.cell 4
  simp only [List.getElem?_toArray, List.getElem?_cons_zero, List.getElem?_cons_succ] at d0 d1 d2 d3 d4
  have dz := HB.out.lt
  have e0 := HC.out.cell 0
  have e1 := HC.out.cell 1
  have e2 := HC.out.cell 2
  have e3 := HC.out.cell 3
  have e4 := HC.out.cell 4
  simp only [List.getElem?_toArray, List.getElem?_cons_zero, List.getElem?_cons_succ] at e0 e1 e2 e3 e4
  have ez := HC.out.lt
  go_wp2_with fail
  refine (HCL2.out _ X).mono ?_
  rintro e w9 ⟨rfl, hE⟩
  clear HCL2
  replace HB := hid (HB.out.ext hE)
  replace HC := hid (HC.out.ext hE)
  replace E := E.trans hE
  replace X := X.trans hE
  clear hE d0 d1 d2 d3 d4 dz e0 e1 e2 e3 e4 ez
  have d0 := HB.out.cell 0
  have d1 := HB.out.cell 1
  have d2 := HB.out.cell 2
  have d3 := HB.out.cell 3
  have d4 := HB.out.cell 4
  simp only [List.getElem?_toArray, List.getElem?_cons_zero, List.getElem?_cons_succ] at d0 d1 d2 d3 d4
  have dz := HB.out.lt
  have e0 := HC.out.cell 0
  have e1 := HC.out.cell 1
  have e2 := HC.out.cell 2
  have e3 := HC.out.cell 3
  have e4 := HC.out.cell 4
  simp only [List.getElem?_toArray, List.getElem?_cons_zero, List.getElem?_cons_succ] at e0 e1 e2 e3 e4
  have ez := HC.out.lt
  go_wp2_with fail
  refine (HCR.out _ E).mono ?_
  rintro e w10 ⟨rfl, hE⟩
  clear HCR
  replace HB := hid (HB.out.ext hE)
  replace HC := hid (HC.out.ext hE)
  replace E := E.trans hE
  replace X := X.trans hE
  clear hE d0 d1 d2 d3 d4 dz e0 e1 e2 e3 e4 ez
  have d0 := HB.out.cell 0
  have d1 := HB.out.cell 1
  have d2 := HB.out.cell 2
  have d3 := HB.out.cell 3
  have d4 := HB.out.cell 4
  simp only [List.getElem?_toArray, List.getElem?_cons_zero, List.getElem?_cons_succ] at d0 d1 d2 d3 d4
  have dz := HB.out.lt
  have e0 := HC.out.cell 0
  have e1 := HC.out.cell 1
  have e2 := HC.out.cell 2
  have e3 := HC.out.cell 3
  have e4 := HC.out.cell 4
  simp only [List.getElem?_toArray, List.getElem?_cons_zero, List.getElem?_cons_succ] at e0 e1 e2 e3 e4
  have ez := HC.out.lt
  go_wp2_with fail
  refine (HPP2.out _ X).mono ?_
  rintro e w11 ⟨rfl, hE⟩
  clear HPP2
  replace HB := hid (HB.out.ext hE)
  replace HC := hid (HC.out.ext hE)
  replace E := E.trans hE
  replace X := X.trans hE
  clear hE d0 d1 d2 d3 d4 dz e0 e1 e2 e3 e4 ez
  have d0 := HB.out.cell 0
  have d1 := HB.out.cell 1
  have d2 := HB.out.cell 2
  have d3 := HB.out.cell 3
  have d4 := HB.out.cell 4
  simp only [List.getElem?_toArray, List.getElem?_cons_zero, List.getElem?_cons_succ] at d0 d1 d2 d3 d4
  have dz := HB.out.lt
  have e0 := HC.out.cell 0
  have e1 := HC.out.cell 1
  have e2 := HC.out.cell 2
  have e3 := HC.out.cell 3
  have e4 := HC.out.cell 4
  simp only [List.getElem?_toArray, List.getElem?_cons_zero, List.getElem?_cons_succ] at e0 e1 e2 e3 e4
  have ez := HC.out.lt
  go_wp2_with fail
  refine (HPR.out _ E).mono ?_
  rintro e w12 ⟨rfl, hE⟩
  clear HPR
  replace HB := hid (HB.out.ext hE)
  replace HC := hid (HC.out.ext hE)
  replace E := E.trans hE
  replace X := X.trans hE
  clear hE d0 d1 d2 d3 d4 dz e0 e1 e2 e3 e4 ez
  have d0 := HB.out.cell 0
  have d1 := HB.out.cell 1
  have d2 := HB.out.cell 2
  have d3 := HB.out.cell 3
  have d4 := HB.out.cell 4
  simp only [List.getElem?_toArray, List.getElem?_cons_zero, List.getElem?_cons_succ] at d0 d1 d2 d3 d4
  have dz := HB.out.lt
  have e0 := HC.out.cell 0
  have e1 := HC.out.cell 1
  have e2 := HC.out.cell 2
  have e3 := HC.out.cell 3
  have e4 := HC.out.cell 4
  simp only [List.getElem?_toArray, List.getElem?_cons_zero, List.getElem?_cons_succ] at e0 e1 e2 e3 e4
  have ez := HC.out.lt
  go_wp2_with fail
  refine (HWK.out _ E).mono ?_
  rintro e w13 ⟨rfl, hE⟩
  replace E := E.trans hE
  clear hE
  go_wp2
  go_ret
  exact ⟨rfl, E⟩
end Go.Proofs.YtcfijidlbimckaaDoor
