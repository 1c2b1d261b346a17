/- The law of ranges: the specification's answers. -/
import Derived.Test.YtcpkdnegmblonaaDoorBTopRanges26
import Derived.Test.YtcpkdnegmblonaaDoorBTopRanges27
import Derived.Test.YtcpkdnegmblonaaDoorBTopRanges24
import Derived.Test.YtcpkdnegmblonaaDoorB15
set_option linter.unusedSimpArgs false
set_option linter.unusedVariables false
namespace Go.Proofs.YtcpkdnegmblonaaDoor
open Go.RowKit
theorem calls_abs {G : World → Prop} {w : World} (S : World → Prop) (h : S w) (k : ∀ W, S W → G W) : G w := k w h
set_option maxHeartbeats 8000000 in
set_option maxRecDepth 100000 in
theorem lranges_any (f : List (List Hr)) (A : Option Addr) (n c : Nat) (seen : List Sg) (SA : Option Addr) (m sc : Nat) (hr : Int) (w : World) (h : AIn w f A n seen SA m) :
    Calls Tryd.prog 3 #[.agg #[.slice A n c], .slice SA m sc, .int .i64 hr] w fun e w' => e = .returned (.bool true) ∧ Ext w w' := by
  have HWK := hid (fun (W : World) (hW : Ext w W) => works_any W (h.wid.ext hW))
  have HF := hid (fun (W : World) (hW : Ext w W) => far_any f A n c h.hn SA m sc W (h.sc.ext hW))
  have HB0 := hid (show Blk _ _ _ _ from blk_last w (.cells #[.slice A n c] 24))
  cases hfar : farB f m
  case true =>
    rw [hfar] at HF
    clear h
    go_enter Tryd.func3, Tryd.ntmps3
    go_wp2_with fail
    refine (HF.out _ (by (repeat' (first | with_reducible assumption | with_reducible exact Ext.refl _ | with_reducible refine Ext.alloc ?_ _ | with_reducible refine Ext.set ?_ ?_ _ | with_reducible refine Ext.drew ?_ | with_reducible refine Ext.drewN ?_ _ | with_reducible refine Ext.trans ?_ (by assumption) | (dsimp only; omega))))).mono ?_
    rintro e w2 ⟨rfl, hE⟩
    have E : Ext w w2 := by (repeat' (first | with_reducible assumption | with_reducible exact Ext.refl _ | with_reducible refine Ext.alloc ?_ _ | with_reducible refine Ext.set ?_ ?_ _ | with_reducible refine Ext.drew ?_ | with_reducible refine Ext.drewN ?_ _ | with_reducible refine Ext.trans ?_ (by assumption) | (dsimp only; omega)))
    go_wp2_with fail
    refine (HWK.out _ (by (repeat' (first | with_reducible assumption | with_reducible exact Ext.refl _ | with_reducible refine Ext.alloc ?_ _ | with_reducible refine Ext.set ?_ ?_ _ | with_reducible refine Ext.drew ?_ | with_reducible refine Ext.drewN ?_ _ | with_reducible refine Ext.trans ?_ (by assumption) | (dsimp only; omega))))).mono ?_
    rintro e w9 ⟨rfl, hE9⟩
    have EZ : Ext w w9 := by (repeat' (first | with_reducible assumption | with_reducible exact Ext.refl _ | with_reducible refine Ext.alloc ?_ _ | with_reducible refine Ext.set ?_ ?_ _ | with_reducible refine Ext.drew ?_ | with_reducible refine Ext.drewN ?_ _ | with_reducible refine Ext.trans ?_ (by assumption) | (dsimp only; omega)))
    go_wp2
    go_ret
    exact ⟨rfl, EZ⟩
  rw [hfar] at HF
  have h0 := h.fin hfar
  have HIN := hid (fun (A2 : Option Addr) (SA2 : Option Addr) (W : World) (hW : Ext w W) (h1 : ScsAt W A2 f) (h2 : SgsAt W SA2 seen) => (⟨h0.hn, h0.hm, h0.hx, h0.hl, h0.hm2, h0.hwf, h1, h2, h0.wid.ext hW⟩ : FIn W f A2 n seen SA2 m))
  have HCP := hid (fun (W : World) (hW : Ext w W) => rCopy_any f A n c h0.hn h0.hm (fun x hx => by have := h0.hx x hx; omega) W (h0.sc.ext hW))
  have HC1 := hid (fun (A2 : Option Addr) (c2 : Nat) (W : World) (hW : Ext w W) (h1 : ScsAt W A2 f) => (HIN.out A2 SA W hW h1 (h0.sg.ext hW)).check c2)
  have HC2 := hid (fun (W : World) (hW : Ext w W) => rCheck_any f A n c h0.hn h0.hm h0.hx W (h0.sc.ext hW))
  have HP1 := hid (fun (A2 : Option Addr) (c2 : Nat) (SA2 : Option Addr) (sc2 : Nat) (W : World) (hW : Ext w W) (h1 : ScsAt W A2 f) (h2 : SgsAt W SA2 seen) => ppossible_any f A2 n c2 seen SA2 m sc2 W (HIN.out A2 SA2 W hW h1 h2))
  have HP2 := hid (fun (W : World) (hW : Ext w W) => rPossible_any f A n c seen SA m sc W (h0.ext hW))
  have HR1 := hid (fun (A2 : Option Addr) (c2 : Nat) (SA2 : Option Addr) (sc2 : Nat) (W : World) (hW : Ext w W) (h1 : ScsAt W A2 f) (h2 : SgsAt W SA2 seen) => range_any f A2 n c2 seen SA2 m sc2 hr W (HIN.out A2 SA2 W hW h1 h2))
  have HR2 := hid (fun (W : World) (hW : Ext w W) => rrange_any f A n c seen SA m sc hr W (h0.ext hW))
  have hPL : (posL f seen).length ≤ 1000 := by
    unfold posL
    split
    · rw [numsM_scs]; have := scsM_le seen f; have := h0.hn; have := h0.hm; omega
    · simp
  have HSM := hid (fun (A5 A6 : Option Addr) (c5 c6 : Nat) (W : World) (h5 : IntsAt W A5 (posL f seen)) (h6 : IntsAt W A6 (posL f seen)) => sameInts_any A5 A6 _ _ c5 c6 (posL f seen) (posL f seen) rfl rfl hPL hPL W h5 h6)
  simp only [decide_true] at HSM
  have HSG0 := hid h.sg
  have HSL := hid h.hl
  have hm2 := h0.hm2
  clear h h0 hfar HIN hPL
  generalize fcE f = fe at *
  generalize posE f seen = pe at *
  generalize posL f seen = PL at *
  generalize PL.length = pl at *
  generalize rngE f seen hr = re at *
  generalize rngV f seen hr = rv at *
  unfold Hr.val at HR1 HR2
  obtain ⟨wl, wh, rl, rh, tl, th⟩ := rv
  dsimp only at HR1 HR2
  go_enter Tryd.func3, Tryd.ntmps3
  have E : Ext w (w.alloc (.cells #[.slice A n c] 24)) := by (repeat' (first | with_reducible assumption | with_reducible exact Ext.refl _ | with_reducible refine Ext.alloc ?_ _ | with_reducible refine Ext.set ?_ ?_ _ | with_reducible refine Ext.drew ?_ | with_reducible refine Ext.drewN ?_ _ | with_reducible refine Ext.trans ?_ (by assumption) | (dsimp only; omega)))
  go_wp2_with fail
  refine (HF.out _ E).mono ?_
  rintro e w2 ⟨rfl, hE⟩
  replace E := E.trans hE
  replace HB0 := hid (HB0.out.ext hE)
  (try replace HSC := hid (HSC.out.ext hE))
  (try replace HSG := hid (HSG.out.ext hE))
  (try replace HIA := hid (HIA.out.ext hE))
  (try replace HIB := hid (HIB.out.ext hE))
  (try replace HB7 := hid (HB7.out.ext hE))
  (try replace HH1 := hid (HH1.out.ext hE))
  clear hE
  (try clear a0 z0 zE)
  have a0 := HB0.out.cell 0
  have z0 := HB0.out.lt
  have zE := E.size
  simp only [List.getElem?_toArray, List.getElem?_cons_zero, List.getElem?_cons_succ] at a0
  (try clear b7 y7)
  (try (have b7 := HB7.out.cell 0; have y7 := HB7.out.lt; simp only [List.getElem?_toArray, List.getElem?_cons_zero, List.getElem?_cons_succ] at b7))
  go_wp2_with fail
  refine (HCP.out _ E).mono ?_
  rintro e w3 ⟨A2, c2, rfl, hsc, hE⟩
  replace E := E.trans hE
  replace HB0 := hid (HB0.out.ext hE)
  (try replace HSC := hid (HSC.out.ext hE))
  (try replace HSG := hid (HSG.out.ext hE))
  (try replace HIA := hid (HIA.out.ext hE))
  (try replace HIB := hid (HIB.out.ext hE))
  (try replace HB7 := hid (HB7.out.ext hE))
  (try replace HH1 := hid (HH1.out.ext hE))
  clear hE
  (try clear a0 z0 zE)
  have a0 := HB0.out.cell 0
  have z0 := HB0.out.lt
  have zE := E.size
  simp only [List.getElem?_toArray, List.getElem?_cons_zero, List.getElem?_cons_succ] at a0
  (try clear b7 y7)
  (try (have b7 := HB7.out.cell 0; have y7 := HB7.out.lt; simp only [List.getElem?_toArray, List.getElem?_cons_zero, List.getElem?_cons_succ] at b7))
  have HSC := hid hsc
  clear hsc HF HCP
  go_wp2_with (at_builtin; refine Halt.mk ?_)
  unfold Halt
  refine wpList_plain rfl fun _ hK => wp_appAllSg _ _ _ rfl w3.heap.size w3.heap.size SA sc seen rfl (blk_last _ _) (Nat.le_refl _) m HSL.out rfl ((HSG0.out.ext E).ext (ext_alloc1 _ _)) (by omega) ?_
  intro v4 w4 ho4 hg4
  refine hK _ _ ?_
  have hE : Ext w3 w4 := Below.grown (ext_alloc1 w3 _) hg4 (ext_alloc1 w3 _).size (fun j ej => by injection ej with ej; omega)
  obtain ⟨A3, c3, rfl, -, hf3, -⟩ := ho4.form (by decide) (fun _ => rfl) zeroSg
  have HSG := hid (flat_sgs.1 hf3)
  rw [HSL.out]
  clear ho4 hg4 hf3 hK
  replace E := E.trans hE
  replace HB0 := hid (HB0.out.ext hE)
  (try replace HSC := hid (HSC.out.ext hE))
  (try replace HSG := hid (HSG.out.ext hE))
  (try replace HIA := hid (HIA.out.ext hE))
  (try replace HIB := hid (HIB.out.ext hE))
  (try replace HB7 := hid (HB7.out.ext hE))
  (try replace HH1 := hid (HH1.out.ext hE))
  clear hE
  (try clear a0 z0 zE)
  have a0 := HB0.out.cell 0
  have z0 := HB0.out.lt
  have zE := E.size
  simp only [List.getElem?_toArray, List.getElem?_cons_zero, List.getElem?_cons_succ] at a0
  (try clear b7 y7)
  (try (have b7 := HB7.out.cell 0; have y7 := HB7.out.lt; simp only [List.getElem?_toArray, List.getElem?_cons_zero, List.getElem?_cons_succ] at b7))
  go_wp2_with fail
  have HB7 := (show Blk _ _ _ _ from blk_last w4 (.cells #[.slice A2 n c2] 24))
  refine wp_abs (fun X => Blk X w4.heap.size 24 #[.slice A2 n c2] ∧ Ext w4 X) ⟨HB7, by (repeat' (first | with_reducible assumption | with_reducible exact Ext.refl _ | with_reducible refine Ext.alloc ?_ _ | with_reducible refine Ext.set ?_ ?_ _ | with_reducible refine Ext.drew ?_ | with_reducible refine Ext.drewN ?_ _ | with_reducible refine Ext.trans ?_ (by assumption) | (dsimp only; omega)))⟩ ?_
  clear HB7
  rintro U ⟨hb7, hE⟩
  have HB7 := hid hb7
  have hE7 := hE
  replace E := E.trans hE
  replace HB0 := hid (HB0.out.ext hE)
  (try replace HSC := hid (HSC.out.ext hE))
  (try replace HSG := hid (HSG.out.ext hE))
  (try replace HIA := hid (HIA.out.ext hE))
  (try replace HIB := hid (HIB.out.ext hE))
  (try replace HB7 := hid (HB7.out.ext hE))
  (try replace HH1 := hid (HH1.out.ext hE))
  clear hE
  (try clear a0 z0 zE)
  have a0 := HB0.out.cell 0
  have z0 := HB0.out.lt
  have zE := E.size
  simp only [List.getElem?_toArray, List.getElem?_cons_zero, List.getElem?_cons_succ] at a0
  (try clear b7 y7)
  (try (have b7 := HB7.out.cell 0; have y7 := HB7.out.lt; simp only [List.getElem?_toArray, List.getElem?_cons_zero, List.getElem?_cons_succ] at b7))
  clear hb7 hE7
  refine wp_region_held_drew (S := fun w' => (∀ b o, b < U.heap.size → w'.cell? ⟨b, o, none⟩ = U.cell? ⟨b, o, none⟩) ∧ U.heap.size ≤ w'.heap.size ∧ Ext U w') (by kernel_rfl) ?hS0 (fun hHeld => ?_)
  case hS0 => exact sK (Ext.drew (Ext.refl _))
  have X0 : Ext U U.drew := Ext.drew (Ext.refl U)
  have EX := X0
  obtain ⟨X, hX⟩ : ∃ X, U.drew = X := ⟨_, rfl⟩
  rw [hX] at EX hHeld ⊢
  clear hX X0
  refine wpAnyH_take (i := 0) (oi := _) (v := ?v0a) rfl (by kernel_rfl) (by kernel_rfl) (by kernel_rfl) (fun _ _ _ h => h) (Or.inl ⟨by rfl, ?y0a⟩) (by assumption) ?r0a
  case y0a => (intro w' hSw; (try dsimp only at hSw); go_simp; (try with_reducible rfl))
  try simp only [Act.put, List.getElem_toArray, List.getElem_cons_zero, List.getElem_cons_succ, List.setIfInBounds_toArray, List.set_cons_zero, List.set_cons_succ]
  refine wpAnyH_take (i := 2) (oi := _) (v := ?v2a) rfl (by kernel_rfl) (by kernel_rfl) (by kernel_rfl) (fun _ _ _ h => h) (Or.inl ⟨by rfl, ?y2a⟩) (by assumption) ?r2a
  case y2a => (intro w' hSw; (try dsimp only at hSw); go_simp; (try with_reducible rfl))
  try simp only [Act.put, List.getElem_toArray, List.getElem_cons_zero, List.getElem_cons_succ, List.setIfInBounds_toArray, List.set_cons_zero, List.set_cons_succ]
  refine wpAnyH_ready (rs := [1]) (by kernel_rfl) (by simp) ?_
  refine AllReadyH.cons (o := _) rfl (fun K hK => ?_) AllReadyH.nil
  go_simp
  refine Calls.mono (HC1.out A2 c2 _ (E.trans EX) (HSC.out.ext EX)) ?_
  rintro e X ⟨rfl, hEX⟩
  dsimp only
  replace EX := EX.trans hEX
  (try replace OB := hid (OB.out.ext hEX))
  (try replace IS := hid (IS.out.ext hEX))
  clear hHeld hEX
  refine hK.out _ _ (sK EX) (fun hHeld => ?_)
  clear hK K
  try simp only [Act.put, List.getElem_toArray, List.getElem_cons_zero, List.getElem_cons_succ, List.setIfInBounds_toArray, List.set_cons_zero, List.set_cons_succ]
  refine wpAnyH_ready (rs := [3]) (by kernel_rfl) (by simp) ?_
  refine AllReadyH.cons (o := _) rfl (fun K hK => ?_) AllReadyH.nil
  go_simp
  refine Calls.mono (HC2.out _ (E.trans EX)) ?_
  rintro e X ⟨rfl, hEX⟩
  dsimp only
  replace EX := EX.trans hEX
  (try replace OB := hid (OB.out.ext hEX))
  (try replace IS := hid (IS.out.ext hEX))
  clear hHeld hEX
  refine hK.out _ _ (sK EX) (fun hHeld => ?_)
  clear hK K
  try simp only [Act.put, List.getElem_toArray, List.getElem_cons_zero, List.getElem_cons_succ, List.setIfInBounds_toArray, List.set_cons_zero, List.set_cons_succ]
  refine wpAnyH_take (i := 4) (oi := _) (v := ?v4x) rfl (by kernel_rfl) (by kernel_rfl) (by kernel_rfl) (fun _ _ _ h => h) (Or.inl ⟨by rfl, ?y4x⟩) (by assumption) ?r4x
  case y4x => (intro w' hSw; (try dsimp only at hSw); go_simp; (try with_reducible rfl))
  try simp only [Act.put, List.getElem_toArray, List.getElem_cons_zero, List.getElem_cons_succ, List.setIfInBounds_toArray, List.set_cons_zero, List.set_cons_succ]
  refine wpAnyH_done (by kernel_rfl) ?_ _
  have hE := EX
  clear hHeld EX HC1 HC2
  replace E := E.trans hE
  replace HB0 := hid (HB0.out.ext hE)
  (try replace HSC := hid (HSC.out.ext hE))
  (try replace HSG := hid (HSG.out.ext hE))
  (try replace HIA := hid (HIA.out.ext hE))
  (try replace HIB := hid (HIB.out.ext hE))
  (try replace HB7 := hid (HB7.out.ext hE))
  (try replace HH1 := hid (HH1.out.ext hE))
  clear hE
  (try clear a0 z0 zE)
  have a0 := HB0.out.cell 0
  have z0 := HB0.out.lt
  have zE := E.size
  simp only [List.getElem?_toArray, List.getElem?_cons_zero, List.getElem?_cons_succ] at a0
  (try clear b7 y7)
  (try (have b7 := HB7.out.cell 0; have y7 := HB7.out.lt; simp only [List.getElem?_toArray, List.getElem?_cons_zero, List.getElem?_cons_succ] at b7))
  go_wp2_with fail
  refine (HP1.out A2 c2 A3 c3 _ E HSC.out HSG.out).mono ?_
  rintro e w5 ⟨A5, c5, rfl, hia, hE⟩
  replace E := E.trans hE
  replace HB0 := hid (HB0.out.ext hE)
  (try replace HSC := hid (HSC.out.ext hE))
  (try replace HSG := hid (HSG.out.ext hE))
  (try replace HIA := hid (HIA.out.ext hE))
  (try replace HIB := hid (HIB.out.ext hE))
  (try replace HB7 := hid (HB7.out.ext hE))
  (try replace HH1 := hid (HH1.out.ext hE))
  clear hE
  (try clear a0 z0 zE)
  have a0 := HB0.out.cell 0
  have z0 := HB0.out.lt
  have zE := E.size
  simp only [List.getElem?_toArray, List.getElem?_cons_zero, List.getElem?_cons_succ] at a0
  (try clear b7 y7)
  (try (have b7 := HB7.out.cell 0; have y7 := HB7.out.lt; simp only [List.getElem?_toArray, List.getElem?_cons_zero, List.getElem?_cons_succ] at b7))
  have HIA := hid hia
  clear hia HP1
  go_wp2_with fail
  refine (HP2.out _ E).mono ?_
  rintro e w6 ⟨A6, c6, rfl, hib, hE⟩
  replace E := E.trans hE
  replace HB0 := hid (HB0.out.ext hE)
  (try replace HSC := hid (HSC.out.ext hE))
  (try replace HSG := hid (HSG.out.ext hE))
  (try replace HIA := hid (HIA.out.ext hE))
  (try replace HIB := hid (HIB.out.ext hE))
  (try replace HB7 := hid (HB7.out.ext hE))
  (try replace HH1 := hid (HH1.out.ext hE))
  clear hE
  (try clear a0 z0 zE)
  have a0 := HB0.out.cell 0
  have z0 := HB0.out.lt
  have zE := E.size
  simp only [List.getElem?_toArray, List.getElem?_cons_zero, List.getElem?_cons_succ] at a0
  (try clear b7 y7)
  (try (have b7 := HB7.out.cell 0; have y7 := HB7.out.lt; simp only [List.getElem?_toArray, List.getElem?_cons_zero, List.getElem?_cons_succ] at b7))
  have HIB := hid hib
  clear hib HP2
  go_wp2_with fail
  refine (HSM.out A5 A6 c5 c6 _ HIA.out HIB.out).mono ?_
  rintro e w7 ⟨rfl, hE⟩
  replace E := E.trans hE
  replace HB0 := hid (HB0.out.ext hE)
  (try replace HSC := hid (HSC.out.ext hE))
  (try replace HSG := hid (HSG.out.ext hE))
  (try replace HIA := hid (HIA.out.ext hE))
  (try replace HIB := hid (HIB.out.ext hE))
  (try replace HB7 := hid (HB7.out.ext hE))
  (try replace HH1 := hid (HH1.out.ext hE))
  clear hE
  (try clear a0 z0 zE)
  have a0 := HB0.out.cell 0
  have z0 := HB0.out.lt
  have zE := E.size
  simp only [List.getElem?_toArray, List.getElem?_cons_zero, List.getElem?_cons_succ] at a0
  (try clear b7 y7)
  (try (have b7 := HB7.out.cell 0; have y7 := HB7.out.lt; simp only [List.getElem?_toArray, List.getElem?_cons_zero, List.getElem?_cons_succ] at b7))
  clear HIA HIB HSM
  go_wp2_with fail
  refine (HR1.out A2 c2 A3 c3 _ E HSC.out HSG.out).mono ?_
  rintro e w8 ⟨rfl, hE⟩
  replace E := E.trans hE
  replace HB0 := hid (HB0.out.ext hE)
  (try replace HSC := hid (HSC.out.ext hE))
  (try replace HSG := hid (HSG.out.ext hE))
  (try replace HIA := hid (HIA.out.ext hE))
  (try replace HIB := hid (HIB.out.ext hE))
  (try replace HB7 := hid (HB7.out.ext hE))
  (try replace HH1 := hid (HH1.out.ext hE))
  clear hE
  (try clear a0 z0 zE)
  have a0 := HB0.out.cell 0
  have z0 := HB0.out.lt
  have zE := E.size
  simp only [List.getElem?_toArray, List.getElem?_cons_zero, List.getElem?_cons_succ] at a0
  (try clear b7 y7)
  (try (have b7 := HB7.out.cell 0; have y7 := HB7.out.lt; simp only [List.getElem?_toArray, List.getElem?_cons_zero, List.getElem?_cons_succ] at b7))
  clear HR1 HSC HSG
  go_wp2_with fail
  have hbh := (show Blk _ _ _ _ from blk_last w8 (.cells #[.int .i64 wl, .int .i64 wh, .int .i64 rl, .int .i64 rh, .int .i64 tl, .int .i64 th] 38))
  refine calls_abs (G := fun W => Calls _ _ _ W _) (fun X => Blk X w8.heap.size 38 #[.int .i64 wl, .int .i64 wh, .int .i64 rl, .int .i64 rh, .int .i64 tl, .int .i64 th] ∧ Ext w8 X) ⟨hbh, by (repeat' (first | with_reducible assumption | with_reducible exact Ext.refl _ | with_reducible refine Ext.alloc ?_ _ | with_reducible refine Ext.set ?_ ?_ _ | with_reducible refine Ext.drew ?_ | with_reducible refine Ext.drewN ?_ _ | with_reducible refine Ext.trans ?_ (by assumption) | (dsimp only; omega)))⟩ ?_
  clear hbh
  rintro U2 ⟨hbh, hE⟩
  replace E := E.trans hE
  replace HB0 := hid (HB0.out.ext hE)
  (try replace HSC := hid (HSC.out.ext hE))
  (try replace HSG := hid (HSG.out.ext hE))
  (try replace HIA := hid (HIA.out.ext hE))
  (try replace HIB := hid (HIB.out.ext hE))
  (try replace HB7 := hid (HB7.out.ext hE))
  (try replace HH1 := hid (HH1.out.ext hE))
  clear hE
  (try clear a0 z0 zE)
  have a0 := HB0.out.cell 0
  have z0 := HB0.out.lt
  have zE := E.size
  simp only [List.getElem?_toArray, List.getElem?_cons_zero, List.getElem?_cons_succ] at a0
  (try clear b7 y7)
  (try (have b7 := HB7.out.cell 0; have y7 := HB7.out.lt; simp only [List.getElem?_toArray, List.getElem?_cons_zero, List.getElem?_cons_succ] at b7))
  have HH1 := hid hbh
  clear hbh
  refine (HR2.out _ E).mono ?_
  rintro e w9 ⟨rfl, hE⟩
  replace E := E.trans hE
  replace HB0 := hid (HB0.out.ext hE)
  (try replace HSC := hid (HSC.out.ext hE))
  (try replace HSG := hid (HSG.out.ext hE))
  (try replace HIA := hid (HIA.out.ext hE))
  (try replace HIB := hid (HIB.out.ext hE))
  (try replace HB7 := hid (HB7.out.ext hE))
  (try replace HH1 := hid (HH1.out.ext hE))
  clear hE
  (try clear a0 z0 zE)
  have a0 := HB0.out.cell 0
  have z0 := HB0.out.lt
  have zE := E.size
  simp only [List.getElem?_toArray, List.getElem?_cons_zero, List.getElem?_cons_succ] at a0
  (try clear b7 y7)
  (try (have b7 := HB7.out.cell 0; have y7 := HB7.out.lt; simp only [List.getElem?_toArray, List.getElem?_cons_zero, List.getElem?_cons_succ] at b7))
  clear HR2
  obtain ⟨g0, g1, g2, g3, g4, g5⟩ : _ ∧ _ ∧ _ ∧ _ ∧ _ ∧ _ := ⟨HH1.out.cell 0, HH1.out.cell 1, HH1.out.cell 2, HH1.out.cell 3, HH1.out.cell 4, HH1.out.cell 5⟩
  have gz := HH1.out.lt
  simp only [List.getElem?_toArray, List.getElem?_cons_zero, List.getElem?_cons_succ] at g0 g1 g2 g3 g4 g5
  go_wp2_with fail
  refine (HWK.out _ (by (repeat' (first | with_reducible assumption | with_reducible exact Ext.refl _ | with_reducible refine Ext.alloc ?_ _ | with_reducible refine Ext.set ?_ ?_ _ | with_reducible refine Ext.drew ?_ | with_reducible refine Ext.drewN ?_ _ | with_reducible refine Ext.trans ?_ (by assumption) | (dsimp only; omega))))).mono ?_
  rintro e w9 ⟨rfl, hE9⟩
  have EZ : Ext w w9 := by (repeat' (first | with_reducible assumption | with_reducible exact Ext.refl _ | with_reducible refine Ext.alloc ?_ _ | with_reducible refine Ext.set ?_ ?_ _ | with_reducible refine Ext.drew ?_ | with_reducible refine Ext.drewN ?_ _ | with_reducible refine Ext.trans ?_ (by assumption) | (dsimp only; omega)))
  go_wp2
  go_ret
  exact ⟨rfl, EZ⟩
end Go.Proofs.YtcpkdnegmblonaaDoor
