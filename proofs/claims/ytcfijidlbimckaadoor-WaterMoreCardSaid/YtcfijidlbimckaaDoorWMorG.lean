/- The law of one more sample and greater numbers: where the numbers are in order. -/
import Derived.Test.YtcfijidlbimckaaDoorWMor
import Derived.Test.YtcfijidlbimckaaDoorCpyO2
set_option linter.unusedSimpArgs false
set_option linter.unusedVariables false
namespace Go.Proofs.YtcfijidlbimckaaDoor
open Go.RowKit
set_option maxHeartbeats 8000000 in
set_option maxRecDepth 100000 in
theorem waterMore_good (d : Wat) (A : WA) (s : Smp) (a b c : Int) (hv : validB d = true) (h1 : 0 ≤ a) (h2 : a ≤ 4) (h3 : 0 ≤ b) (h4 : b ≤ 4) (h5 : 0 ≤ c) (h6 : c ≤ 8) (w : World) (hW : WIn w d A) (hT : TabW w) :
    Calls Tryd.prog 4 #[wval d A, .agg #[.int .i64 s.mix, .bool s.foul, .int .i64 a, .int .i64 b, .int .i64 c]] w fun e w' => e = .returned (.bool true) ∧ Ext w w' := by
  have HV := hid (fun W (hE : Ext w W) => valid_any d A W (hW.ext hE))
  have HWK := hid (fun W (hE : Ext w W) => works_any W (hT.ext hE))
  have t0 := blks2 w (.cells (wcells d A) 25) (.cells #[.int .i64 s.mix, .bool s.foul, .int .i64 a, .int .i64 b, .int .i64 c] 45)
  have BN := hid (show Blk _ _ _ _ from t0.1)
  have BX := hid (show Blk _ _ _ _ from t0.2)
  clear t0
  have hwb : watB d = true := by unfold validB at hv; simp at hv; exact hv.2
  have hok := watB_ok hwb
  have hn8 := hok.n8
  have hm20 := hok.m20
  rw [hv] at HV
  have hwl := lax_watB (a := a) (b := b) (c := c) hwb h1 h3 h5
  have hokl := watB_ok hwl
  have hlen : ∀ x : Wat, (tlI x).length ≤ 1000 := fun x => by
    unfold tlI
    split
    · rename_i hh
      rw [List.length_map]
      have := truths_len (watB_ok hh)
      omega
    · simp
  have hl1 := hlen d
  have hl2 := hlen (laxD d a b c)
  have hl3 := hlen (moreD d s)
  clear hlen
  have HTP := hid (fun W (hE : Ext w W) => truths_any d A (by omega) (by omega) W (hW.ext hE) (hT.ext hE))
  have HCO := hid (fun W (hE : Ext w W) => rcopyO_any d A (by omega) (by omega) W (hW.ext hE))
  have HCP := hid (fun W (hE : Ext w W) => rcopy_any d A (by omega) (by omega) W (hW.ext hE))
  have HCL := hid (fun W (hE : Ext w W) => pclean_any d A (by omega) (by omega) W (hW.ext hE) (hT.ext hE))
  have hmm : (moreD d s).smp.length ≤ 1000 := by show (d.smp ++ [s]).length ≤ 1000; rw [List.length_append]; simp; omega
  have HKR2 := hid (fun A' W (hE : Ext w W) (h0 : WIn W (moreD d s) A') => rCheck_any (moreD d s) A' (show d.spr.length ≤ 30 by omega) hmm W h0)
  have HTP2 := hid (fun A' W (hE : Ext w W) (h0 : WIn W (moreD d s) A') => truths_any (moreD d s) A' (show d.spr.length ≤ 1000 by omega) hmm W h0 (hT.ext hE))
  have HTP3 := hid (fun A' W (hE : Ext w W) (h0 : WIn W (laxD d a b c) A') => truths_any (laxD d a b c) A' (show d.spr.length ≤ 1000 by omega) (show d.smp.length ≤ 1000 by omega) W h0 (hT.ext hE))
  have HCL3 := hid (fun A' W (hE : Ext w W) (h0 : WIn W (laxD d a b c) A') => pclean_any (laxD d a b c) A' (show d.spr.length ≤ 1000 by omega) (show d.smp.length ≤ 1000 by omega) W h0 (hT.ext hE))
  have HIN2 := hid (fun hw2 : watB (moreD d s) = true => has_sub hwb hw2 (fun t ht => more_sub hok (watB_ok hw2) ht))
  have HIN3 := hid (has_sub hwl hwb (fun t ht => lax_sub hok hokl h1 h3 h5 ht))
  have hy : ((minI 8 (d.most + c) : Int) = minI 8 (d.most + c)) := rfl
  have hb1 := hok.most
  have hb2 := hok.miss
  have hb3 := hok.al
  have h0s := sureN_le d.spr.length (truthsL d)
  have h0l := sureN_le (laxD d a b c).spr.length (truthsL (laxD d a b c))
  have h256 := two8 hn8
  have hE1 := watE_cases hwb
  have hE2 : watB (moreD d s) = true → watE (moreD d s) = 0 ∨ (watE (moreD d s) = 3) := fun hw2 => by
    rcases watE_cases hw2 with ⟨h, _⟩ | ⟨h, _⟩
    · exact .inl h
    · exact .inr h
  have hE3 := watE_cases hwl
  have hE13 : watE d = 0 → watE (laxD d a b c) = 0 ∧ bits BinOp.andNot IntKind.i64 ((surV (laxD d a b c) : Nat) : Int) ((surV d : Nat) : Int) = 0 := fun h => by
    rcases hE1 with ⟨_, hne⟩ | ⟨h', _⟩
    · obtain ⟨t, ht⟩ := List.exists_mem_of_ne_nil _ hne
      have ht' := lax_sub hok hokl h1 h3 h5 ht
      rcases hE3 with ⟨h3e, _⟩ | ⟨_, h3n⟩
      · refine ⟨h3e, ?_⟩
        unfold surV
        rw [if_pos h, if_pos h3e]
        have hn : (laxD d a b c).spr.length = d.spr.length := rfl
        have hz := fewer_zero hok hokl hn (fun t ht => lax_sub hok hokl h1 h3 h5 ht)
        have hx := andNot_i64 (a := sureN (laxD d a b c).spr.length (truthsL (laxD d a b c))) (b := sureN d.spr.length (truthsL d)) (by rw [hn] at h0l ⊢; omega) (by omega)
        rw [hx]
        unfold dif at hz
        rw [hz]; rfl
      · rw [h3n] at ht'; cases ht'
    · rw [h] at h'; cases h'
  have hE1' : watE d = 0 ∨ watE d = 3 := by rcases hE1 with ⟨h, _⟩ | ⟨h, _⟩ <;> simp [h]
  have hE3' : watE (laxD d a b c) = 0 ∨ watE (laxD d a b c) = 3 := by rcases hE3 with ⟨h, _⟩ | ⟨h, _⟩ <;> simp [h]
  clear hE1 hE3 h0s h0l hokl hwl hok hwb hv hmm hy
  generalize watE (laxD d a b c) = e3 at *
  generalize watE (moreD d s) = e2 at *
  generalize watE d = e1 at *
  generalize tlI (laxD d a b c) = tl3 at *
  generalize tlI (moreD d s) = tl2 at *
  generalize tlI d = tl1 at *
  generalize surV (laxD d a b c) = sv3 at *
  generalize surV d = sv1 at *
  generalize mayV (laxD d a b c) = mv3 at *
  generalize mayV d = mv1 at *
  generalize watB (moreD d s) = wb2 at *
  obtain ⟨mx, fx⟩ := s
  dsimp only at *
  clear hW hT
  unfold wval wcells at *
  try unfold moreD at *
  try unfold laxD at *
  obtain ⟨spr, most, miss, al, smp⟩ := d
  obtain ⟨SA, sc, MA, mc⟩ := A
  dsimp only at *
  generalize hsn : spr.length = n at *
  generalize hsm : smp.length = m at *
  have hL : (smp ++ [(⟨mx, fx⟩ : Smp)]).length = m + 1 := by rw [List.length_append, hsm]; rfl
  simp only [hL] at HKR2 HTP2
  unfold minI at HTP3 HCL3
  obtain ⟨K1, hK1⟩ : ∃ K, (if most + c < 8 then most + c else 8) = K := ⟨_, rfl⟩
  obtain ⟨K2, hK2⟩ : ∃ K, (if miss + a < 4 then miss + a else 4) = K := ⟨_, rfl⟩
  obtain ⟨K3, hK3⟩ : ∃ K, (if al + b < 4 then al + b else 4) = K := ⟨_, rfl⟩
  rw [hK1, hK2, hK3] at HTP3 HCL3
  go_enter Tryd.func4, Tryd.ntmps4
  go_wp2_with fail
  refine (HV.out _ (by (repeat' (first | with_reducible assumption | with_reducible exact Ext.refl _ | with_reducible refine Ext.alloc ?_ _ | with_reducible refine Ext.set ?_ ?_ _ | with_reducible refine Ext.drew ?_ | with_reducible refine Ext.drewN ?_ _ | with_reducible refine Ext.trans ?_ (by assumption) | (dsimp only; omega))))).mono ?_
  rintro e w2 ⟨rfl, hE⟩
  have E : Ext w w2 := by (repeat' (first | with_reducible assumption | with_reducible exact Ext.refl _ | with_reducible refine Ext.alloc ?_ _ | with_reducible refine Ext.set ?_ ?_ _ | with_reducible refine Ext.drew ?_ | with_reducible refine Ext.drewN ?_ _ | with_reducible refine Ext.trans ?_ (by assumption) | (dsimp only; omega)))
  have HB := hid (BN.out.ext hE)
  have HX := hid (BX.out.ext hE)
  clear hE BN BX
  have d0 := HB.out.cell 0
  have d1 := HB.out.cell 1
  have d2 := HB.out.cell 2
  have d3 := HB.out.cell 3
  have d4 := HB.out.cell 4
  simp only [List.getElem?_toArray, List.getElem?_cons_zero, List.getElem?_cons_succ] at d0 d1 d2 d3 d4
  have dz := HB.out.lt
  have x0 := HX.out.cell 0
  have x1 := HX.out.cell 1
  have x2 := HX.out.cell 2
  have x3 := HX.out.cell 3
  have x4 := HX.out.cell 4
  simp only [List.getElem?_toArray, List.getElem?_cons_zero, List.getElem?_cons_succ] at x0 x1 x2 x3 x4
  have xz := HX.out.lt
  go_wp2_with fail
  refine (HTP.out _ E).mono ?_
  rintro e w3 ⟨v, rfl, hown, hE⟩
  obtain ⟨TA, tc, rfl, hS⟩ := hown.form
  have HI := hid hS
  clear hown hS
  replace HB := hid (HB.out.ext hE)
  replace HX := hid (HX.out.ext hE)
  replace E := E.trans hE
  clear hE d0 d1 d2 d3 d4 dz x0 x1 x2 x3 x4 xz
  have d0 := HB.out.cell 0
  have d1 := HB.out.cell 1
  have d2 := HB.out.cell 2
  have d3 := HB.out.cell 3
  have d4 := HB.out.cell 4
  simp only [List.getElem?_toArray, List.getElem?_cons_zero, List.getElem?_cons_succ] at d0 d1 d2 d3 d4
  have dz := HB.out.lt
  have x0 := HX.out.cell 0
  have x1 := HX.out.cell 1
  have x2 := HX.out.cell 2
  have x3 := HX.out.cell 3
  have x4 := HX.out.cell 4
  simp only [List.getElem?_toArray, List.getElem?_cons_zero, List.getElem?_cons_succ] at x0 x1 x2 x3 x4
  have xz := HX.out.lt
  obtain rfl | rfl := hE1'
  case inr =>
    clear hE13
    obtain rfl | rfl := hE3'
    all_goals
      go_wp2_with fail
      refine (HCO.out _ E).mono ?_
      rintro e w4 ⟨⟨SB, sb, MB, mb⟩, B, rfl, hB1, hB2, hSp, hSb, hOw, hE⟩
      dsimp only at hSp hSb hOw ⊢
      have X4 := hE
      have E3 := E
      have HI4 := hid (HI.out.ext hE)
      have HB3 := HB
      have HX3B := HX
      replace HB := hid (HB.out.ext hE)
      replace HX := hid (HX.out.ext hE)
      replace E := E.trans hE
      clear hE d0 d1 d2 d3 d4 dz x0 x1 x2 x3 x4 xz
      have d0 := HB.out.cell 0
      have d1 := HB.out.cell 1
      have d2 := HB.out.cell 2
      have d3 := HB.out.cell 3
      have d4 := HB.out.cell 4
      simp only [List.getElem?_toArray, List.getElem?_cons_zero, List.getElem?_cons_succ] at d0 d1 d2 d3 d4
      have dz := HB.out.lt
      have x0 := HX.out.cell 0
      have x1 := HX.out.cell 1
      have x2 := HX.out.cell 2
      have x3 := HX.out.cell 3
      have x4 := HX.out.cell 4
      simp only [List.getElem?_toArray, List.getElem?_cons_zero, List.getElem?_cons_succ] at x0 x1 x2 x3 x4
      have xz := HX.out.lt
      go_wp2_with (at_builtin; refine Halt.mk ?_)
      unfold Halt
      obtain ⟨V, hVe⟩ : ∃ V, w4.alloc (.cells #[.slice SB n sb, .int .i64 most, .int .i64 miss, .int .i64 al, .slice MB m mb] 25) = V := ⟨_, rfl⟩
      have hVs : V.heap.size = w4.heap.size + 1 := by rw [← hVe]; simp
      have X4V : Ext w4 V := by rw [← hVe]; exact ext_alloc1 _ _
      have BM := hid (show Blk V w4.heap.size 25 #[.slice SB n sb, .int .i64 most, .int .i64 miss, .int .i64 al, .slice MB m mb] by rw [← hVe]; exact Blk.new _ _ _)
      rw [hVe]
      clear hVe
      have XV : Ext w3 V := X4.trans X4V
      have hOV := hOw.ext X4V
      refine app1Smp _ rfl _ _ rfl B (.slice MB m mb) smp rfl (hOV.ext (ext_alloc1 _ _)) ⟨w4.heap.size + 1, 0, none⟩ ⟨mx, fx⟩ rfl (by rw [← hVs]; exact smp_new V ⟨mx, fx⟩) (by omega) (by have := hVs; simp; omega) ?_
      intro v5 w5 hown5 hg5
      have hlt5 := hOw.lt
      have X5 : Ext w3 w5 := hOV.extApp XV hB1 hg5
      have hs5 : w4.heap.size + 2 ≤ w5.heap.size := by have := hg5.size; simp at this; omega
      have BM5 := hid ((BM.out.alloc (.cells #[.int .i64 mx, .bool fx] 43)).grown hg5 (fun e => by have := hlt5 _ e.symm; omega))
      have SP5 := hid (((hSp.ext X4V).ext (ext_alloc1 V (.cells #[.int .i64 mx, .bool fx] 43))).grown hg5 (fun hne => by
        obtain ⟨b, o, hA, hb⟩ := hSb hne
        exact ⟨b, o, hA, fun e => by have := hOV.block b e.symm; omega⟩))
      have HI5 := hid (HI.out.ext X5)
      have hOw5 := hid hown5
      obtain ⟨M5, c5, rfl, -⟩ := hown5.form
      rw [hL]
      rw [hL] at hOw5
      clear hOw hOV hlt5 hg5 hSp BM HI4 hown5
      replace HB := hid (HB3.out.ext X5)
      replace HX := hid (HX3B.out.ext X5)
      replace E := E3.trans X5
      clear d0 d1 d2 d3 d4 dz x0 x1 x2 x3 x4 xz
      have d0 := HB.out.cell 0
      have d1 := HB.out.cell 1
      have d2 := HB.out.cell 2
      have d3 := HB.out.cell 3
      have d4 := HB.out.cell 4
      simp only [List.getElem?_toArray, List.getElem?_cons_zero, List.getElem?_cons_succ] at d0 d1 d2 d3 d4
      have dz := HB.out.lt
      have x0 := HX.out.cell 0
      have x1 := HX.out.cell 1
      have x2 := HX.out.cell 2
      have x3 := HX.out.cell 3
      have x4 := HX.out.cell 4
      simp only [List.getElem?_toArray, List.getElem?_cons_zero, List.getElem?_cons_succ] at x0 x1 x2 x3 x4
      have xz := HX.out.lt
      have m0 := BM5.out.cell 0
      have m1 := BM5.out.cell 1
      have m2 := BM5.out.cell 2
      have m3 := BM5.out.cell 3
      have m4 := BM5.out.cell 4
      simp only [List.getElem?_toArray, List.getElem?_cons_zero, List.getElem?_cons_succ] at m0 m1 m2 m3 m4
      have mz := BM5.out.lt
      have f4 := BM5.out.fro 4
      go_wp2_with fail
      obtain ⟨W6, h6e⟩ : ∃ W6, w5.setCell ⟨w4.heap.size, 4, none⟩ (.slice M5 (m + 1) c5) = W6 := ⟨_, rfl⟩
      have X6 : Ext w3 W6 := by rw [← h6e]; exact X5.set (by dsimp only; omega) _
      have SP6 : SprAt (w5.setCell ⟨w4.heap.size, 4, none⟩ (.slice M5 (m + 1) c5)) SB spr := by
        by_cases hne : spr = []
        · exact fun hx => absurd hne hx
        · obtain ⟨b', o', h1, h2⟩ := hSb hne
          exact SP5.out.other (p := ⟨w4.heap.size, 4, none⟩) (fun b o e he => by
            rw [e] at h1
            injection h1 with h1
            injection h1 with h1
            dsimp only at he
            omega) (.slice M5 (m + 1) c5)
      have OW6 := hOw5.out.otherBlk (p := ⟨w4.heap.size, 4, none⟩) BM5.out (by decide) (.slice M5 (m + 1) c5)
      have BM6 := hid (BM5.out.setAt 4 (.slice M5 (m + 1) c5))
      rw [h6e] at SP6 OW6 BM6 ⊢
      have WI6 := hid (show WIn W6 ⟨spr, most, miss, al, smp ++ [⟨mx, fx⟩]⟩ ⟨SB, sb, M5, c5⟩ from ⟨SP6, OW6.smp⟩)
      clear h6e SP6 OW6 BM5 SP5 hOw5 m0 m1 m2 m3 m4 mz f4 hSb
      replace HB := hid (HB3.out.ext X6)
      replace HX := hid (HX3B.out.ext X6)
      replace E := E3.trans X6
      clear d0 d1 d2 d3 d4 dz x0 x1 x2 x3 x4 xz
      have d0 := HB.out.cell 0
      have d1 := HB.out.cell 1
      have d2 := HB.out.cell 2
      have d3 := HB.out.cell 3
      have d4 := HB.out.cell 4
      simp only [List.getElem?_toArray, List.getElem?_cons_zero, List.getElem?_cons_succ] at d0 d1 d2 d3 d4
      have dz := HB.out.lt
      have x0 := HX.out.cell 0
      have x1 := HX.out.cell 1
      have x2 := HX.out.cell 2
      have x3 := HX.out.cell 3
      have x4 := HX.out.cell 4
      simp only [List.getElem?_toArray, List.getElem?_cons_zero, List.getElem?_cons_succ] at x0 x1 x2 x3 x4
      have xz := HX.out.lt
      cases wb2
      · refine (HKR2.out _ _ E WI6.out).mono ?_
        rintro e w7 ⟨rfl, hE⟩
        have X7 := X6.trans hE
        clear hE WI6 BM6 X5 X6 XV X4V X4 hB1 hB2
        replace HB := hid (HB3.out.ext X7)
        replace HX := hid (HX3B.out.ext X7)
        replace E := E3.trans X7
        clear d0 d1 d2 d3 d4 dz x0 x1 x2 x3 x4 xz
        have d0 := HB.out.cell 0
        have d1 := HB.out.cell 1
        have d2 := HB.out.cell 2
        have d3 := HB.out.cell 3
        have d4 := HB.out.cell 4
        simp only [List.getElem?_toArray, List.getElem?_cons_zero, List.getElem?_cons_succ] at d0 d1 d2 d3 d4
        have dz := HB.out.lt
        have x0 := HX.out.cell 0
        have x1 := HX.out.cell 1
        have x2 := HX.out.cell 2
        have x3 := HX.out.cell 3
        have x4 := HX.out.cell 4
        simp only [List.getElem?_toArray, List.getElem?_cons_zero, List.getElem?_cons_succ] at x0 x1 x2 x3 x4
        have xz := HX.out.lt
        go_wp2_with fail
        refine (HCP.out _ E).mono ?_
        rintro e w8 ⟨⟨SC, sc2, MC, mc2⟩, rfl, hWI, hE⟩
        have X8 := X7.trans hE
        have HWI := hid hWI
        clear hE hWI X7
        dsimp only
        replace HB := hid (HB3.out.ext X8)
        replace HX := hid (HX3B.out.ext X8)
        replace E := E3.trans X8
        clear d0 d1 d2 d3 d4 dz x0 x1 x2 x3 x4 xz
        have d0 := HB.out.cell 0
        have d1 := HB.out.cell 1
        have d2 := HB.out.cell 2
        have d3 := HB.out.cell 3
        have d4 := HB.out.cell 4
        simp only [List.getElem?_toArray, List.getElem?_cons_zero, List.getElem?_cons_succ] at d0 d1 d2 d3 d4
        have dz := HB.out.lt
        have x0 := HX.out.cell 0
        have x1 := HX.out.cell 1
        have x2 := HX.out.cell 2
        have x3 := HX.out.cell 3
        have x4 := HX.out.cell 4
        simp only [List.getElem?_toArray, List.getElem?_cons_zero, List.getElem?_cons_succ] at x0 x1 x2 x3 x4
        have xz := HX.out.lt
        go_wp2_with fail
        obtain ⟨W9, h9e⟩ : ∃ W9, w8.alloc (.cells #[.slice SC n sc2, .int .i64 K1, .int .i64 K2, .int .i64 K3, .slice MC m mc2] 25) = W9 := ⟨_, rfl⟩
        have X89 : Ext w8 W9 := by rw [← h9e]; exact ext_alloc1 _ _
        have BL9 := hid (show Blk W9 w8.heap.size 25 #[.slice SC n sc2, .int .i64 K1, .int .i64 K2, .int .i64 K3, .slice MC m mc2] by rw [← h9e]; exact Blk.new _ _ _)
        rw [h9e]
        obtain ⟨q, hq⟩ : ∃ q, w8.heap.size = q := ⟨_, rfl⟩
        rw [hq] at BL9 ⊢
        have X9 : Ext w3 W9 := X8.trans X89
        have WI9 := hid (show WIn W9 ⟨spr, K1, K2, K3, smp⟩ ⟨SC, sc2, MC, mc2⟩ from ⟨HWI.out.spr.ext X89, HWI.out.smp.ext X89⟩)
        clear h9e hq HWI X8 X89 HCP
        replace HB := hid (HB3.out.ext X9)
        replace HX := hid (HX3B.out.ext X9)
        replace E := E3.trans X9
        clear d0 d1 d2 d3 d4 dz x0 x1 x2 x3 x4 xz
        have d0 := HB.out.cell 0
        have d1 := HB.out.cell 1
        have d2 := HB.out.cell 2
        have d3 := HB.out.cell 3
        have d4 := HB.out.cell 4
        simp only [List.getElem?_toArray, List.getElem?_cons_zero, List.getElem?_cons_succ] at d0 d1 d2 d3 d4
        have dz := HB.out.lt
        have x0 := HX.out.cell 0
        have x1 := HX.out.cell 1
        have x2 := HX.out.cell 2
        have x3 := HX.out.cell 3
        have x4 := HX.out.cell 4
        simp only [List.getElem?_toArray, List.getElem?_cons_zero, List.getElem?_cons_succ] at x0 x1 x2 x3 x4
        have xz := HX.out.lt
        refine (HTP3.out _ _ E WI9.out).mono ?_
        rintro e w10 ⟨v, rfl, hown, hE⟩
        obtain ⟨TB, tb, rfl, hS⟩ := hown.form
        have HJ := hid hS
        have WI := hid (WI9.out.ext hE)
        have BL := hid (BL9.out.ext hE)
        have X10 := X9.trans hE
        have HI10 := hid (HI.out.ext X10)
        clear hown hS WI9 BL9 hE X9 HTP3
        replace HB := hid (HB3.out.ext X10)
        replace HX := hid (HX3B.out.ext X10)
        replace E := E3.trans X10
        clear d0 d1 d2 d3 d4 dz x0 x1 x2 x3 x4 xz
        have d0 := HB.out.cell 0
        have d1 := HB.out.cell 1
        have d2 := HB.out.cell 2
        have d3 := HB.out.cell 3
        have d4 := HB.out.cell 4
        simp only [List.getElem?_toArray, List.getElem?_cons_zero, List.getElem?_cons_succ] at d0 d1 d2 d3 d4
        have dz := HB.out.lt
        have x0 := HX.out.cell 0
        have x1 := HX.out.cell 1
        have x2 := HX.out.cell 2
        have x3 := HX.out.cell 3
        have x4 := HX.out.cell 4
        simp only [List.getElem?_toArray, List.getElem?_cons_zero, List.getElem?_cons_succ] at x0 x1 x2 x3 x4
        have xz := HX.out.lt
        go_wp2_with fail
        go_loopw [14] (fun i wr => Ext w10 wr ∧ ∃ k : Nat, k ≤ tl1.length ∧ i = .int .i64 k) (fun i _ => tl1.length - (intOf i).toNat)
        case atStart => exact ⟨Ext.refl _, 0, Nat.zero_le _, rfl⟩
        case round =>
          obtain ⟨hE, k, hk, rfl⟩ := hrel
          have XR := X10.trans hE
          by_cases hlt : k < tl1.length
          · have hin := HIN3.out k hlt
            obtain ⟨b, off, rfl, hb, c0⟩ := (HI10.out.ext hE).at_ rfl hlt
            generalize tl1.getD k 0 = y at *
            have HIN := hid hin
            clear hin
            go_wp2_with fail
            refine (contains_any TB tb _ tl3 rfl hl2 y _ (HJ.out.ext hE)).mono ?_
            rintro e w11 ⟨rfl, rfl⟩
            rw [HIN.out]
            go_wp2
            go_roundw
            case rel => exact ⟨hE, k + 1, by omega, by go_num⟩
            case measure => simp [intOf]; omega
          · replace HB := hid (HB3.out.ext XR)
            replace HX := hid (HX3B.out.ext XR)
            replace E := E3.trans XR
            clear d0 d1 d2 d3 d4 dz x0 x1 x2 x3 x4 xz
            have d0 := HB.out.cell 0
            have d1 := HB.out.cell 1
            have d2 := HB.out.cell 2
            have d3 := HB.out.cell 3
            have d4 := HB.out.cell 4
            simp only [List.getElem?_toArray, List.getElem?_cons_zero, List.getElem?_cons_succ] at d0 d1 d2 d3 d4
            have dz := HB.out.lt
            have x0 := HX.out.cell 0
            have x1 := HX.out.cell 1
            have x2 := HX.out.cell 2
            have x3 := HX.out.cell 3
            have x4 := HX.out.cell 4
            simp only [List.getElem?_toArray, List.getElem?_cons_zero, List.getElem?_cons_succ] at x0 x1 x2 x3 x4
            have xz := HX.out.lt
            go_wp2_with fail
            refine (HWK.out _ E).mono ?_
            rintro e w14 ⟨rfl, hE4⟩
            have E14 := E.trans hE4
            go_wp2
            go_ret
            exact ⟨rfl, E14⟩
      · have hin2 := HIN2.out rfl
        simp only [List.setIfInBounds_toArray, List.set_cons_zero, List.set_cons_succ] at BM6
        obtain rfl | rfl := hE2 rfl
        all_goals
          refine (HKR2.out _ _ E WI6.out).mono ?_
          rintro e w7 ⟨rfl, hE⟩
          have X7 := X6.trans hE
          have WI7 := hid (WI6.out.ext hE)
          have BM7 := hid (BM6.out.ext hE)
          clear hE WI6 BM6 X5 X6 XV X4V X4 hB1 hB2 HKR2
          replace HB := hid (HB3.out.ext X7)
          replace HX := hid (HX3B.out.ext X7)
          replace E := E3.trans X7
          clear d0 d1 d2 d3 d4 dz x0 x1 x2 x3 x4 xz
          have d0 := HB.out.cell 0
          have d1 := HB.out.cell 1
          have d2 := HB.out.cell 2
          have d3 := HB.out.cell 3
          have d4 := HB.out.cell 4
          simp only [List.getElem?_toArray, List.getElem?_cons_zero, List.getElem?_cons_succ] at d0 d1 d2 d3 d4
          have dz := HB.out.lt
          have x0 := HX.out.cell 0
          have x1 := HX.out.cell 1
          have x2 := HX.out.cell 2
          have x3 := HX.out.cell 3
          have x4 := HX.out.cell 4
          simp only [List.getElem?_toArray, List.getElem?_cons_zero, List.getElem?_cons_succ] at x0 x1 x2 x3 x4
          have xz := HX.out.lt
          have m0 := BM7.out.cell 0
          have m1 := BM7.out.cell 1
          have m2 := BM7.out.cell 2
          have m3 := BM7.out.cell 3
          have m4 := BM7.out.cell 4
          simp only [List.getElem?_toArray, List.getElem?_cons_zero, List.getElem?_cons_succ] at m0 m1 m2 m3 m4
          have mz := BM7.out.lt
          go_wp2_with fail
          refine (HTP2.out _ _ E WI7.out).mono ?_
          rintro e w8 ⟨v, rfl, hown, hE⟩
          obtain ⟨TD, td, rfl, hS⟩ := hown.form
          have HK := hid hS
          have X8 := X7.trans hE
          have HI8 := hid (HI.out.ext X8)
          clear hown hS hE HTP2 WI7 BM7 m0 m1 m2 m3 m4 mz X7
          replace HB := hid (HB3.out.ext X8)
          replace HX := hid (HX3B.out.ext X8)
          replace E := E3.trans X8
          clear d0 d1 d2 d3 d4 dz x0 x1 x2 x3 x4 xz
          have d0 := HB.out.cell 0
          have d1 := HB.out.cell 1
          have d2 := HB.out.cell 2
          have d3 := HB.out.cell 3
          have d4 := HB.out.cell 4
          simp only [List.getElem?_toArray, List.getElem?_cons_zero, List.getElem?_cons_succ] at d0 d1 d2 d3 d4
          have dz := HB.out.lt
          have x0 := HX.out.cell 0
          have x1 := HX.out.cell 1
          have x2 := HX.out.cell 2
          have x3 := HX.out.cell 3
          have x4 := HX.out.cell 4
          simp only [List.getElem?_toArray, List.getElem?_cons_zero, List.getElem?_cons_succ] at x0 x1 x2 x3 x4
          have xz := HX.out.lt
          go_wp2_with fail
          go_loopw [10] (fun i wr => Ext w8 wr ∧ ∃ k : Nat, k ≤ tl2.length ∧ i = .int .i64 k) (fun i _ => tl2.length - (intOf i).toNat)
          case atStart => exact ⟨Ext.refl _, 0, Nat.zero_le _, rfl⟩
          case round =>
            obtain ⟨hE, k, hk, rfl⟩ := hrel
            by_cases hlt : k < tl2.length
            · have hin := hin2 k hlt
              obtain ⟨b, off, rfl, hb, c0⟩ := (HK.out.ext hE).at_ rfl hlt
              generalize tl2.getD k 0 = y at *
              have HIN := hid hin
              clear hin hin2
              go_wp2_with fail
              refine (contains_any TA tc _ tl1 rfl hl1 y _ (HI8.out.ext hE)).mono ?_
              rintro e w11 ⟨rfl, rfl⟩
              rw [HIN.out]
              go_wp2
              go_roundw
              case rel => exact ⟨hE, k + 1, by omega, by go_num⟩
              case measure => simp [intOf]; omega
            · have X7 := X8.trans hE
              clear hE X8 hin2 HK HI8
              replace HB := hid (HB3.out.ext X7)
              replace HX := hid (HX3B.out.ext X7)
              replace E := E3.trans X7
              clear d0 d1 d2 d3 d4 dz x0 x1 x2 x3 x4 xz
              have d0 := HB.out.cell 0
              have d1 := HB.out.cell 1
              have d2 := HB.out.cell 2
              have d3 := HB.out.cell 3
              have d4 := HB.out.cell 4
              simp only [List.getElem?_toArray, List.getElem?_cons_zero, List.getElem?_cons_succ] at d0 d1 d2 d3 d4
              have dz := HB.out.lt
              have x0 := HX.out.cell 0
              have x1 := HX.out.cell 1
              have x2 := HX.out.cell 2
              have x3 := HX.out.cell 3
              have x4 := HX.out.cell 4
              simp only [List.getElem?_toArray, List.getElem?_cons_zero, List.getElem?_cons_succ] at x0 x1 x2 x3 x4
              have xz := HX.out.lt
              go_wp2_with fail
              refine (HCP.out _ E).mono ?_
              rintro e w8 ⟨⟨SC, sc2, MC, mc2⟩, rfl, hWI, hE⟩
              have X8 := X7.trans hE
              have HWI := hid hWI
              clear hE hWI X7
              dsimp only
              replace HB := hid (HB3.out.ext X8)
              replace HX := hid (HX3B.out.ext X8)
              replace E := E3.trans X8
              clear d0 d1 d2 d3 d4 dz x0 x1 x2 x3 x4 xz
              have d0 := HB.out.cell 0
              have d1 := HB.out.cell 1
              have d2 := HB.out.cell 2
              have d3 := HB.out.cell 3
              have d4 := HB.out.cell 4
              simp only [List.getElem?_toArray, List.getElem?_cons_zero, List.getElem?_cons_succ] at d0 d1 d2 d3 d4
              have dz := HB.out.lt
              have x0 := HX.out.cell 0
              have x1 := HX.out.cell 1
              have x2 := HX.out.cell 2
              have x3 := HX.out.cell 3
              have x4 := HX.out.cell 4
              simp only [List.getElem?_toArray, List.getElem?_cons_zero, List.getElem?_cons_succ] at x0 x1 x2 x3 x4
              have xz := HX.out.lt
              go_wp2_with fail
              obtain ⟨W9, h9e⟩ : ∃ W9, w8.alloc (.cells #[.slice SC n sc2, .int .i64 K1, .int .i64 K2, .int .i64 K3, .slice MC m mc2] 25) = W9 := ⟨_, rfl⟩
              have X89 : Ext w8 W9 := by rw [← h9e]; exact ext_alloc1 _ _
              have BL9 := hid (show Blk W9 w8.heap.size 25 #[.slice SC n sc2, .int .i64 K1, .int .i64 K2, .int .i64 K3, .slice MC m mc2] by rw [← h9e]; exact Blk.new _ _ _)
              rw [h9e]
              obtain ⟨q, hq⟩ : ∃ q, w8.heap.size = q := ⟨_, rfl⟩
              rw [hq] at BL9 ⊢
              have X9 : Ext w3 W9 := X8.trans X89
              have WI9 := hid (show WIn W9 ⟨spr, K1, K2, K3, smp⟩ ⟨SC, sc2, MC, mc2⟩ from ⟨HWI.out.spr.ext X89, HWI.out.smp.ext X89⟩)
              clear h9e hq HWI X8 X89 HCP
              replace HB := hid (HB3.out.ext X9)
              replace HX := hid (HX3B.out.ext X9)
              replace E := E3.trans X9
              clear d0 d1 d2 d3 d4 dz x0 x1 x2 x3 x4 xz
              have d0 := HB.out.cell 0
              have d1 := HB.out.cell 1
              have d2 := HB.out.cell 2
              have d3 := HB.out.cell 3
              have d4 := HB.out.cell 4
              simp only [List.getElem?_toArray, List.getElem?_cons_zero, List.getElem?_cons_succ] at d0 d1 d2 d3 d4
              have dz := HB.out.lt
              have x0 := HX.out.cell 0
              have x1 := HX.out.cell 1
              have x2 := HX.out.cell 2
              have x3 := HX.out.cell 3
              have x4 := HX.out.cell 4
              simp only [List.getElem?_toArray, List.getElem?_cons_zero, List.getElem?_cons_succ] at x0 x1 x2 x3 x4
              have xz := HX.out.lt
              refine (HTP3.out _ _ E WI9.out).mono ?_
              rintro e w10 ⟨v, rfl, hown, hE⟩
              obtain ⟨TB, tb, rfl, hS⟩ := hown.form
              have HJ := hid hS
              have WI := hid (WI9.out.ext hE)
              have BL := hid (BL9.out.ext hE)
              have X10 := X9.trans hE
              have HI10 := hid (HI.out.ext X10)
              clear hown hS WI9 BL9 hE X9 HTP3
              replace HB := hid (HB3.out.ext X10)
              replace HX := hid (HX3B.out.ext X10)
              replace E := E3.trans X10
              clear d0 d1 d2 d3 d4 dz x0 x1 x2 x3 x4 xz
              have d0 := HB.out.cell 0
              have d1 := HB.out.cell 1
              have d2 := HB.out.cell 2
              have d3 := HB.out.cell 3
              have d4 := HB.out.cell 4
              simp only [List.getElem?_toArray, List.getElem?_cons_zero, List.getElem?_cons_succ] at d0 d1 d2 d3 d4
              have dz := HB.out.lt
              have x0 := HX.out.cell 0
              have x1 := HX.out.cell 1
              have x2 := HX.out.cell 2
              have x3 := HX.out.cell 3
              have x4 := HX.out.cell 4
              simp only [List.getElem?_toArray, List.getElem?_cons_zero, List.getElem?_cons_succ] at x0 x1 x2 x3 x4
              have xz := HX.out.lt
              go_wp2_with fail
              go_loopw [14] (fun i wr => Ext w10 wr ∧ ∃ k : Nat, k ≤ tl1.length ∧ i = .int .i64 k) (fun i _ => tl1.length - (intOf i).toNat)
              case atStart => exact ⟨Ext.refl _, 0, Nat.zero_le _, rfl⟩
              case round =>
                obtain ⟨hE, k, hk, rfl⟩ := hrel
                have XR := X10.trans hE
                by_cases hlt : k < tl1.length
                · have hin := HIN3.out k hlt
                  obtain ⟨b, off, rfl, hb, c0⟩ := (HI10.out.ext hE).at_ rfl hlt
                  generalize tl1.getD k 0 = y at *
                  have HIN := hid hin
                  clear hin
                  go_wp2_with fail
                  refine (contains_any TB tb _ tl3 rfl hl2 y _ (HJ.out.ext hE)).mono ?_
                  rintro e w11 ⟨rfl, rfl⟩
                  rw [HIN.out]
                  go_wp2
                  go_roundw
                  case rel => exact ⟨hE, k + 1, by omega, by go_num⟩
                  case measure => simp [intOf]; omega
                · replace HB := hid (HB3.out.ext XR)
                  replace HX := hid (HX3B.out.ext XR)
                  replace E := E3.trans XR
                  clear d0 d1 d2 d3 d4 dz x0 x1 x2 x3 x4 xz
                  have d0 := HB.out.cell 0
                  have d1 := HB.out.cell 1
                  have d2 := HB.out.cell 2
                  have d3 := HB.out.cell 3
                  have d4 := HB.out.cell 4
                  simp only [List.getElem?_toArray, List.getElem?_cons_zero, List.getElem?_cons_succ] at d0 d1 d2 d3 d4
                  have dz := HB.out.lt
                  have x0 := HX.out.cell 0
                  have x1 := HX.out.cell 1
                  have x2 := HX.out.cell 2
                  have x3 := HX.out.cell 3
                  have x4 := HX.out.cell 4
                  simp only [List.getElem?_toArray, List.getElem?_cons_zero, List.getElem?_cons_succ] at x0 x1 x2 x3 x4
                  have xz := HX.out.lt
                  go_wp2_with fail
                  refine (HWK.out _ E).mono ?_
                  rintro e w14 ⟨rfl, hE4⟩
                  have E14 := E.trans hE4
                  go_wp2
                  go_ret
                  exact ⟨rfl, E14⟩
  obtain ⟨rfl, hx3⟩ := hE13 rfl
  clear hE3' hE13
  go_wp2_with fail
  refine (HCO.out _ E).mono ?_
  rintro e w4 ⟨⟨SB, sb, MB, mb⟩, B, rfl, hB1, hB2, hSp, hSb, hOw, hE⟩
  dsimp only at hSp hSb hOw ⊢
  have X4 := hE
  have E3 := E
  have HI4 := hid (HI.out.ext hE)
  have HB3 := HB
  have HX3B := HX
  replace HB := hid (HB.out.ext hE)
  replace HX := hid (HX.out.ext hE)
  replace E := E.trans hE
  clear hE d0 d1 d2 d3 d4 dz x0 x1 x2 x3 x4 xz
  have d0 := HB.out.cell 0
  have d1 := HB.out.cell 1
  have d2 := HB.out.cell 2
  have d3 := HB.out.cell 3
  have d4 := HB.out.cell 4
  simp only [List.getElem?_toArray, List.getElem?_cons_zero, List.getElem?_cons_succ] at d0 d1 d2 d3 d4
  have dz := HB.out.lt
  have x0 := HX.out.cell 0
  have x1 := HX.out.cell 1
  have x2 := HX.out.cell 2
  have x3 := HX.out.cell 3
  have x4 := HX.out.cell 4
  simp only [List.getElem?_toArray, List.getElem?_cons_zero, List.getElem?_cons_succ] at x0 x1 x2 x3 x4
  have xz := HX.out.lt
  go_wp2_with (at_builtin; refine Halt.mk ?_)
  unfold Halt
  obtain ⟨V, hVe⟩ : ∃ V, w4.alloc (.cells #[.slice SB n sb, .int .i64 most, .int .i64 miss, .int .i64 al, .slice MB m mb] 25) = V := ⟨_, rfl⟩
  have hVs : V.heap.size = w4.heap.size + 1 := by rw [← hVe]; simp
  have X4V : Ext w4 V := by rw [← hVe]; exact ext_alloc1 _ _
  have BM := hid (show Blk V w4.heap.size 25 #[.slice SB n sb, .int .i64 most, .int .i64 miss, .int .i64 al, .slice MB m mb] by rw [← hVe]; exact Blk.new _ _ _)
  rw [hVe]
  clear hVe
  have XV : Ext w3 V := X4.trans X4V
  have hOV := hOw.ext X4V
  refine app1Smp _ rfl _ _ rfl B (.slice MB m mb) smp rfl (hOV.ext (ext_alloc1 _ _)) ⟨w4.heap.size + 1, 0, none⟩ ⟨mx, fx⟩ rfl (by rw [← hVs]; exact smp_new V ⟨mx, fx⟩) (by omega) (by have := hVs; simp; omega) ?_
  intro v5 w5 hown5 hg5
  have hlt5 := hOw.lt
  have X5 : Ext w3 w5 := hOV.extApp XV hB1 hg5
  have hs5 : w4.heap.size + 2 ≤ w5.heap.size := by have := hg5.size; simp at this; omega
  have BM5 := hid ((BM.out.alloc (.cells #[.int .i64 mx, .bool fx] 43)).grown hg5 (fun e => by have := hlt5 _ e.symm; omega))
  have SP5 := hid (((hSp.ext X4V).ext (ext_alloc1 V (.cells #[.int .i64 mx, .bool fx] 43))).grown hg5 (fun hne => by
    obtain ⟨b, o, hA, hb⟩ := hSb hne
    exact ⟨b, o, hA, fun e => by have := hOV.block b e.symm; omega⟩))
  have HI5 := hid (HI.out.ext X5)
  have hOw5 := hid hown5
  obtain ⟨M5, c5, rfl, -⟩ := hown5.form
  rw [hL]
  rw [hL] at hOw5
  clear hOw hOV hlt5 hg5 hSp BM HI4 hown5
  replace HB := hid (HB3.out.ext X5)
  replace HX := hid (HX3B.out.ext X5)
  replace E := E3.trans X5
  clear d0 d1 d2 d3 d4 dz x0 x1 x2 x3 x4 xz
  have d0 := HB.out.cell 0
  have d1 := HB.out.cell 1
  have d2 := HB.out.cell 2
  have d3 := HB.out.cell 3
  have d4 := HB.out.cell 4
  simp only [List.getElem?_toArray, List.getElem?_cons_zero, List.getElem?_cons_succ] at d0 d1 d2 d3 d4
  have dz := HB.out.lt
  have x0 := HX.out.cell 0
  have x1 := HX.out.cell 1
  have x2 := HX.out.cell 2
  have x3 := HX.out.cell 3
  have x4 := HX.out.cell 4
  simp only [List.getElem?_toArray, List.getElem?_cons_zero, List.getElem?_cons_succ] at x0 x1 x2 x3 x4
  have xz := HX.out.lt
  have m0 := BM5.out.cell 0
  have m1 := BM5.out.cell 1
  have m2 := BM5.out.cell 2
  have m3 := BM5.out.cell 3
  have m4 := BM5.out.cell 4
  simp only [List.getElem?_toArray, List.getElem?_cons_zero, List.getElem?_cons_succ] at m0 m1 m2 m3 m4
  have mz := BM5.out.lt
  have f4 := BM5.out.fro 4
  go_wp2_with fail
  obtain ⟨W6, h6e⟩ : ∃ W6, w5.setCell ⟨w4.heap.size, 4, none⟩ (.slice M5 (m + 1) c5) = W6 := ⟨_, rfl⟩
  have X6 : Ext w3 W6 := by rw [← h6e]; exact X5.set (by dsimp only; omega) _
  have SP6 : SprAt (w5.setCell ⟨w4.heap.size, 4, none⟩ (.slice M5 (m + 1) c5)) SB spr := by
    by_cases hne : spr = []
    · exact fun hx => absurd hne hx
    · obtain ⟨b', o', h1, h2⟩ := hSb hne
      exact SP5.out.other (p := ⟨w4.heap.size, 4, none⟩) (fun b o e he => by
        rw [e] at h1
        injection h1 with h1
        injection h1 with h1
        dsimp only at he
        omega) (.slice M5 (m + 1) c5)
  have OW6 := hOw5.out.otherBlk (p := ⟨w4.heap.size, 4, none⟩) BM5.out (by decide) (.slice M5 (m + 1) c5)
  have BM6 := hid (BM5.out.setAt 4 (.slice M5 (m + 1) c5))
  rw [h6e] at SP6 OW6 BM6 ⊢
  have WI6 := hid (show WIn W6 ⟨spr, most, miss, al, smp ++ [⟨mx, fx⟩]⟩ ⟨SB, sb, M5, c5⟩ from ⟨SP6, OW6.smp⟩)
  clear h6e SP6 OW6 BM5 SP5 hOw5 m0 m1 m2 m3 m4 mz f4 hSb
  replace HB := hid (HB3.out.ext X6)
  replace HX := hid (HX3B.out.ext X6)
  replace E := E3.trans X6
  clear d0 d1 d2 d3 d4 dz x0 x1 x2 x3 x4 xz
  have d0 := HB.out.cell 0
  have d1 := HB.out.cell 1
  have d2 := HB.out.cell 2
  have d3 := HB.out.cell 3
  have d4 := HB.out.cell 4
  simp only [List.getElem?_toArray, List.getElem?_cons_zero, List.getElem?_cons_succ] at d0 d1 d2 d3 d4
  have dz := HB.out.lt
  have x0 := HX.out.cell 0
  have x1 := HX.out.cell 1
  have x2 := HX.out.cell 2
  have x3 := HX.out.cell 3
  have x4 := HX.out.cell 4
  simp only [List.getElem?_toArray, List.getElem?_cons_zero, List.getElem?_cons_succ] at x0 x1 x2 x3 x4
  have xz := HX.out.lt
  cases wb2
  · refine (HKR2.out _ _ E WI6.out).mono ?_
    rintro e w7 ⟨rfl, hE⟩
    have X7 := X6.trans hE
    clear hE WI6 BM6 X5 X6 XV X4V X4 hB1 hB2
    replace HB := hid (HB3.out.ext X7)
    replace HX := hid (HX3B.out.ext X7)
    replace E := E3.trans X7
    clear d0 d1 d2 d3 d4 dz x0 x1 x2 x3 x4 xz
    have d0 := HB.out.cell 0
    have d1 := HB.out.cell 1
    have d2 := HB.out.cell 2
    have d3 := HB.out.cell 3
    have d4 := HB.out.cell 4
    simp only [List.getElem?_toArray, List.getElem?_cons_zero, List.getElem?_cons_succ] at d0 d1 d2 d3 d4
    have dz := HB.out.lt
    have x0 := HX.out.cell 0
    have x1 := HX.out.cell 1
    have x2 := HX.out.cell 2
    have x3 := HX.out.cell 3
    have x4 := HX.out.cell 4
    simp only [List.getElem?_toArray, List.getElem?_cons_zero, List.getElem?_cons_succ] at x0 x1 x2 x3 x4
    have xz := HX.out.lt
    go_wp2_with fail
    refine (HCP.out _ E).mono ?_
    rintro e w8 ⟨⟨SC, sc2, MC, mc2⟩, rfl, hWI, hE⟩
    have X8 := X7.trans hE
    have HWI := hid hWI
    clear hE hWI X7
    dsimp only
    replace HB := hid (HB3.out.ext X8)
    replace HX := hid (HX3B.out.ext X8)
    replace E := E3.trans X8
    clear d0 d1 d2 d3 d4 dz x0 x1 x2 x3 x4 xz
    have d0 := HB.out.cell 0
    have d1 := HB.out.cell 1
    have d2 := HB.out.cell 2
    have d3 := HB.out.cell 3
    have d4 := HB.out.cell 4
    simp only [List.getElem?_toArray, List.getElem?_cons_zero, List.getElem?_cons_succ] at d0 d1 d2 d3 d4
    have dz := HB.out.lt
    have x0 := HX.out.cell 0
    have x1 := HX.out.cell 1
    have x2 := HX.out.cell 2
    have x3 := HX.out.cell 3
    have x4 := HX.out.cell 4
    simp only [List.getElem?_toArray, List.getElem?_cons_zero, List.getElem?_cons_succ] at x0 x1 x2 x3 x4
    have xz := HX.out.lt
    go_wp2_with fail
    obtain ⟨W9, h9e⟩ : ∃ W9, w8.alloc (.cells #[.slice SC n sc2, .int .i64 K1, .int .i64 K2, .int .i64 K3, .slice MC m mc2] 25) = W9 := ⟨_, rfl⟩
    have X89 : Ext w8 W9 := by rw [← h9e]; exact ext_alloc1 _ _
    have BL9 := hid (show Blk W9 w8.heap.size 25 #[.slice SC n sc2, .int .i64 K1, .int .i64 K2, .int .i64 K3, .slice MC m mc2] by rw [← h9e]; exact Blk.new _ _ _)
    rw [h9e]
    obtain ⟨q, hq⟩ : ∃ q, w8.heap.size = q := ⟨_, rfl⟩
    rw [hq] at BL9 ⊢
    have X9 : Ext w3 W9 := X8.trans X89
    have WI9 := hid (show WIn W9 ⟨spr, K1, K2, K3, smp⟩ ⟨SC, sc2, MC, mc2⟩ from ⟨HWI.out.spr.ext X89, HWI.out.smp.ext X89⟩)
    clear h9e hq HWI X8 X89 HCP
    replace HB := hid (HB3.out.ext X9)
    replace HX := hid (HX3B.out.ext X9)
    replace E := E3.trans X9
    clear d0 d1 d2 d3 d4 dz x0 x1 x2 x3 x4 xz
    have d0 := HB.out.cell 0
    have d1 := HB.out.cell 1
    have d2 := HB.out.cell 2
    have d3 := HB.out.cell 3
    have d4 := HB.out.cell 4
    simp only [List.getElem?_toArray, List.getElem?_cons_zero, List.getElem?_cons_succ] at d0 d1 d2 d3 d4
    have dz := HB.out.lt
    have x0 := HX.out.cell 0
    have x1 := HX.out.cell 1
    have x2 := HX.out.cell 2
    have x3 := HX.out.cell 3
    have x4 := HX.out.cell 4
    simp only [List.getElem?_toArray, List.getElem?_cons_zero, List.getElem?_cons_succ] at x0 x1 x2 x3 x4
    have xz := HX.out.lt
    refine (HTP3.out _ _ E WI9.out).mono ?_
    rintro e w10 ⟨v, rfl, hown, hE⟩
    obtain ⟨TB, tb, rfl, hS⟩ := hown.form
    have HJ := hid hS
    have WI := hid (WI9.out.ext hE)
    have BL := hid (BL9.out.ext hE)
    have X10 := X9.trans hE
    have HI10 := hid (HI.out.ext X10)
    clear hown hS WI9 BL9 hE X9 HTP3
    replace HB := hid (HB3.out.ext X10)
    replace HX := hid (HX3B.out.ext X10)
    replace E := E3.trans X10
    clear d0 d1 d2 d3 d4 dz x0 x1 x2 x3 x4 xz
    have d0 := HB.out.cell 0
    have d1 := HB.out.cell 1
    have d2 := HB.out.cell 2
    have d3 := HB.out.cell 3
    have d4 := HB.out.cell 4
    simp only [List.getElem?_toArray, List.getElem?_cons_zero, List.getElem?_cons_succ] at d0 d1 d2 d3 d4
    have dz := HB.out.lt
    have x0 := HX.out.cell 0
    have x1 := HX.out.cell 1
    have x2 := HX.out.cell 2
    have x3 := HX.out.cell 3
    have x4 := HX.out.cell 4
    simp only [List.getElem?_toArray, List.getElem?_cons_zero, List.getElem?_cons_succ] at x0 x1 x2 x3 x4
    have xz := HX.out.lt
    go_wp2_with fail
    go_loopw [14] (fun i wr => Ext w10 wr ∧ ∃ k : Nat, k ≤ tl1.length ∧ i = .int .i64 k) (fun i _ => tl1.length - (intOf i).toNat)
    case atStart => exact ⟨Ext.refl _, 0, Nat.zero_le _, rfl⟩
    case round =>
      obtain ⟨hE, k, hk, rfl⟩ := hrel
      have XR := X10.trans hE
      by_cases hlt : k < tl1.length
      · have hin := HIN3.out k hlt
        obtain ⟨b, off, rfl, hb, c0⟩ := (HI10.out.ext hE).at_ rfl hlt
        generalize tl1.getD k 0 = y at *
        have HIN := hid hin
        clear hin
        go_wp2_with fail
        refine (contains_any TB tb _ tl3 rfl hl2 y _ (HJ.out.ext hE)).mono ?_
        rintro e w11 ⟨rfl, rfl⟩
        rw [HIN.out]
        go_wp2
        go_roundw
        case rel => exact ⟨hE, k + 1, by omega, by go_num⟩
        case measure => simp [intOf]; omega
      · replace HB := hid (HB3.out.ext XR)
        replace HX := hid (HX3B.out.ext XR)
        replace E := E3.trans XR
        clear d0 d1 d2 d3 d4 dz x0 x1 x2 x3 x4 xz
        have d0 := HB.out.cell 0
        have d1 := HB.out.cell 1
        have d2 := HB.out.cell 2
        have d3 := HB.out.cell 3
        have d4 := HB.out.cell 4
        simp only [List.getElem?_toArray, List.getElem?_cons_zero, List.getElem?_cons_succ] at d0 d1 d2 d3 d4
        have dz := HB.out.lt
        have x0 := HX.out.cell 0
        have x1 := HX.out.cell 1
        have x2 := HX.out.cell 2
        have x3 := HX.out.cell 3
        have x4 := HX.out.cell 4
        simp only [List.getElem?_toArray, List.getElem?_cons_zero, List.getElem?_cons_succ] at x0 x1 x2 x3 x4
        have xz := HX.out.lt
        have BLR := hid (BL.out.ext hE)
        have WIR := hid (WI.out.ext hE)
        have l0 := BLR.out.cell 0
        have l1 := BLR.out.cell 1
        have l2 := BLR.out.cell 2
        have l3 := BLR.out.cell 3
        have l4 := BLR.out.cell 4
        simp only [List.getElem?_toArray, List.getElem?_cons_zero, List.getElem?_cons_succ] at l0 l1 l2 l3 l4
        have lz := BLR.out.lt
        go_wp2_with fail
        refine (HCL.out _ E).mono ?_
        rintro e w12 ⟨rfl, hE2⟩
        have XS := XR.trans hE2
        replace HB := hid (HB3.out.ext XS)
        replace HX := hid (HX3B.out.ext XS)
        replace E := E3.trans XS
        clear d0 d1 d2 d3 d4 dz x0 x1 x2 x3 x4 xz
        have d0 := HB.out.cell 0
        have d1 := HB.out.cell 1
        have d2 := HB.out.cell 2
        have d3 := HB.out.cell 3
        have d4 := HB.out.cell 4
        simp only [List.getElem?_toArray, List.getElem?_cons_zero, List.getElem?_cons_succ] at d0 d1 d2 d3 d4
        have dz := HB.out.lt
        have x0 := HX.out.cell 0
        have x1 := HX.out.cell 1
        have x2 := HX.out.cell 2
        have x3 := HX.out.cell 3
        have x4 := HX.out.cell 4
        simp only [List.getElem?_toArray, List.getElem?_cons_zero, List.getElem?_cons_succ] at x0 x1 x2 x3 x4
        have xz := HX.out.lt
        have BLS := hid (BLR.out.ext hE2)
        have WIS := hid (WIR.out.ext hE2)
        clear l0 l1 l2 l3 l4 lz BLR WIR hE2
        have l0 := BLS.out.cell 0
        have l1 := BLS.out.cell 1
        have l2 := BLS.out.cell 2
        have l3 := BLS.out.cell 3
        have l4 := BLS.out.cell 4
        simp only [List.getElem?_toArray, List.getElem?_cons_zero, List.getElem?_cons_succ] at l0 l1 l2 l3 l4
        have lz := BLS.out.lt
        go_wp2_with fail
        refine (HCL3.out _ _ E WIS.out).mono ?_
        rintro e w13 ⟨rfl, hE3⟩
        have E13 : Ext w w13 := E.trans hE3
        go_wp2_with (simp only [hx3])
        refine (HWK.out _ E13).mono ?_
        rintro e w14 ⟨rfl, hE4⟩
        have E14 := E13.trans hE4
        go_wp2
        go_ret
        exact ⟨rfl, E14⟩
  · have hin2 := HIN2.out rfl
    simp only [List.setIfInBounds_toArray, List.set_cons_zero, List.set_cons_succ] at BM6
    obtain rfl | rfl := hE2 rfl
    all_goals
      refine (HKR2.out _ _ E WI6.out).mono ?_
      rintro e w7 ⟨rfl, hE⟩
      have X7 := X6.trans hE
      have WI7 := hid (WI6.out.ext hE)
      have BM7 := hid (BM6.out.ext hE)
      clear hE WI6 BM6 X5 X6 XV X4V X4 hB1 hB2 HKR2
      replace HB := hid (HB3.out.ext X7)
      replace HX := hid (HX3B.out.ext X7)
      replace E := E3.trans X7
      clear d0 d1 d2 d3 d4 dz x0 x1 x2 x3 x4 xz
      have d0 := HB.out.cell 0
      have d1 := HB.out.cell 1
      have d2 := HB.out.cell 2
      have d3 := HB.out.cell 3
      have d4 := HB.out.cell 4
      simp only [List.getElem?_toArray, List.getElem?_cons_zero, List.getElem?_cons_succ] at d0 d1 d2 d3 d4
      have dz := HB.out.lt
      have x0 := HX.out.cell 0
      have x1 := HX.out.cell 1
      have x2 := HX.out.cell 2
      have x3 := HX.out.cell 3
      have x4 := HX.out.cell 4
      simp only [List.getElem?_toArray, List.getElem?_cons_zero, List.getElem?_cons_succ] at x0 x1 x2 x3 x4
      have xz := HX.out.lt
      have m0 := BM7.out.cell 0
      have m1 := BM7.out.cell 1
      have m2 := BM7.out.cell 2
      have m3 := BM7.out.cell 3
      have m4 := BM7.out.cell 4
      simp only [List.getElem?_toArray, List.getElem?_cons_zero, List.getElem?_cons_succ] at m0 m1 m2 m3 m4
      have mz := BM7.out.lt
      go_wp2_with fail
      refine (HTP2.out _ _ E WI7.out).mono ?_
      rintro e w8 ⟨v, rfl, hown, hE⟩
      obtain ⟨TD, td, rfl, hS⟩ := hown.form
      have HK := hid hS
      have X8 := X7.trans hE
      have HI8 := hid (HI.out.ext X8)
      clear hown hS hE HTP2 WI7 BM7 m0 m1 m2 m3 m4 mz X7
      replace HB := hid (HB3.out.ext X8)
      replace HX := hid (HX3B.out.ext X8)
      replace E := E3.trans X8
      clear d0 d1 d2 d3 d4 dz x0 x1 x2 x3 x4 xz
      have d0 := HB.out.cell 0
      have d1 := HB.out.cell 1
      have d2 := HB.out.cell 2
      have d3 := HB.out.cell 3
      have d4 := HB.out.cell 4
      simp only [List.getElem?_toArray, List.getElem?_cons_zero, List.getElem?_cons_succ] at d0 d1 d2 d3 d4
      have dz := HB.out.lt
      have x0 := HX.out.cell 0
      have x1 := HX.out.cell 1
      have x2 := HX.out.cell 2
      have x3 := HX.out.cell 3
      have x4 := HX.out.cell 4
      simp only [List.getElem?_toArray, List.getElem?_cons_zero, List.getElem?_cons_succ] at x0 x1 x2 x3 x4
      have xz := HX.out.lt
      go_wp2_with fail
      go_loopw [10] (fun i wr => Ext w8 wr ∧ ∃ k : Nat, k ≤ tl2.length ∧ i = .int .i64 k) (fun i _ => tl2.length - (intOf i).toNat)
      case atStart => exact ⟨Ext.refl _, 0, Nat.zero_le _, rfl⟩
      case round =>
        obtain ⟨hE, k, hk, rfl⟩ := hrel
        by_cases hlt : k < tl2.length
        · have hin := hin2 k hlt
          obtain ⟨b, off, rfl, hb, c0⟩ := (HK.out.ext hE).at_ rfl hlt
          generalize tl2.getD k 0 = y at *
          have HIN := hid hin
          clear hin hin2
          go_wp2_with fail
          refine (contains_any TA tc _ tl1 rfl hl1 y _ (HI8.out.ext hE)).mono ?_
          rintro e w11 ⟨rfl, rfl⟩
          rw [HIN.out]
          go_wp2
          go_roundw
          case rel => exact ⟨hE, k + 1, by omega, by go_num⟩
          case measure => simp [intOf]; omega
        · have X7 := X8.trans hE
          clear hE X8 hin2 HK HI8
          replace HB := hid (HB3.out.ext X7)
          replace HX := hid (HX3B.out.ext X7)
          replace E := E3.trans X7
          clear d0 d1 d2 d3 d4 dz x0 x1 x2 x3 x4 xz
          have d0 := HB.out.cell 0
          have d1 := HB.out.cell 1
          have d2 := HB.out.cell 2
          have d3 := HB.out.cell 3
          have d4 := HB.out.cell 4
          simp only [List.getElem?_toArray, List.getElem?_cons_zero, List.getElem?_cons_succ] at d0 d1 d2 d3 d4
          have dz := HB.out.lt
          have x0 := HX.out.cell 0
          have x1 := HX.out.cell 1
          have x2 := HX.out.cell 2
          have x3 := HX.out.cell 3
          have x4 := HX.out.cell 4
          simp only [List.getElem?_toArray, List.getElem?_cons_zero, List.getElem?_cons_succ] at x0 x1 x2 x3 x4
          have xz := HX.out.lt
          go_wp2_with fail
          refine (HCP.out _ E).mono ?_
          rintro e w8 ⟨⟨SC, sc2, MC, mc2⟩, rfl, hWI, hE⟩
          have X8 := X7.trans hE
          have HWI := hid hWI
          clear hE hWI X7
          dsimp only
          replace HB := hid (HB3.out.ext X8)
          replace HX := hid (HX3B.out.ext X8)
          replace E := E3.trans X8
          clear d0 d1 d2 d3 d4 dz x0 x1 x2 x3 x4 xz
          have d0 := HB.out.cell 0
          have d1 := HB.out.cell 1
          have d2 := HB.out.cell 2
          have d3 := HB.out.cell 3
          have d4 := HB.out.cell 4
          simp only [List.getElem?_toArray, List.getElem?_cons_zero, List.getElem?_cons_succ] at d0 d1 d2 d3 d4
          have dz := HB.out.lt
          have x0 := HX.out.cell 0
          have x1 := HX.out.cell 1
          have x2 := HX.out.cell 2
          have x3 := HX.out.cell 3
          have x4 := HX.out.cell 4
          simp only [List.getElem?_toArray, List.getElem?_cons_zero, List.getElem?_cons_succ] at x0 x1 x2 x3 x4
          have xz := HX.out.lt
          go_wp2_with fail
          obtain ⟨W9, h9e⟩ : ∃ W9, w8.alloc (.cells #[.slice SC n sc2, .int .i64 K1, .int .i64 K2, .int .i64 K3, .slice MC m mc2] 25) = W9 := ⟨_, rfl⟩
          have X89 : Ext w8 W9 := by rw [← h9e]; exact ext_alloc1 _ _
          have BL9 := hid (show Blk W9 w8.heap.size 25 #[.slice SC n sc2, .int .i64 K1, .int .i64 K2, .int .i64 K3, .slice MC m mc2] by rw [← h9e]; exact Blk.new _ _ _)
          rw [h9e]
          obtain ⟨q, hq⟩ : ∃ q, w8.heap.size = q := ⟨_, rfl⟩
          rw [hq] at BL9 ⊢
          have X9 : Ext w3 W9 := X8.trans X89
          have WI9 := hid (show WIn W9 ⟨spr, K1, K2, K3, smp⟩ ⟨SC, sc2, MC, mc2⟩ from ⟨HWI.out.spr.ext X89, HWI.out.smp.ext X89⟩)
          clear h9e hq HWI X8 X89 HCP
          replace HB := hid (HB3.out.ext X9)
          replace HX := hid (HX3B.out.ext X9)
          replace E := E3.trans X9
          clear d0 d1 d2 d3 d4 dz x0 x1 x2 x3 x4 xz
          have d0 := HB.out.cell 0
          have d1 := HB.out.cell 1
          have d2 := HB.out.cell 2
          have d3 := HB.out.cell 3
          have d4 := HB.out.cell 4
          simp only [List.getElem?_toArray, List.getElem?_cons_zero, List.getElem?_cons_succ] at d0 d1 d2 d3 d4
          have dz := HB.out.lt
          have x0 := HX.out.cell 0
          have x1 := HX.out.cell 1
          have x2 := HX.out.cell 2
          have x3 := HX.out.cell 3
          have x4 := HX.out.cell 4
          simp only [List.getElem?_toArray, List.getElem?_cons_zero, List.getElem?_cons_succ] at x0 x1 x2 x3 x4
          have xz := HX.out.lt
          refine (HTP3.out _ _ E WI9.out).mono ?_
          rintro e w10 ⟨v, rfl, hown, hE⟩
          obtain ⟨TB, tb, rfl, hS⟩ := hown.form
          have HJ := hid hS
          have WI := hid (WI9.out.ext hE)
          have BL := hid (BL9.out.ext hE)
          have X10 := X9.trans hE
          have HI10 := hid (HI.out.ext X10)
          clear hown hS WI9 BL9 hE X9 HTP3
          replace HB := hid (HB3.out.ext X10)
          replace HX := hid (HX3B.out.ext X10)
          replace E := E3.trans X10
          clear d0 d1 d2 d3 d4 dz x0 x1 x2 x3 x4 xz
          have d0 := HB.out.cell 0
          have d1 := HB.out.cell 1
          have d2 := HB.out.cell 2
          have d3 := HB.out.cell 3
          have d4 := HB.out.cell 4
          simp only [List.getElem?_toArray, List.getElem?_cons_zero, List.getElem?_cons_succ] at d0 d1 d2 d3 d4
          have dz := HB.out.lt
          have x0 := HX.out.cell 0
          have x1 := HX.out.cell 1
          have x2 := HX.out.cell 2
          have x3 := HX.out.cell 3
          have x4 := HX.out.cell 4
          simp only [List.getElem?_toArray, List.getElem?_cons_zero, List.getElem?_cons_succ] at x0 x1 x2 x3 x4
          have xz := HX.out.lt
          go_wp2_with fail
          go_loopw [14] (fun i wr => Ext w10 wr ∧ ∃ k : Nat, k ≤ tl1.length ∧ i = .int .i64 k) (fun i _ => tl1.length - (intOf i).toNat)
          case atStart => exact ⟨Ext.refl _, 0, Nat.zero_le _, rfl⟩
          case round =>
            obtain ⟨hE, k, hk, rfl⟩ := hrel
            have XR := X10.trans hE
            by_cases hlt : k < tl1.length
            · have hin := HIN3.out k hlt
              obtain ⟨b, off, rfl, hb, c0⟩ := (HI10.out.ext hE).at_ rfl hlt
              generalize tl1.getD k 0 = y at *
              have HIN := hid hin
              clear hin
              go_wp2_with fail
              refine (contains_any TB tb _ tl3 rfl hl2 y _ (HJ.out.ext hE)).mono ?_
              rintro e w11 ⟨rfl, rfl⟩
              rw [HIN.out]
              go_wp2
              go_roundw
              case rel => exact ⟨hE, k + 1, by omega, by go_num⟩
              case measure => simp [intOf]; omega
            · replace HB := hid (HB3.out.ext XR)
              replace HX := hid (HX3B.out.ext XR)
              replace E := E3.trans XR
              clear d0 d1 d2 d3 d4 dz x0 x1 x2 x3 x4 xz
              have d0 := HB.out.cell 0
              have d1 := HB.out.cell 1
              have d2 := HB.out.cell 2
              have d3 := HB.out.cell 3
              have d4 := HB.out.cell 4
              simp only [List.getElem?_toArray, List.getElem?_cons_zero, List.getElem?_cons_succ] at d0 d1 d2 d3 d4
              have dz := HB.out.lt
              have x0 := HX.out.cell 0
              have x1 := HX.out.cell 1
              have x2 := HX.out.cell 2
              have x3 := HX.out.cell 3
              have x4 := HX.out.cell 4
              simp only [List.getElem?_toArray, List.getElem?_cons_zero, List.getElem?_cons_succ] at x0 x1 x2 x3 x4
              have xz := HX.out.lt
              have BLR := hid (BL.out.ext hE)
              have WIR := hid (WI.out.ext hE)
              have l0 := BLR.out.cell 0
              have l1 := BLR.out.cell 1
              have l2 := BLR.out.cell 2
              have l3 := BLR.out.cell 3
              have l4 := BLR.out.cell 4
              simp only [List.getElem?_toArray, List.getElem?_cons_zero, List.getElem?_cons_succ] at l0 l1 l2 l3 l4
              have lz := BLR.out.lt
              go_wp2_with fail
              refine (HCL.out _ E).mono ?_
              rintro e w12 ⟨rfl, hE2⟩
              have XS := XR.trans hE2
              replace HB := hid (HB3.out.ext XS)
              replace HX := hid (HX3B.out.ext XS)
              replace E := E3.trans XS
              clear d0 d1 d2 d3 d4 dz x0 x1 x2 x3 x4 xz
              have d0 := HB.out.cell 0
              have d1 := HB.out.cell 1
              have d2 := HB.out.cell 2
              have d3 := HB.out.cell 3
              have d4 := HB.out.cell 4
              simp only [List.getElem?_toArray, List.getElem?_cons_zero, List.getElem?_cons_succ] at d0 d1 d2 d3 d4
              have dz := HB.out.lt
              have x0 := HX.out.cell 0
              have x1 := HX.out.cell 1
              have x2 := HX.out.cell 2
              have x3 := HX.out.cell 3
              have x4 := HX.out.cell 4
              simp only [List.getElem?_toArray, List.getElem?_cons_zero, List.getElem?_cons_succ] at x0 x1 x2 x3 x4
              have xz := HX.out.lt
              have BLS := hid (BLR.out.ext hE2)
              have WIS := hid (WIR.out.ext hE2)
              clear l0 l1 l2 l3 l4 lz BLR WIR hE2
              have l0 := BLS.out.cell 0
              have l1 := BLS.out.cell 1
              have l2 := BLS.out.cell 2
              have l3 := BLS.out.cell 3
              have l4 := BLS.out.cell 4
              simp only [List.getElem?_toArray, List.getElem?_cons_zero, List.getElem?_cons_succ] at l0 l1 l2 l3 l4
              have lz := BLS.out.lt
              go_wp2_with fail
              refine (HCL3.out _ _ E WIS.out).mono ?_
              rintro e w13 ⟨rfl, hE3⟩
              have E13 : Ext w w13 := E.trans hE3
              go_wp2_with (simp only [hx3])
              refine (HWK.out _ E13).mono ?_
              rintro e w14 ⟨rfl, hE4⟩
              have E14 := E13.trans hE4
              go_wp2
              go_ret
              exact ⟨rfl, E14⟩
end Go.Proofs.YtcfijidlbimckaaDoor
