/- Some, of the specification. -/
import Derived.Test.YtcfijidlbimckaaDoorApp1S
import Derived.Test.YtcfijidlbimckaaDoorConM
set_option linter.unusedSimpArgs false
set_option linter.unusedVariables false
namespace Go.Proofs.YtcfijidlbimckaaDoor
open Go.RowKit
set_option maxHeartbeats 4000000 in
set_option maxRecDepth 100000 in
theorem rSome_any (d : Wat) (A : WA) (is : List Nat) (LA : Option Addr) (lc : Nat) (hm : d.smp.length ≤ 1000) (hl : is.length ≤ 1000) (hi : ∀ k, k < is.length → is.getD k 0 < d.smp.length) (w : World) (hW : WIn w d A) (hI : IntsAt w LA (is.map Int.ofNat)) :
    Calls Tryd.prog 65 #[wval d A, .slice LA is.length lc] w fun e w' => ∃ v, e = .returned v ∧ OwnS w' w.heap.size v (selL d is) ∧ Ext w w' := by
  have HGA := hid (fun k (hk : k < is.length) => natL_at hk)
  have HLM := hid hi
  have HSM := hid hW.smp
  have HI := hid hI
  have HT := hid (fun k (h : k < is.length) => (show selL d (is.take (k + 1)) = selL d (is.take k) ++ [d.smp.getD (is.getD k 0) zeroSmp] by rw [take_snoc is 0 h]; unfold selL; rw [List.map_append]; rfl))
  have HTL := hid (fun k (h : k < is.length) => (show (selL d (is.take k)).length ≤ 1000 by unfold selL; rw [List.length_map, List.length_take]; omega))
  have HT0 := hid (show selL d (is.take 0) = [] from rfl)
  have HTE := hid (show selL d (is.take is.length) = selL d is by rw [List.take_length])
  have hll : (is.map Int.ofNat).length = is.length := List.length_map _
  have BN := hid (Blk.new w 25 (wcells d A))
  clear hi hI hW
  generalize selL d = sel at *
  generalize hLI : is.map Int.ofNat = LI at *
  generalize hle : is.length = len at *
  unfold wval wcells at *
  obtain ⟨spr, most, miss, al, smp⟩ := d
  obtain ⟨SA, sc, MA, mc⟩ := A
  dsimp only at *
  generalize spr.length = n at *
  generalize hsm : smp.length = m at *
  go_enter Tryd.func65, Tryd.ntmps65
  go_wp2_with fail
  obtain ⟨wc, hwc⟩ : ∃ wc, w.alloc (.cells #[.slice SA n sc, .int .i64 most, .int .i64 miss, .int .i64 al, .slice MA m mc] 25) = wc := ⟨_, rfl⟩
  have E : Ext w wc := by rw [← hwc]; exact ext_alloc1 _ _
  have hsz : wc.heap.size = w.heap.size + 1 := by rw [← hwc]; simp
  have HSZ := hid hsz
  rw [hwc] at BN ⊢
  have HB := hid BN.out
  clear hwc BN hsz
  have d0 := HB.out.cell 0
  have d1 := HB.out.cell 1
  have d2 := HB.out.cell 2
  have d3 := HB.out.cell 3
  have d4 := HB.out.cell 4
  simp only [List.getElem?_toArray, List.getElem?_cons_zero, List.getElem?_cons_succ] at d0 d1 d2 d3 d4
  have dz := HB.out.lt
  go_loopw [5, 6] (fun x i wr => Ext wc wr ∧ ∃ (j : Nat), j ≤ len ∧ i = .int .i64 j ∧ Hid (OwnS wr wc.heap.size x (sel (is.take j)))) (fun _ i _ => len - (intOf i).toNat)
  case atStart => exact ⟨Ext.refl _, 0, Nat.zero_le _, rfl, hid (by rw [HT0.out]; exact ⟨rfl, .inl ⟨rfl, rfl⟩⟩)⟩
  case round =>
    obtain ⟨hE, j, hj, rfl, OW⟩ := hrel
    have hs1 := hE.size
    by_cases hlt3 : j < len
    · have hym := HLM.out j hlt3
      have hyg := HGA.out j hlt3
      have hbs := HT.out j hlt3
      have hlen2 := HTL.out j hlt3
      obtain ⟨b, off, rfl, hb, c0⟩ := (HI.out.ext E).at_ hll hlt3
      rw [hyg] at c0
      generalize is.getD j 0 = y at *
      obtain ⟨bs, offs, rfl, hbs2, s0, s1⟩ := (HSM.out.ext E).at_ hsm hym
      generalize smp.getD y zeroSmp = sm at *
      obtain ⟨sx, sf⟩ := sm
      dsimp only at *
      have HO2 := hid hbs
      clear hbs
      generalize sel (is.take j) = ys at *
      obtain ⟨VA, vc, rfl, -⟩ := OW.out.form
      generalize hyl : ys.length = yl at *
      go_wp2_with fail
      refine wp_region_held_drew (S := fun w' => (∀ b o, b < wc.heap.size → w'.cell? ⟨b, o, none⟩ = wc.cell? ⟨b, o, none⟩) ∧ wc.heap.size ≤ w'.heap.size ∧ Ext wc w') (by kernel_rfl) ?hS0 (fun hHeld => ?_)
      case hS0 => exact sK hE.drew
      have XD : Ext wr wr.drew := Ext.drew (Ext.refl _)
      have hEV := hE.trans XD
      replace OW := hid (OW.out.ext XD)
      generalize wr.drew = V at *
      refine wpAnyH_take (i := 0) (oi := _) (v := ?v0na) rfl (by kernel_rfl) (by kernel_rfl) (by kernel_rfl) (fun _ _ _ h => h) (Or.inl ⟨by rfl, ?y0na⟩) (by assumption) ?r0na
      case y0na => (intro w' hSw; (try dsimp only at hSw); go_simp; (try with_reducible rfl))
      try simp only [Act.put, List.getElem_toArray, List.getElem_cons_zero, List.getElem_cons_succ, List.setIfInBounds_toArray, List.set_cons_zero, List.set_cons_succ]
      refine wpAnyH_take (i := 1) (oi := _) (v := ?v1na) rfl (by kernel_rfl) (by kernel_rfl) (by kernel_rfl) (fun _ _ _ h => h) (Or.inl ⟨by rfl, ?y1na⟩) (by assumption) ?r1na
      case y1na => (intro w' hSw; (try dsimp only at hSw); go_simp; (try with_reducible rfl))
      try simp only [Act.put, List.getElem_toArray, List.getElem_cons_zero, List.getElem_cons_succ, List.setIfInBounds_toArray, List.set_cons_zero, List.set_cons_succ]
      refine wpAnyH_take (i := 2) (oi := _) (v := ?v2na) rfl (by kernel_rfl) (by kernel_rfl) (by kernel_rfl) (fun _ _ _ h => h) (Or.inl ⟨by rfl, ?y2na⟩) (by assumption) ?r2na
      case y2na => (intro w' hSw; (try dsimp only at hSw); go_simp; (try with_reducible rfl))
      try simp only [Act.put, List.getElem_toArray, List.getElem_cons_zero, List.getElem_cons_succ, List.setIfInBounds_toArray, List.set_cons_zero, List.set_cons_succ]
      refine wpAnyH_take (i := 3) (oi := _) (v := ?v3na) rfl (by kernel_rfl) (by kernel_rfl) (by kernel_rfl) (fun _ _ _ h => h) (Or.inl ⟨by rfl, ?y3na⟩) (by assumption) ?r3na
      case y3na => (intro w' hSw; (try dsimp only at hSw); go_simp; (try with_reducible rfl))
      try simp only [Act.put, List.getElem_toArray, List.getElem_cons_zero, List.getElem_cons_succ, List.setIfInBounds_toArray, List.set_cons_zero, List.set_cons_succ]
      refine wpAnyH_take (i := 4) (oi := _) (v := ?v4na) rfl (by kernel_rfl) (by kernel_rfl) (by kernel_rfl) (fun _ _ _ h => h) (Or.inl ⟨by rfl, ?y4na⟩) (by assumption) ?r4na
      case y4na => (intro w' hSw; (try dsimp only at hSw); go_simp; (try with_reducible rfl))
      try simp only [Act.put, List.getElem_toArray, List.getElem_cons_zero, List.getElem_cons_succ, List.setIfInBounds_toArray, List.set_cons_zero, List.set_cons_succ]
      refine wpAnyH_take (i := 5) (oi := _) (v := ?v5na) rfl (by kernel_rfl) (by kernel_rfl) (by kernel_rfl) (fun _ _ _ h => h) (Or.inl ⟨by rfl, ?y5na⟩) (by assumption) ?r5na
      case y5na => (intro w' hSw; (try dsimp only at hSw); go_simp; (try with_reducible rfl))
      try simp only [Act.put, List.getElem_toArray, List.getElem_cons_zero, List.getElem_cons_succ, List.setIfInBounds_toArray, List.set_cons_zero, List.set_cons_succ]
      refine wpAnyH_take (i := 6) (oi := _) (v := ?v6na) rfl (by kernel_rfl) (by kernel_rfl) (by kernel_rfl) (fun _ _ _ h => h) (Or.inl ⟨by rfl, ?y6na⟩) (by assumption) ?r6na
      case y6na => (intro w' hSw; (try dsimp only at hSw); go_simp; (try with_reducible rfl))
      try simp only [Act.put, List.getElem_toArray, List.getElem_cons_zero, List.getElem_cons_succ, List.setIfInBounds_toArray, List.set_cons_zero, List.set_cons_succ]
      refine wpAnyH_take (i := 7) (oi := _) (v := ?v7na) rfl (by kernel_rfl) (by kernel_rfl) (by kernel_rfl) (fun _ _ _ h => h) (Or.inl ⟨by rfl, ?y7na⟩) (by assumption) ?r7na
      case y7na => (intro w' hSw; (try dsimp only at hSw); go_simp; (try with_reducible rfl))
      try simp only [Act.put, List.getElem_toArray, List.getElem_cons_zero, List.getElem_cons_succ, List.setIfInBounds_toArray, List.set_cons_zero, List.set_cons_succ]
      refine wpAnyH_take (i := 8) (oi := _) (v := ?v8na) rfl (by kernel_rfl) (by kernel_rfl) (by kernel_rfl) (fun _ _ _ h => h) (Or.inl ⟨by rfl, ?y8na⟩) (by assumption) ?r8na
      case y8na => (intro w' hSw; (try dsimp only at hSw); go_simp; (try with_reducible rfl))
      try simp only [Act.put, List.getElem_toArray, List.getElem_cons_zero, List.getElem_cons_succ, List.setIfInBounds_toArray, List.set_cons_zero, List.set_cons_succ]
      clear hHeld
      refine wpAnyH_ready (rs := [9]) (by kernel_rfl) (by simp) ?_
      refine AllReadyH.cons (o := _) rfl (fun K hK => ?_) AllReadyH.nil
      go_simp
      refine hK.out _ _ (sK (hEV.alloc _)) (fun hHeld => ?_)
      clear hK K
      try simp only [Act.put, List.getElem_toArray, List.getElem_cons_zero, List.getElem_cons_succ, List.setIfInBounds_toArray, List.set_cons_zero, List.set_cons_succ]
      clear hHeld
      refine wpAnyH_ready (rs := [10]) (by kernel_rfl) (by simp) ?_
      refine AllReadyH.cons (o := _) rfl (fun K hK => ?_) AllReadyH.nil
      refine wp_app1S _ _ _ rfl wc.heap.size _ ys rfl (OW.out.ext (ext_alloc1 _ _)) ⟨V.heap.size, 0, none⟩ ⟨sx, sf⟩ rfl (smp_new V ⟨sx, sf⟩) (by omega) (by have := hEV.size; simp; omega) ?_
      intro v' w5 hown5 hg5
      have HE5 := hid (OW.out.extApp hEV (Nat.le_refl _) hg5)
      have OW5 := hid hown5
      refine hK.out _ _ (sK HE5.out) (fun hHeld => ?_)
      clear hK K
      try simp only [Act.put, List.getElem_toArray, List.getElem_cons_zero, List.getElem_cons_succ, List.setIfInBounds_toArray, List.set_cons_zero, List.set_cons_succ]
      refine wpAnyH_take (i := 11) (oi := _) (v := ?v11nb) rfl (by kernel_rfl) (by kernel_rfl) (by kernel_rfl) (fun _ _ _ h => h) (Or.inl ⟨by rfl, ?y11nb⟩) (by assumption) ?r11nb
      case y11nb => (intro w' hSw; (try dsimp only at hSw); go_simp; (try with_reducible rfl))
      try simp only [Act.put, List.getElem_toArray, List.getElem_cons_zero, List.getElem_cons_succ, List.setIfInBounds_toArray, List.set_cons_zero, List.set_cons_succ]
      clear hHeld hown5 hg5
      refine wpAnyH_done (by kernel_rfl) ?_ _
      go_wp2_with fail
      go_roundw
      case rel => exact ⟨HE5.out, j + 1, by omega, by go_num, hid (by rw [HO2.out]; exact OW5.out)⟩
      case measure => simp [intOf]; omega
    · obtain rfl : j = len := by omega
      rw [HTE.out] at OW
      go_wp2
      go_ret
      exact ⟨_, rfl, OW.out.low (by have := HSZ.out; omega), E.trans hE⟩
end Go.Proofs.YtcfijidlbimckaaDoor
