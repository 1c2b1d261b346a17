/- Pure, of the specification. -/
import Derived.Test.YtcfijidlbimckaaDoorPPur
set_option linter.unusedSimpArgs false
set_option linter.unusedVariables false
namespace Go.Proofs.YtcfijidlbimckaaDoor
open Go.RowKit
theorem cleanN_snoc (x : Nat) (tl : List Nat) {k : Nat} (h : k < tl.length) : cleanN x (tl.take (k + 1)) = cleanN x (tl.take k) + if (x &&& tl.getD k 0 == 0) = true then 1 else 0 := by
  unfold cleanN
  rw [take_snoc tl 0 h, List.filter_append, List.length_append, List.filter_cons]
  by_cases hh : (x &&& tl.getD k 0 == 0) = true <;> simp only [hh, if_true, if_false, List.filter_nil] <;> rfl
theorem cleanN_take_le (x : Nat) (tl : List Nat) (k : Nat) : cleanN x (tl.take k) ≤ k := by unfold cleanN; exact Nat.le_trans (List.length_filter_le _ _) (by rw [List.length_take]; omega)
set_option maxHeartbeats 4000000 in
set_option maxRecDepth 100000 in
theorem rPure_any (d : Wat) (A : WA) (x : Int) (hn : d.spr.length ≤ 30) (hm : d.smp.length ≤ 1000) (w : World) (hW : WIn w d A) :
    Calls Tryd.prog 35 #[wval d A, .int .i64 x] w (PureIs d x w) := by
  have HC := hid (fun (W : World) (hE : Ext w W) => rCheck_any d A hn hm W (hW.ext hE))
  have HM := hid (fun (W : World) => rIsMix_any d A x hn W)
  have HT := hid (fun W (hE : Ext w W) => rTruths_any d A hn hm W (hW.ext hE))
  have BN := hid (Blk.new w 25 (wcells d A))
  cases hc : watB d
  case false =>
    rw [PureIs.err (r := 40) (by unfold purE; rw [hc]; rfl) (by decide)]
    rw [hc, if_neg (by decide)] at HC
    clear hW hc HT HM BN
    unfold wval wcells at *
    obtain ⟨spr, most, miss, al, smp⟩ := d
    obtain ⟨SA, sc, MA, mc⟩ := A
    dsimp only at *
    generalize spr.length = n at *
    generalize smp.length = m at *
    go_enter Tryd.func35, Tryd.ntmps35
    go_wp2_with fail
    (go_at_call 22; refine (HC.out _ (by (repeat' (first | with_reducible assumption | with_reducible exact Ext.refl _ | with_reducible refine Ext.alloc ?_ _ | with_reducible refine Ext.set ?_ ?_ _ | with_reducible refine Ext.drew ?_ | with_reducible refine Ext.drewN ?_ _ | with_reducible refine Ext.trans ?_ (by assumption) | (dsimp only; omega))))).mono ?_; rintro e w2 ⟨rfl, hE⟩; (first | (have hK := KC.step (n := w.heap.size + 1) (by with_reducible assumption) hE) | (have hK := KC.step (KC.step (n := w.heap.size + 1) (by with_reducible assumption) (ext_alloc1 _ _)) hE) | (have hK := KC.step (KC.refl (n := w.heap.size + 1) (by simp)) hE)); have hC := hK.cell; have hF := hK.fro; have hX := hK.ext)
    go_wp2
    go_ret3
    exact ⟨rfl, by (repeat' (first | with_reducible assumption | with_reducible exact Ext.refl _ | with_reducible refine Ext.alloc ?_ _ | with_reducible refine Ext.set ?_ ?_ _ | with_reducible refine Ext.drew ?_ | with_reducible refine Ext.drewN ?_ _ | with_reducible refine Ext.trans ?_ (by assumption) | (dsimp only; omega)))⟩
  have hok := watB_ok hc
  rw [hc, if_pos rfl] at HC
  cases hq : mixB d.spr.length x
  case false =>
    rw [PureIs.err (r := 1) (by unfold purE; rw [hc, hq]; rfl) (by decide)]
    rw [hq] at HM
    clear hW hq hc HT hok
    unfold wval wcells at *
    obtain ⟨spr, most, miss, al, smp⟩ := d
    obtain ⟨SA, sc, MA, mc⟩ := A
    dsimp only at *
    generalize spr.length = n at *
    generalize smp.length = m at *
    go_enter Tryd.func35, Tryd.ntmps35
    go_wp2_with fail
    (go_at_call 22; refine (HC.out _ (by (repeat' (first | with_reducible assumption | with_reducible exact Ext.refl _ | with_reducible refine Ext.alloc ?_ _ | with_reducible refine Ext.set ?_ ?_ _ | with_reducible refine Ext.drew ?_ | with_reducible refine Ext.drewN ?_ _ | with_reducible refine Ext.trans ?_ (by assumption) | (dsimp only; omega))))).mono ?_; rintro e w2 ⟨rfl, hE⟩; (first | (have hK := KC.step (n := w.heap.size + 1) (by with_reducible assumption) hE) | (have hK := KC.step (KC.step (n := w.heap.size + 1) (by with_reducible assumption) (ext_alloc1 _ _)) hE) | (have hK := KC.step (KC.refl (n := w.heap.size + 1) (by simp)) hE)); have hC := hK.cell; have hF := hK.fro; have hX := hK.ext)
    have HQ2 := hid (BN.out.ext hE)
    have E2 : Ext w w2 := by (repeat' (first | with_reducible assumption | with_reducible exact Ext.refl _ | with_reducible refine Ext.alloc ?_ _ | with_reducible refine Ext.set ?_ ?_ _ | with_reducible refine Ext.drew ?_ | with_reducible refine Ext.drewN ?_ _ | with_reducible refine Ext.trans ?_ (by assumption) | (dsimp only; omega)))
    have d0 := HQ2.out.cell 0
    have d1 := HQ2.out.cell 1
    have d2 := HQ2.out.cell 2
    have d3 := HQ2.out.cell 3
    have d4 := HQ2.out.cell 4
    simp only [List.getElem?_toArray, List.getElem?_cons_zero, List.getElem?_cons_succ] at d0 d1 d2 d3 d4
    have dz := HQ2.out.lt
    clear hK hC hF hX hE BN
    go_wp2_with fail
    refine (HM.out _).mono ?_
    rintro e w3 ⟨rfl, hE3⟩
    go_wp2
    go_ret3
    exact ⟨rfl, E2.trans hE3⟩
  rw [hq] at HM
  have hx : 1 ≤ x ∧ x ≤ ((2 ^ d.spr.length - 1 : Nat) : Int) := wB_true.1 hq
  have h256 := two8 hok.n8
  obtain ⟨xn, rfl⟩ := Int.eq_ofNat_of_zero_le (show 0 ≤ x by omega)
  by_cases h0 : truthsL d = []
  case pos =>
    rw [PureIs.err (r := 3) (by unfold purE; rw [hc, hq, if_pos h0]; rfl) (by decide)]
    have he : watE d = 3 := by unfold watE; rw [if_pos hc, if_pos h0]
    rw [he] at HT
    clear hW hq hc hok h0 he
    generalize tlI d = tl at *
    unfold wval wcells at *
    obtain ⟨spr, most, miss, al, smp⟩ := d
    obtain ⟨SA, sc, MA, mc⟩ := A
    dsimp only at *
    generalize spr.length = n at *
    generalize smp.length = m at *
    go_enter Tryd.func35, Tryd.ntmps35
    go_wp2_with fail
    (go_at_call 22; refine (HC.out _ (by (repeat' (first | with_reducible assumption | with_reducible exact Ext.refl _ | with_reducible refine Ext.alloc ?_ _ | with_reducible refine Ext.set ?_ ?_ _ | with_reducible refine Ext.drew ?_ | with_reducible refine Ext.drewN ?_ _ | with_reducible refine Ext.trans ?_ (by assumption) | (dsimp only; omega))))).mono ?_; rintro e w2 ⟨rfl, hE⟩; (first | (have hK := KC.step (n := w.heap.size + 1) (by with_reducible assumption) hE) | (have hK := KC.step (KC.step (n := w.heap.size + 1) (by with_reducible assumption) (ext_alloc1 _ _)) hE) | (have hK := KC.step (KC.refl (n := w.heap.size + 1) (by simp)) hE)); have hC := hK.cell; have hF := hK.fro; have hX := hK.ext)
    have HQ2 := hid (BN.out.ext hE)
    have E2 : Ext w w2 := by (repeat' (first | with_reducible assumption | with_reducible exact Ext.refl _ | with_reducible refine Ext.alloc ?_ _ | with_reducible refine Ext.set ?_ ?_ _ | with_reducible refine Ext.drew ?_ | with_reducible refine Ext.drewN ?_ _ | with_reducible refine Ext.trans ?_ (by assumption) | (dsimp only; omega)))
    have d0 := HQ2.out.cell 0
    have d1 := HQ2.out.cell 1
    have d2 := HQ2.out.cell 2
    have d3 := HQ2.out.cell 3
    have d4 := HQ2.out.cell 4
    simp only [List.getElem?_toArray, List.getElem?_cons_zero, List.getElem?_cons_succ] at d0 d1 d2 d3 d4
    have dz := HQ2.out.lt
    clear hK hC hF hX hE BN
    go_wp2_with fail
    refine (HM.out _).mono ?_
    rintro e w3 ⟨rfl, hE3⟩
    have HQ3 := hid (HQ2.out.ext hE3)
    have E3 : Ext w w3 := E2.trans hE3
    clear d0 d1 d2 d3 d4 dz HQ2 hE3 E2
    have d0 := HQ3.out.cell 0
    have d1 := HQ3.out.cell 1
    have d2 := HQ3.out.cell 2
    have d3 := HQ3.out.cell 3
    have d4 := HQ3.out.cell 4
    simp only [List.getElem?_toArray, List.getElem?_cons_zero, List.getElem?_cons_succ] at d0 d1 d2 d3 d4
    have dz := HQ3.out.lt
    go_wp2_with fail
    refine (HT.out _ E3).mono ?_
    rintro e w4 ⟨v, rfl, hown, hE4⟩
    have E4 : Ext w w4 := E3.trans hE4
    obtain ⟨TA, tc, rfl, hS⟩ := hown.form
    have HS4 := hid hS
    clear hown hS hE4 d0 d1 d2 d3 d4 dz HQ3 E3
    go_wp2
    go_ret3
    exact ⟨rfl, E4⟩
  rw [PureIs.ok (by unfold purE; rw [hc, hq, if_neg h0]; rfl)]
  have he : watE d = 0 := by unfold watE; rw [if_pos hc, if_neg h0]
  have ht : tlI d = (truthsL d).map Int.ofNat := by unfold tlI; rw [if_pos hc]
  rw [he, ht] at HT
  have HLT := hid (truths_lt hok)
  have hlen := truths_len hok
  rw [Int.toNat_natCast]
  have hxn : xn < 256 := by omega
  clear hW hq hc hok h0 he ht hx h256
  generalize truthsL d = tl at *
  have HCS := hid (fun k (h : k < tl.length) => cleanN_snoc xn tl h)
  have HCL := hid (fun k => cleanN_take_le xn tl k)
  obtain ⟨k0, hk0⟩ : ∃ k, tl.length = k := ⟨_, rfl⟩
  rw [hk0] at hlen HCS ⊢
  have HK := hid hk0
  have HLM := hid (show (tl.map Int.ofNat).length = k0 by rw [List.length_map, hk0])
  clear hk0
  unfold wval wcells at *
  obtain ⟨spr, most, miss, al, smp⟩ := d
  obtain ⟨SA, sc, MA, mc⟩ := A
  dsimp only at *
  generalize spr.length = n at *
  generalize smp.length = m at *
  go_enter Tryd.func35, Tryd.ntmps35
  go_wp2_with fail
  (go_at_call 22; refine (HC.out _ (by (repeat' (first | with_reducible assumption | with_reducible exact Ext.refl _ | with_reducible refine Ext.alloc ?_ _ | with_reducible refine Ext.set ?_ ?_ _ | with_reducible refine Ext.drew ?_ | with_reducible refine Ext.drewN ?_ _ | with_reducible refine Ext.trans ?_ (by assumption) | (dsimp only; omega))))).mono ?_; rintro e w2 ⟨rfl, hE⟩; (first | (have hK := KC.step (n := w.heap.size + 1) (by with_reducible assumption) hE) | (have hK := KC.step (KC.step (n := w.heap.size + 1) (by with_reducible assumption) (ext_alloc1 _ _)) hE) | (have hK := KC.step (KC.refl (n := w.heap.size + 1) (by simp)) hE)); have hC := hK.cell; have hF := hK.fro; have hX := hK.ext)
  have HQ2 := hid (BN.out.ext hE)
  have E2 : Ext w w2 := by (repeat' (first | with_reducible assumption | with_reducible exact Ext.refl _ | with_reducible refine Ext.alloc ?_ _ | with_reducible refine Ext.set ?_ ?_ _ | with_reducible refine Ext.drew ?_ | with_reducible refine Ext.drewN ?_ _ | with_reducible refine Ext.trans ?_ (by assumption) | (dsimp only; omega)))
  have d0 := HQ2.out.cell 0
  have d1 := HQ2.out.cell 1
  have d2 := HQ2.out.cell 2
  have d3 := HQ2.out.cell 3
  have d4 := HQ2.out.cell 4
  simp only [List.getElem?_toArray, List.getElem?_cons_zero, List.getElem?_cons_succ] at d0 d1 d2 d3 d4
  have dz := HQ2.out.lt
  clear hK hC hF hX hE BN
  go_wp2_with fail
  refine (HM.out _).mono ?_
  rintro e w3 ⟨rfl, hE3⟩
  have HQ3 := hid (HQ2.out.ext hE3)
  have E3 : Ext w w3 := E2.trans hE3
  clear d0 d1 d2 d3 d4 dz HQ2 hE3 E2
  have d0 := HQ3.out.cell 0
  have d1 := HQ3.out.cell 1
  have d2 := HQ3.out.cell 2
  have d3 := HQ3.out.cell 3
  have d4 := HQ3.out.cell 4
  simp only [List.getElem?_toArray, List.getElem?_cons_zero, List.getElem?_cons_succ] at d0 d1 d2 d3 d4
  have dz := HQ3.out.lt
  go_wp2_with fail
  refine (HT.out _ E3).mono ?_
  rintro e w4 ⟨v, rfl, hown, hE4⟩
  have E4 : Ext w w4 := E3.trans hE4
  obtain ⟨TA, tc, rfl, hS⟩ := hown.form
  have HS4 := hid hS
  clear hown hS hE4 d0 d1 d2 d3 d4 dz HQ3 E3
  rw [HLM.out]
  go_wp2
  go_loop [4, 5, 8] (fun a b i => ∃ j : Nat, j ≤ k0 ∧ i = .int .i64 j ∧ a = .bool (decide (cleanN xn (tl.take j) = j)) ∧ b = .bool (decide (0 < cleanN xn (tl.take j)))) (fun _ _ i => k0 - (intOf i).toNat)
  case atStart => exact ⟨0, Nat.zero_le _, rfl, rfl, rfl⟩
  case round =>
    obtain ⟨j, hj, rfl, rfl, rfl⟩ := hrel
    by_cases hlt : j < k0
    · obtain ⟨b, off, rfl, hb, c0⟩ := HS4.out.at_ HLM.out hlt
      have hgd : (tl.map Int.ofNat).getD j 0 = ((tl.getD j 0 : Nat) : Int) := by
        have h1 : j < tl.length := by rw [HK.out]; exact hlt
        simp [List.getD, List.getElem?_eq_getElem h1]
      rw [hgd] at c0
      have HJ := hid (HCS.out j hlt)
      have hl := HCL.out j
      have htj := HLT.out _ (getD_mem (d := 0) (show j < tl.length by rw [HK.out]; exact hlt))
      generalize tl.getD j 0 = t at *
      generalize cleanN xn (tl.take j) = cl at *
      have hand := and_i64 (a := t) (b := xn) (by omega) (by omega)
      rw [Nat.and_comm] at hand
      generalize xn &&& t = y at *
      clear hgd HS4 HCS HCL
      obtain ⟨b1, hb1⟩ : ∃ b, decide (cl = j) = b := ⟨_, rfl⟩
      obtain ⟨b2, hb2⟩ : ∃ b, decide (0 < cl) = b := ⟨_, rfl⟩
      rw [hb1, hb2]
      cases b1 <;> cases b2 <;> cases y
      all_goals
        simp only [decide_eq_true_eq, decide_eq_false_iff_not] at hb1 hb2
        go_wp2_with (simp only [hand])
        go_round
        case rel => exact ⟨j + 1, by omega, by go_num, by rw [HJ.out]; first | (simp; done) | (simp; omega) | (congr 1; rw [Bool.eq_iff_iff]; simp; omega), by rw [HJ.out]; first | (simp; done) | (simp; omega) | (congr 1; rw [Bool.eq_iff_iff]; simp; omega)⟩
        case measure => simp [intOf]; omega
    · obtain rfl : j = k0 := by omega
      have hE1 := hid (List.take_of_length_le (l := tl) (i := j) (by rw [HK.out]; omega))
      rw [hE1.out]
      go_wp2
      go_ret3
      exact ⟨rfl, E4⟩
end Go.Proofs.YtcfijidlbimckaaDoor
