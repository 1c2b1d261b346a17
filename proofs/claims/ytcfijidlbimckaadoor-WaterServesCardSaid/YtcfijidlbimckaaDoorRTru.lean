/- Truths, of the specification. -/
import Derived.Test.YtcfijidlbimckaaDoorRPos
import Derived.Test.YtcfijidlbimckaaDoorTruths
set_option linter.unusedSimpArgs false
set_option linter.unusedVariables false
namespace Go.Proofs.YtcfijidlbimckaaDoor
open Go.RowKit
theorem filter_getD {α : Type} (p : α → Bool) (xs : List α) (d : α) : ((List.range xs.length).filter fun i => p (xs.getD i d)).length = (xs.filter p).length := by
  have h : xs = (List.range xs.length).map fun i => xs.getD i d := by
    refine List.ext_getElem (by simp) fun i h1 h2 => ?_
    simp [List.getD, List.getElem?_eq_getElem h1]
  conv => rhs; rw [h, List.filter_map, List.length_map]
  rfl
theorem posR_eq {d : Wat} (hok : WOk d) {t : Nat} (ht : t < 2 ^ d.spr.length) : posR d d.smp t = posB d (2 ^ d.smp.length - 1) t := by
  have hb := bitsL_full (k := d.smp.length) (by have := hok.m20; omega)
  have h1 : missN d.smp t (bitsL (2 ^ d.smp.length - 1)) = missA t d.smp := by
    rw [hb]; unfold missN missA
    exact filter_getD (missB t) d.smp zeroSmp
  have h2 : alarmN d.smp t (bitsL (2 ^ d.smp.length - 1)) = alarmA t d.smp := by
    rw [hb]; unfold alarmN alarmA
    exact filter_getD (alarmB t) d.smp zeroSmp
  have h3 : wB (t : Int) 0 ((2 ^ d.spr.length - 1 : Nat) : Int) = true := wB_true.2 ⟨by omega, by omega⟩
  unfold posR posB allowB
  rw [h1, h2, h3, Bool.true_and]
def possR (d : Wat) (ss : List Smp) : List Nat := (List.range (2 ^ d.spr.length)).filter (posR d ss)
theorem possR_eq {d : Wat} (hok : WOk d) : possR d d.smp = truthsL d := by
  unfold possR truthsL possL
  exact List.filter_congr fun t ht => posR_eq hok (List.mem_range.1 ht)
set_option maxRecDepth 100000 in
set_option maxHeartbeats 4000000 in
theorem rtruths_any (d : Wat) (A : WA) (ss : List Smp) (QA : Option Addr) (qc : Nat) (hn : d.spr.length ≤ 8) (hm : ss.length ≤ 1000)
    (hmix : ∀ i, i < ss.length → 0 ≤ (ss.getD i zeroSmp).mix ∧ (ss.getD i zeroSmp).mix ≤ 255) (w : World) (hS : SmpAt w QA ss) :
    Calls Tryd.prog 64 #[wval d A, .slice QA ss.length qc] w fun e w' => ∃ v, e = .returned v ∧ OwnI w' w.heap.size v ((possR d ss).map Int.ofNat) ∧ Ext w w' := by
  have HA := hid (fun W => rAll_any d A (by omega) W)
  have HP := hid (fun t ht W (hE : Ext w W) => rPossible_any d A ss QA qc t ht (by omega) hm hmix W (hS.ext hE))
  have HPO := hid (show ∀ k, (List.range (k + 1)).filter (posR d ss) = (List.range k).filter (posR d ss) ++ if posR d ss k = true then [k] else [] from fun k => by
    rw [List.range_succ, List.filter_append, List.filter_cons, List.filter_nil])
  have HLE := hid (show ∀ k, ((List.range k).filter (posR d ss)).length ≤ k from fun k => Nat.le_trans (List.length_filter_le _ _) (by simp))
  have HN := hid (show possR d ss = (List.range (2 ^ d.spr.length)).filter (posR d ss) from rfl)
  rw [HN.out]
  clear HN hmix hS
  generalize posR d ss = pr at *
  generalize ss.length = k0 at *
  have h8 := two8 hn
  have hpos : 0 < 2 ^ d.spr.length := Nat.two_pow_pos _
  unfold wval wcells at *
  obtain ⟨spr, most, miss, al, smp⟩ := d
  obtain ⟨SA, sc, MA, mc⟩ := A
  dsimp only at *
  generalize spr.length = n at *
  generalize smp.length = m at *
  obtain ⟨z, hz⟩ : ∃ z, 2 ^ n - 1 = z := ⟨_, rfl⟩
  rw [hz] at HA h8
  have hz2 : 2 ^ n = z + 1 := by omega
  rw [hz2]
  clear hz hz2 hpos
  go_enter Tryd.func64, Tryd.ntmps64
  go_wp2
  have HQ0 := hid (Blk.new w 25 #[.slice SA n sc, .int .i64 most, .int .i64 miss, .int .i64 al, .slice MA m mc])
  go_loopw [5, 6] (fun v i wr => Ext w wr ∧ Blk wr w.heap.size 25 #[.slice SA n sc, .int .i64 most, .int .i64 miss, .int .i64 al, .slice MA m mc] ∧ ∃ k : Nat, k ≤ z + 1 ∧ i = .int .i64 k ∧ Hid (OwnI wr (w.heap.size + 1) v (((List.range k).filter pr).map Int.ofNat))) (fun _ i _ => z + 1 - (intOf i).toNat)
  case atStart => exact ⟨by (repeat' (first | with_reducible assumption | with_reducible exact Ext.refl _ | with_reducible refine Ext.alloc ?_ _ | with_reducible refine Ext.set ?_ ?_ _ | with_reducible refine Ext.drew ?_ | with_reducible refine Ext.drewN ?_ _ | with_reducible refine Ext.trans ?_ (by assumption) | (dsimp only; omega))), HQ0.out, 0, Nat.zero_le _, rfl, hid (OwnI.nil _ _)⟩
  case round =>
    obtain ⟨hE, hQ, k, hk, rfl, HO⟩ := hrel
    have HQ := hid hQ
    have c0 := hQ.cell 0
    have c1 := hQ.cell 1
    have c2 := hQ.cell 2
    have c3 := hQ.cell 3
    have c4 := hQ.cell 4
    simp only [List.getElem?_toArray, List.getElem?_cons_zero, List.getElem?_cons_succ] at c0 c1 c2 c3 c4
    have z0 := hQ.lt
    clear hQ HQ0
    by_cases hlt : k < z + 1
    · have HPk := hid (HPO.out k)
      have hlk := HLE.out k
      have HPP := hid (fun W hE => HP.out k (by omega) W hE)
      clear HP HPO HLE
      generalize pr k = b at *
      generalize (List.range k).filter pr = ys0 at *
      obtain ⟨ys, hys⟩ : ∃ ys, ys0.map Int.ofNat = ys := ⟨_, rfl⟩
      have hyl : ys.length ≤ 256 := by rw [← hys, List.length_map]; omega
      rw [hys] at HO
      have HYS := hid hys
      clear hys
      obtain ⟨A6, c6, rfl, -⟩ := HO.out.form
      go_wp2_with fail
      refine (HA.out _).mono ?_
      rintro e w2 ⟨rfl, hE2⟩
      have hE02 := hE.trans hE2
      have HQ2 := hid (HQ.out.ext hE2)
      have HO2 := hid (HO.out.ext hE2)
      have d0 := HQ2.out.cell 0
      have d1 := HQ2.out.cell 1
      have d2 := HQ2.out.cell 2
      have d3 := HQ2.out.cell 3
      have d4 := HQ2.out.cell 4
      simp only [List.getElem?_toArray, List.getElem?_cons_zero, List.getElem?_cons_succ] at d0 d1 d2 d3 d4
      have dz := HQ2.out.lt
      clear c0 c1 c2 c3 c4 HO HQ hE2 hE
      go_wp2_with fail
      refine (HPP.out _ hE02).mono ?_
      rintro e w3 ⟨rfl, hE3⟩
      have hE03 := hE02.trans hE3
      have HQ3 := hid (HQ2.out.ext hE3)
      have HO3 := hid (HO2.out.ext hE3)
      have z3 := HQ3.out.lt
      clear d0 d1 d2 d3 d4 HO2 HQ2 hE3
      cases b
      · go_wp2
        go_roundw
        case rel => exact ⟨hE03, HQ3.out, k + 1, by omega, by go_num, hid (by rw [HPk.out]; simp only [Bool.false_eq_true, if_false, List.append_nil, HYS.out]; exact HO3.out)⟩
        case measure => simp [intOf]; omega
      · go_wp2_with (at_builtin; refine Halt.mk ?_)
        unfold Halt
        refine appI _ rfl _ _ rfl (w.heap.size + 1) _ ys rfl (HO3.out.ext (ext_alloc1 _ _)) ⟨w3.heap.size, 0, none⟩ (k : Int) rfl (blk_cell (blk_last w3 _) 0) (by omega) (by have := hE03.size; simp; omega) ?_
        intro v' w5 hown5 hg5
        have HE5 := hid (HO3.out.extApp hE03 (by omega) hg5)
        have HQ5 := hid (HO3.out.blkApp HQ3.out (by omega) hg5)
        have HO5 := hid hown5
        clear hown5 hg5
        go_wp2
        go_roundw
        case rel => exact ⟨HE5.out, HQ5.out, k + 1, by omega, by go_num, hid (by rw [HPk.out]; simp only [if_true, List.map_append, HYS.out]; exact HO5.out)⟩
        case measure => simp [intOf]; omega
    · obtain rfl : k = z + 1 := by omega
      obtain ⟨ys, hys⟩ : ∃ ys, ((List.range (z + 1)).filter pr).map Int.ofNat = ys := ⟨_, rfl⟩
      rw [hys] at HO
      have HYS := hid hys
      clear hys HP HPO HLE
      obtain ⟨A6, c6, rfl, -⟩ := HO.out.form
      go_wp2_with fail
      refine (HA.out _).mono ?_
      rintro e w2 ⟨rfl, hE2⟩
      have hE02 := hE.trans hE2
      have HO2 := hid (HO.out.ext hE2)
      clear c0 c1 c2 c3 c4 HO HQ hE2 hE
      go_wp2
      go_ret
      exact ⟨_, rfl, by rw [HYS.out]; exact HO2.out.low (by omega), hE02⟩
set_option maxRecDepth 100000 in
set_option maxHeartbeats 4000000 in
theorem rTruths_any (d : Wat) (A : WA) (hn : d.spr.length ≤ 30) (hm : d.smp.length ≤ 1000) (w : World) (hW : WIn w d A) :
    Calls Tryd.prog 32 #[wval d A] w fun e w' => ∃ v, e = .returned (.tuple #[v, .int .i64 (watE d)]) ∧ OwnI w' w.heap.size v (tlI d) ∧ Ext w w' := by
  have HC := hid (fun W (hE : Ext w W) => rCheck_any d A hn hm W (hW.ext hE))
  unfold watE tlI
  cases hc : watB d
  case false =>
    rw [hc, if_neg (by decide)] at HC
    simp only [Bool.false_eq_true, if_false]
    clear hW hc
    unfold wval wcells at *
    obtain ⟨spr, most, miss, al, smp⟩ := d
    obtain ⟨SA, sc, MA, mc⟩ := A
    dsimp only at *
    generalize spr.length = n at *
    generalize smp.length = m at *
    go_enter Tryd.func32, Tryd.ntmps32
    go_wp2_with fail
    (go_at_call 22; refine (HC.out _ (by (repeat' (first | with_reducible assumption | with_reducible exact Ext.refl _ | with_reducible refine Ext.alloc ?_ _ | with_reducible refine Ext.set ?_ ?_ _ | with_reducible refine Ext.drew ?_ | with_reducible refine Ext.drewN ?_ _ | with_reducible refine Ext.trans ?_ (by assumption) | (dsimp only; omega))))).mono ?_; rintro e w2 ⟨rfl, hE⟩; (first | (have hK := KC.step (n := w.heap.size + 1) (by with_reducible assumption) hE) | (have hK := KC.step (KC.step (n := w.heap.size + 1) (by with_reducible assumption) (ext_alloc1 _ _)) hE) | (have hK := KC.step (KC.refl (n := w.heap.size + 1) (by simp)) hE)); have hC := hK.cell; have hF := hK.fro; have hX := hK.ext)
    go_wp2
    go_ret2
    exact ⟨_, rfl, OwnI.nil _ _, by (repeat' (first | with_reducible assumption | with_reducible exact Ext.refl _ | with_reducible refine Ext.alloc ?_ _ | with_reducible refine Ext.set ?_ ?_ _ | with_reducible refine Ext.drew ?_ | with_reducible refine Ext.drewN ?_ _ | with_reducible refine Ext.trans ?_ (by assumption) | (dsimp only; omega)))⟩
  have hok := watB_ok hc
  rw [hc, if_pos rfl] at HC
  simp only [if_true]
  have HT := hid (fun W (hE : Ext w W) => rtruths_any d A d.smp A.MA A.mc hok.n8 hm hok.mix255 W (hW.smp.ext hE))
  rw [possR_eq hok] at HT
  clear hW hc hok
  generalize truthsL d = tl at *
  unfold wval wcells at *
  obtain ⟨spr, most, miss, al, smp⟩ := d
  obtain ⟨SA, sc, MA, mc⟩ := A
  dsimp only at *
  generalize spr.length = n at *
  generalize smp.length = m at *
  obtain ⟨ys, hys⟩ : ∃ ys, tl.map Int.ofNat = ys := ⟨_, rfl⟩
  rw [hys] at HT ⊢
  have hnl : tl = [] ↔ ys.length = 0 := by rw [← hys]; simp
  have HNL := hid hnl
  clear hnl hys
  obtain ⟨r, hr⟩ : ∃ r : Int, (if tl = [] then (3 : Int) else 0) = r := ⟨_, rfl⟩
  rw [hr]
  have HR := hid hr
  clear hr
  go_enter Tryd.func32, Tryd.ntmps32
  go_wp2_with fail
  (go_at_call 22; refine (HC.out _ (by (repeat' (first | with_reducible assumption | with_reducible exact Ext.refl _ | with_reducible refine Ext.alloc ?_ _ | with_reducible refine Ext.set ?_ ?_ _ | with_reducible refine Ext.drew ?_ | with_reducible refine Ext.drewN ?_ _ | with_reducible refine Ext.trans ?_ (by assumption) | (dsimp only; omega))))).mono ?_; rintro e w2 ⟨rfl, hE⟩; (first | (have hK := KC.step (n := w.heap.size + 1) (by with_reducible assumption) hE) | (have hK := KC.step (KC.step (n := w.heap.size + 1) (by with_reducible assumption) (ext_alloc1 _ _)) hE) | (have hK := KC.step (KC.refl (n := w.heap.size + 1) (by simp)) hE)); have hC := hK.cell; have hF := hK.fro; have hX := hK.ext)
  have HQ2 := hid ((Blk.new w 25 #[.slice SA n sc, .int .i64 most, .int .i64 miss, .int .i64 al, .slice MA m mc]).ext hE)
  have E2 : Ext w w2 := by (repeat' (first | with_reducible assumption | with_reducible exact Ext.refl _ | with_reducible refine Ext.alloc ?_ _ | with_reducible refine Ext.set ?_ ?_ _ | with_reducible refine Ext.drew ?_ | with_reducible refine Ext.drewN ?_ _ | with_reducible refine Ext.trans ?_ (by assumption) | (dsimp only; omega)))
  have d0 := HQ2.out.cell 0
  have d1 := HQ2.out.cell 1
  have d2 := HQ2.out.cell 2
  have d3 := HQ2.out.cell 3
  have d4 := HQ2.out.cell 4
  simp only [List.getElem?_toArray, List.getElem?_cons_zero, List.getElem?_cons_succ] at d0 d1 d2 d3 d4
  have dz := HQ2.out.lt
  clear hK hC hF hX hE
  go_wp2_with fail
  refine (HT.out _ E2).mono ?_
  rintro e w3 ⟨v, rfl, hown, hE3⟩
  have E3 := E2.trans hE3
  obtain ⟨A6, c6, rfl, -⟩ := hown.form
  have HO3 := hid (hown.low E2.size)
  clear hown hE3
  by_cases h0 : ys.length = 0
  · have HR2 := hid (show r = 3 by rw [← HR.out, if_pos (HNL.out.2 h0)])
    have HY := hid (List.length_eq_zero_iff.1 h0)
    go_wp2
    go_ret2
    exact ⟨_, by rw [HR2.out]; rfl, by rw [HY.out]; exact OwnI.nil _ _, E3⟩
  · have HR2 := hid (show r = 0 by rw [← HR.out, if_neg (fun h => h0 (HNL.out.1 h))])
    go_wp2
    go_ret2
    exact ⟨_, by rw [HR2.out]; rfl, HO3.out, E3⟩
end Go.Proofs.YtcfijidlbimckaaDoor
