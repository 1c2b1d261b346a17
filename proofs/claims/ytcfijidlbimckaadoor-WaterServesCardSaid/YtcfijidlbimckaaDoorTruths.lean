/- Truths, of the program. -/
import Derived.Test.YtcfijidlbimckaaDoorWOk
import Derived.Lib.JoinLaws
import Derived.Laws.MakeOwn
set_option linter.unusedSimpArgs false
set_option linter.unusedVariables false
namespace Go.Proofs.YtcfijidlbimckaaDoor
open Go.RowKit
set_option maxHeartbeats 4000000 in
set_option maxRecDepth 100000 in
theorem truths_any (d : Wat) (A : WA) (hn : d.spr.length ≤ 1000) (hm : d.smp.length ≤ 1000) (w : World) (hW : WIn w d A) (hT : TabW w) :
    Calls Tryd.prog 15 #[wval d A] w fun e w' => ∃ v, e = .returned (.tuple #[v, .int .i64 (watE d)]) ∧ OwnI w' w.heap.size v (tlI d) ∧ Ext w w' := by
  unfold watE tlI
  cases hc : watB d
  case false =>
    have HB := hid (fun (W : World) (hE : Ext w W) => beginN_check d A hn hm hc #[] W (hW.ext hE))
    simp only [Bool.false_eq_true, if_false]
    clear hT hW
    unfold wval at *
    obtain ⟨spr, most, miss, al, smp⟩ := d
    obtain ⟨SA, sc, MA, mc⟩ := A
    unfold wcells at *
    dsimp only at *
    generalize spr.length = n at *
    generalize smp.length = m at *
    go_enter Tryd.func15, Tryd.ntmps15
    go_wp2_with fail
    (go_at_call 43; refine (HB.out _ (by (repeat' (first | with_reducible assumption | with_reducible exact Ext.refl _ | with_reducible refine Ext.alloc ?_ _ | with_reducible refine Ext.set ?_ ?_ _ | with_reducible refine Ext.drew ?_ | with_reducible refine Ext.drewN ?_ _ | with_reducible refine Ext.trans ?_ (by assumption) | (dsimp only; omega))))).mono ?_; rintro e w2 ⟨rfl, hE⟩; (first | (have hK := KC.step (n := w.heap.size + 1) (by with_reducible assumption) hE) | (have hK := KC.step (KC.step (n := w.heap.size + 1) (by with_reducible assumption) (ext_alloc1 _ _)) hE) | (have hK := KC.step (KC.refl (n := w.heap.size + 1) (by simp)) hE)); have hC := hK.cell; have hF := hK.fro; have hX := hK.ext)
    go_wp2
    go_ret2
    exact ⟨_, rfl, OwnI.nil _ _, by (repeat' (first | with_reducible assumption | with_reducible exact Ext.refl _ | with_reducible refine Ext.alloc ?_ _ | with_reducible refine Ext.set ?_ ?_ _ | with_reducible refine Ext.drew ?_ | with_reducible refine Ext.drewN ?_ _ | with_reducible refine Ext.trans ?_ (by assumption) | (dsimp only; omega)))⟩
  simp only [if_true]
  have hok := watB_ok hc
  have HB := hid (fun (W : World) (hE : Ext w W) => beginN_ok d A hok hc #[] W (hW.ext hE) (hT.ext hE) (fun W' _ => nothing_any d A (.slice none 0 0) W'))
  unfold BeginIs fval fcells at HB
  have HLT := hid (truths_lt hok)
  have hlen := truths_len hok
  generalize truthsL d = tl at *
  clear hT hW
  unfold wval at *
  obtain ⟨spr, most, miss, al, smp⟩ := d
  obtain ⟨SA, sc, MA, mc⟩ := A
  unfold wcells at *
  dsimp only at *
  generalize spr.length = n at *
  generalize smp.length = m at *
  by_cases hnil : tl = []
  · rw [if_pos hnil, hnil]
    have HB2 := hid (fun W hE => (HB.out W hE).mono fun e w' h => h.1 hnil)
    clear HB hnil
    go_enter Tryd.func15, Tryd.ntmps15
    go_wp2_with fail
    (go_at_call 43; refine (HB2.out _ (by (repeat' (first | with_reducible assumption | with_reducible exact Ext.refl _ | with_reducible refine Ext.alloc ?_ _ | with_reducible refine Ext.set ?_ ?_ _ | with_reducible refine Ext.drew ?_ | with_reducible refine Ext.drewN ?_ _ | with_reducible refine Ext.trans ?_ (by assumption) | (dsimp only; omega))))).mono ?_; rintro e w2 ⟨rfl, hE⟩; (first | (have hK := KC.step (n := w.heap.size + 1) (by with_reducible assumption) hE) | (have hK := KC.step (KC.step (n := w.heap.size + 1) (by with_reducible assumption) (ext_alloc1 _ _)) hE) | (have hK := KC.step (KC.refl (n := w.heap.size + 1) (by simp)) hE)); have hC := hK.cell; have hF := hK.fro; have hX := hK.ext)
    go_wp2
    go_ret2
    exact ⟨_, rfl, OwnI.nil _ _, by (repeat' (first | with_reducible assumption | with_reducible exact Ext.refl _ | with_reducible refine Ext.alloc ?_ _ | with_reducible refine Ext.set ?_ ?_ _ | with_reducible refine Ext.drew ?_ | with_reducible refine Ext.drewN ?_ _ | with_reducible refine Ext.trans ?_ (by assumption) | (dsimp only; omega)))⟩
  · rw [if_neg hnil]
    have HB2 := hid (fun W hE => (HB.out W hE).mono fun e w' h => h.2 hnil)
    have HN := hid hnil
    clear HB hnil
    go_enter Tryd.func15, Tryd.ntmps15
    go_wp2_with fail
    refine (HB2.out _ (by (repeat' (first | with_reducible assumption | with_reducible exact Ext.refl _ | with_reducible refine Ext.alloc ?_ _ | with_reducible refine Ext.set ?_ ?_ _ | with_reducible refine Ext.drew ?_ | with_reducible refine Ext.drewN ?_ _ | with_reducible refine Ext.trans ?_ (by assumption) | (dsimp only; omega))))).mono ?_
    rintro e w2 ⟨v, rfl, hown, hE⟩
    obtain ⟨TA, tc, rfl, hS⟩ := hown.form
    obtain ⟨k, hk⟩ : ∃ k, tl.length = k := ⟨_, rfl⟩
    rw [hk] at hlen ⊢
    have HK := hid hk
    have E2 : Ext w w2 := by (repeat' (first | with_reducible assumption | with_reducible exact Ext.refl _ | with_reducible refine Ext.alloc ?_ _ | with_reducible refine Ext.set ?_ ?_ _ | with_reducible refine Ext.drew ?_ | with_reducible refine Ext.drewN ?_ _ | with_reducible refine Ext.trans ?_ (by assumption) | (dsimp only; omega)))
    have HS := hid hS
    clear hown hS hk hE
    have hmk : ∀ W : World, (Instr.makeSlice 29 (.int .i64 0) (.int .i64 (k : Int))).run Tryd.prog W = .ok (.slice (some ⟨W.heap.size, 0, none⟩) 0 k) (W.alloc (.cells (madeCells #[.int .i64 0] k) 3)) := fun W =>
      run_make_room 29 3 (.int .i64 0) 8 Tryd.underlying29 infoI rfl .i64 .i64 k (by omega) (by omega) W
    go_wp2
    go_loopw [6, 24] (fun v i wr => Ext w2 wr ∧ ∃ j : Nat, j ≤ k ∧ i = .int .i64 j ∧ Hid (OwnI wr w2.heap.size v ((tl.take j).map Int.ofNat))) (fun _ i _ => k - (intOf i).toNat)
    case atStart =>
      refine ⟨by (repeat' (first | with_reducible assumption | with_reducible exact Ext.refl _ | with_reducible refine Ext.alloc ?_ _ | with_reducible refine Ext.set ?_ ?_ _ | with_reducible refine Ext.drew ?_ | with_reducible refine Ext.drewN ?_ _ | with_reducible refine Ext.trans ?_ (by assumption) | (dsimp only; omega))), 0, Nat.zero_le _, rfl, hid ?_⟩
      have h := World.ownsRow_made (base := w2.heap.size) (e := 3) (size := 1) (w2.alloc (.cells #[.slice SA n sc, .int .i64 most, .int .i64 miss, .int .i64 al, .slice MA m mc, .slice TA k tc] 72)) (madeCells #[.int .i64 0] k) k (by simp) (by unfold maxLen; omega) (by simp [size_madeCells])
      rw [World.size_alloc] at h
      exact h
    case round =>
      obtain ⟨hE, j, hj, rfl, HO⟩ := hrel
      by_cases hlt : j < k
      · obtain ⟨b, off, rfl, hb, c0⟩ := (HS.out.ext hE).at_ HK.out hlt
        have HTK := hid (show (tl.take (j + 1)).map Int.ofNat = (tl.take j).map Int.ofNat ++ [((tl.getD j 0 : Nat) : Int)] by rw [take_snoc tl 0 (by rw [HK.out]; exact hlt), List.map_append]; rfl)
        have htj := HLT.out _ (getD_mem (d := 0) (show j < tl.length by rw [HK.out]; exact hlt))
        generalize tl.getD j 0 = t at *
        obtain ⟨ys, hys⟩ : ∃ ys, (tl.take j).map Int.ofNat = ys := ⟨_, rfl⟩
        have hyl : ys.length ≤ 256 := by rw [← hys, List.length_map, List.length_take]; omega
        rw [hys] at HO HTK
        clear hys
        obtain ⟨A6, c6, rfl, -⟩ := HO.out.form
        go_wp2_with (at_builtin; refine Halt.mk ?_)
        unfold Halt
        refine appI _ rfl _ _ rfl w2.heap.size _ ys rfl (HO.out.ext (ext_alloc1 _ _)) ⟨wr.heap.size, 0, none⟩ (t : Int) rfl (blk_cell (blk_last wr _) 0) (by omega) (by have := hE.size; simp; omega) ?_
        intro v' w5 hown5 hg5
        have HE5 := hid (HO.out.extApp hE (Nat.le_refl _) hg5)
        have HO5 := hid hown5
        clear hown5 hg5
        go_wp2
        go_roundw
        case rel => exact ⟨HE5.out, j + 1, by omega, by go_num, hid (by rw [HTK.out]; exact HO5.out)⟩
        case measure => simp [intOf]; omega
      · have HE := hid (List.take_of_length_le (l := tl) (i := j) (by rw [HK.out]; omega))
        rw [HE.out] at HO
        obtain ⟨A6, c6, rfl, -⟩ := HO.out.form
        go_wp2
        go_ret2
        exact ⟨_, rfl, HO.out.low E2.size, E2.trans hE⟩
end Go.Proofs.YtcfijidlbimckaaDoor
