/- The elements of a set as a list; Conflict of the program. -/
import Derived.Test.YtcfijidlbimckaaDoorPCon
set_option linter.unusedSimpArgs false
set_option linter.unusedVariables false
namespace Go.Proofs.YtcfijidlbimckaaDoor
open Go.RowKit
attribute [local go_sem] Oper.semAt_some
structure ClInv (w : World) (xs : List Nat) (W : World) : Prop where
  ext : Ext w W
  b0 : ∃ v, Blk W w.heap.size 29 #[v] ∧ OwnI W (w.heap.size + 1) v (xs.map Int.ofNat)
theorem ClInv.step {w W W' : World} {xs : List Nat} (h : ClInv w xs W) (e : Ext W W') : ClInv w xs W' := by
  obtain ⟨h1, v, h2, h3⟩ := h
  exact ⟨h1.trans e, v, h2.ext e, h3.ext e⟩
set_option maxRecDepth 100000 in
set_option maxHeartbeats 4000000 in
theorem appendSeq_any (s : Nat) (hs : s < 18446744073709551616) (w : World) (hT : TabW w) :
    Calls Tryd.prog 72 #[.slice none 0 0, .func (.func 58) #[.int .u64 s] #[]] w fun e w' => ∃ v, e = .returned v ∧ OwnI w' w.heap.size v ((bitsL s).map Int.ofNat) ∧ Ext w w' := by
  have HTW := hid hT
  have HLN := hid (bitsL_len s)
  clear hT
  refine (callsIn_wide (n := 6)).1 ?_
  refine callsIn_of_wp_marks Tryd.func72 rfl trivial ?_ rfl
  simp only [Tryd.ntmps72, List.size_toArray, List.length_cons, List.length_nil, Nat.reduceAdd, Nat.reduceSub, Array.replicate_succ, Array.replicate_zero, List.push_toArray, List.append_toArray, List.nil_append, List.cons_append]
  gi_wp2_with fail
  have HI0 := hid (show ClInv w [] (w.alloc (.cells #[.slice none 0 0] 29)) from ⟨ext_alloc1 _ _, _, Blk.new _ _ _, OwnI.nil _ _⟩)
  obtain ⟨W0, hW0⟩ : ∃ W0, w.alloc (.cells #[.slice none 0 0] 29) = W0 := ⟨_, rfl⟩
  have hz0 : W0.heap.size = w.heap.size + 1 := by rw [← hW0]; simp
  rw [hW0] at HI0 ⊢
  clear hW0
  refine range_slot (enc := encI) (xs := bitsL s) (by omega) rfl (enters_of Tryd.func58 (by kernel_rfl) rfl) (by simp) (elements_gives _ (by omega) s hs)
    (fun pre W => ClInv w pre W)
    ?stays (fun pre W h => HTW.out.ext h.ext) HI0.out ?body ?done
  case stays =>
    rintro pre X Y row ⟨h1, v, h2, h3⟩ hg hr
    exact ⟨own_ext (by omega) h1 hg hr, v, h2.own hg hr, h3.own hg hr⟩
  case body =>
    rintro l pre x suf W hl2 hxs hI
    have hlen : pre.length ≤ 64 := by
      have h := congrArg List.length hxs
      have h1 := HLN.out
      simp at h
      omega
    obtain ⟨k1, v, hv, hown⟩ := hI
    have HV := hid hv
    have HOW := hid hown
    have hz1 := k1.size
    obtain ⟨ys, hys⟩ : ∃ ys, pre.map Int.ofNat = ys := ⟨_, rfl⟩
    have hyl : ys.length ≤ 64 := by rw [← hys, List.length_map]; exact hlen
    have HYS := hid (show (pre ++ [x]).map Int.ofNat = ys ++ [(x : Int)] by rw [List.map_append, hys]; rfl)
    rw [hys] at HOW
    have c0 := hv.cell 0
    have z0 := hv.lt
    simp only [List.getElem?_toArray, List.getElem?_cons_zero] at c0
    clear hv hown HI0 hxs hys
    simp only [encI, List.setIfInBounds_toArray, List.set_cons_zero, List.set_cons_succ]
    gi_wp2_with (gi_at_builtin; refine Halt.mk ?_)
    unfold Halt
    refine appInI _ rfl _ _ rfl (w.heap.size + 1) v ys rfl (HOW.out.ext (ext_alloc1 _ _)) ⟨W.heap.size, 0, none⟩ (x : Int) rfl (blk_cell (blk_last W _) 0) (by omega) (by simp; omega) ?_
    intro v' w5 hown5 hg5
    have HB5 := hid (HOW.out.blkApp HV.out (by omega) hg5)
    have KE := hid (HOW.out.extApp k1 (by omega) hg5)
    have KK := hid (HOW.out.keeps (C := w.heap.size + 1) hg5)
    have c9 := HB5.out.cell 0
    have f9 := HB5.out.fro 0
    have z9 := HB5.out.lt
    obtain ⟨A9, q9, rfl, -⟩ := hown5.form
    have e9 : (ys ++ [(x : Int)]).length = ys.length + 1 := by simp
    rw [e9] at hown5 ⊢
    have HO5 := hid hown5
    simp only [List.getElem?_toArray, List.getElem?_cons_zero] at c9
    clear hown5 hg5 c0 z0 HV HOW
    gi_wp2_with fail
    exact ⟨KK.out.trans (keepsFrom_set _ _ _ _), KE.out.set (by dsimp only; omega) _, _, HB5.out.set _, by rw [HYS.out]; exact OwnI.other (p := ⟨w.heap.size, 0, none⟩) HO5.out (by dsimp only; omega) _⟩
  case done =>
    intro D W hD hI hDk
    obtain ⟨h1, v, h2, h3⟩ := hI
    have c9 := h2.cell 0
    have z9 := h2.lt
    simp only [List.getElem?_toArray, List.getElem?_cons_zero] at c9
    have H3 := hid h3
    have HD := hid hDk
    clear h2 h3 hDk HI0
    gi_wp2_with fail
    refine ⟨by simp, .inl ⟨_, _, rfl, run_takeDeferred (HD.out), ?_⟩⟩
    refine ⟨_, results_tmp rfl _ _ _, ?_⟩
    exact ⟨v, rfl, (H3.out.putObj HD.out rfl _).low (by omega), ext_putObj h1 (by omega)⟩
set_option maxHeartbeats 1000000 in
theorem collect_any (s : Nat) (hs : s < 18446744073709551616) (w : World) (hT : TabW w) :
    Calls Tryd.prog 57 #[.func (.func 58) #[.int .u64 s] #[]] w fun e w' => ∃ v, e = .returned v ∧ OwnI w' w.heap.size v ((bitsL s).map Int.ofNat) ∧ Ext w w' := by
  have HA := hid (appendSeq_any s hs w hT)
  clear hT hs
  go_enter Tryd.func57, Tryd.ntmps57
  go_wp2_with fail
  refine HA.out.mono ?_
  rintro e w2 ⟨v, rfl, hown, hE⟩
  have HO := hid hown
  clear hown
  go_wp2
  go_ret
  exact ⟨_, rfl, HO.out, hE⟩
def conE (d : Wat) : Int := if watB d = true then if conN d = 0 then 3 else 0 else 40
def conI (d : Wat) : List Int := if conE d = 0 then (bitsL (conN d)).map Int.ofNat else []
def ConfIs (d : Wat) (w : World) (e : Ending) (w' : World) : Prop := ∃ v, e = .returned (.tuple #[v, .int .i64 (conE d)]) ∧ OwnI w' w.heap.size v (conI d) ∧ Ext w w'
theorem conN_lt {d : Wat} (hok : WOk d) : conN d < 2 ^ d.smp.length ∧ 2 ^ d.smp.length ≤ 2 ^ 20 := by
  refine ⟨?_, Nat.pow_le_pow_right (by decide) hok.m20⟩
  have hpos : 0 < 2 ^ d.smp.length := Nat.two_pow_pos _
  have h : conL d (List.range d.smp.length) ≤ 2 ^ d.smp.length - 1 := conL_le d _ _
  unfold conN
  split
  · omega
  · exact hpos
set_option maxRecDepth 100000 in
set_option maxHeartbeats 2000000 in
theorem pconf_any (d : Wat) (A : WA) (hn : d.spr.length ≤ 1000) (hm : d.smp.length ≤ 1000) (w : World) (hW : WIn w d A) (hT : TabW w) :
    Calls Tryd.prog 23 #[wval d A] w (ConfIs d w) := by
  have HC := hid (fun (W : World) (hE : Ext w W) => check_any d A hn hm W (hW.ext hE))
  unfold ConfIs conI
  cases hc : watB d
  case false =>
    have he : conE d = 40 := by unfold conE; rw [hc]; rfl
    rw [hc, if_neg (by decide)] at HC
    simp only [he]
    clear hc he
    clear hT hW
    unfold wval at *
    obtain ⟨spr, most, miss, al, smp⟩ := d
    obtain ⟨SA, sc, MA, mc⟩ := A
    unfold wcells at *
    dsimp only at *
    generalize spr.length = n at *
    generalize smp.length = m at *
    go_enter Tryd.func23, Tryd.ntmps23
    go_wp2_with fail
    refine (HC.out _ (by (repeat' (first | with_reducible assumption | with_reducible exact Ext.refl _ | with_reducible refine Ext.alloc ?_ _ | with_reducible refine Ext.set ?_ ?_ _ | with_reducible refine Ext.drew ?_ | with_reducible refine Ext.drewN ?_ _ | with_reducible refine Ext.trans ?_ (by assumption) | (dsimp only; omega))))).mono ?_
    rintro e w2 ⟨rfl, hE⟩
    have E2 : Ext w w2 := by (repeat' (first | with_reducible assumption | with_reducible exact Ext.refl _ | with_reducible refine Ext.alloc ?_ _ | with_reducible refine Ext.set ?_ ?_ _ | with_reducible refine Ext.drew ?_ | with_reducible refine Ext.drewN ?_ _ | with_reducible refine Ext.trans ?_ (by assumption) | (dsimp only; omega)))
    go_wp2
    go_ret2
    exact ⟨_, rfl, OwnI.nil _ _, E2⟩
  have hok := watB_ok hc
  have HCO := hid (fun (W : World) (hE : Ext w W) => contra_any d A (.slice none 0 0) hok W (hW.ext hE) (hT.ext hE))
  have hlt := conN_lt hok
  have HTW := hid hT
  rw [hc, if_pos rfl] at HC
  have he : conE d = if conN d = 0 then 3 else 0 := by unfold conE; rw [hc]; rfl
  simp only [he]
  clear hc he hok
  unfold fval fcells at *
  generalize conN d = c at *
  have BN := hid (Blk.new w 25 (wcells d A))
  clear hT hW
  unfold wval at *
  obtain ⟨spr, most, miss, al, smp⟩ := d
  obtain ⟨SA, sc, MA, mc⟩ := A
  unfold wcells at *
  dsimp only at *
  generalize spr.length = n at *
  generalize smp.length = m at *
  generalize 2 ^ m = z at *
  by_cases h0 : c = 0
  · subst h0
    simp only [if_true]
    go_enter Tryd.func23, Tryd.ntmps23
    go_wp2_with fail
    refine (HC.out _ (by (repeat' (first | with_reducible assumption | with_reducible exact Ext.refl _ | with_reducible refine Ext.alloc ?_ _ | with_reducible refine Ext.set ?_ ?_ _ | with_reducible refine Ext.drew ?_ | with_reducible refine Ext.drewN ?_ _ | with_reducible refine Ext.trans ?_ (by assumption) | (dsimp only; omega))))).mono ?_
    rintro e w2 ⟨rfl, hE⟩
    have E2 : Ext w w2 := by (repeat' (first | with_reducible assumption | with_reducible exact Ext.refl _ | with_reducible refine Ext.alloc ?_ _ | with_reducible refine Ext.set ?_ ?_ _ | with_reducible refine Ext.drew ?_ | with_reducible refine Ext.drewN ?_ _ | with_reducible refine Ext.trans ?_ (by assumption) | (dsimp only; omega)))
    have B2 := hid (BN.out.ext hE)
    have d0 := B2.out.cell 0
    have d1 := B2.out.cell 1
    have d2 := B2.out.cell 2
    have d3 := B2.out.cell 3
    have d4 := B2.out.cell 4
    simp only [List.getElem?_toArray, List.getElem?_cons_zero, List.getElem?_cons_succ] at d0 d1 d2 d3 d4
    have dz := B2.out.lt
    go_wp2_with fail
    refine (HCO.out _ E2).mono ?_
    rintro e w3 ⟨rfl, hE3⟩
    have E3 := E2.trans hE3
    go_wp2
    go_ret2
    exact ⟨_, rfl, OwnI.nil _ _, E3⟩
  · simp only [if_neg h0, if_true]
    have HCL := hid (fun W hT => collect_any c (by omega) W hT)
    obtain ⟨ys, hys⟩ : ∃ ys, (bitsL c).map Int.ofNat = ys := ⟨_, rfl⟩
    rw [hys] at HCL ⊢
    have hi0 : ¬ (c : Int) = 0 := by omega
    clear hys
    go_enter Tryd.func23, Tryd.ntmps23
    go_wp2_with fail
    refine (HC.out _ (by (repeat' (first | with_reducible assumption | with_reducible exact Ext.refl _ | with_reducible refine Ext.alloc ?_ _ | with_reducible refine Ext.set ?_ ?_ _ | with_reducible refine Ext.drew ?_ | with_reducible refine Ext.drewN ?_ _ | with_reducible refine Ext.trans ?_ (by assumption) | (dsimp only; omega))))).mono ?_
    rintro e w2 ⟨rfl, hE⟩
    have E2 : Ext w w2 := by (repeat' (first | with_reducible assumption | with_reducible exact Ext.refl _ | with_reducible refine Ext.alloc ?_ _ | with_reducible refine Ext.set ?_ ?_ _ | with_reducible refine Ext.drew ?_ | with_reducible refine Ext.drewN ?_ _ | with_reducible refine Ext.trans ?_ (by assumption) | (dsimp only; omega)))
    have B2 := hid (BN.out.ext hE)
    have d0 := B2.out.cell 0
    have d1 := B2.out.cell 1
    have d2 := B2.out.cell 2
    have d3 := B2.out.cell 3
    have d4 := B2.out.cell 4
    simp only [List.getElem?_toArray, List.getElem?_cons_zero, List.getElem?_cons_succ] at d0 d1 d2 d3 d4
    have dz := B2.out.lt
    go_wp2_with fail
    refine (HCO.out _ E2).mono ?_
    rintro e w3 ⟨rfl, hE3⟩
    have E3 := E2.trans hE3
    go_wp2_with fail
    refine (HCL.out _ (HTW.out.ext E3)).mono ?_
    rintro e w4 ⟨v, rfl, hown, hE4⟩
    have E4 := E3.trans hE4
    have HO := hid (hown.low E3.size)
    clear hown
    go_wp2
    go_ret2
    exact ⟨_, rfl, HO.out, E4⟩
end Go.Proofs.YtcfijidlbimckaaDoor
