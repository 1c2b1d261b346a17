/- The checks at the beginning of Serve. -/
import Derived.Test.YtcfijidlbimckaaDoorBegin
set_option linter.unusedSimpArgs false
set_option linter.unusedVariables false
namespace Go.Proofs.YtcfijidlbimckaaDoor
open Go.RowKit
set_option maxHeartbeats 2000000
set_option maxRecDepth 100000
theorem beginS_check (d : Wat) (A : WA) (hn : d.spr.length ≤ 1000) (hm : d.smp.length ≤ 1000) (hc : watB d = false) (caps : Array Value) (w : World) (hW : WIn w d A) :
    Calls Tryd.prog 43 #[wval d A, .func (.func 47) #[] caps] w fun e w' => e = .returned (.tuple #[.agg #[.slice none 0 0, .int .i64 0, .int .i64 0, .int .i64 0, .slice none 0 0, .slice none 0 0], .int .i64 40]) ∧ Ext w w' := by
  have HC := hid (fun (W : World) (hE : Ext w W) => check_any d A hn hm W (hW.ext hE))
  rw [hc, if_neg (by decide)] at HC
  clear hW hc
  unfold wval at *
  obtain ⟨spr, most, miss, al, smp⟩ := d
  obtain ⟨SA, sc, MA, mc⟩ := A
  unfold wcells at *
  dsimp only at *
  generalize spr.length = n at *
  generalize smp.length = m at *
  go_enter Tryd.func43, Tryd.ntmps43
  go_wp2_with fail
  (go_at_call 31; refine (HC.out _ (by (repeat' (first | with_reducible assumption | with_reducible exact Ext.refl _ | with_reducible refine Ext.alloc ?_ _ | with_reducible refine Ext.set ?_ ?_ _ | with_reducible refine Ext.drew ?_ | with_reducible refine Ext.drewN ?_ _ | with_reducible refine Ext.trans ?_ (by assumption) | (dsimp only; omega))))).mono ?_; rintro e w2 ⟨rfl, hE⟩; (first | (have hK := KC.step (n := w.heap.size + 2) (by with_reducible assumption) hE) | (have hK := KC.step (KC.step (n := w.heap.size + 2) (by with_reducible assumption) (ext_alloc1 _ _)) hE) | (have hK := KC.step (KC.refl (n := w.heap.size + 2) (by simp)) hE)); have hC := hK.cell; have hF := hK.fro; have hX := hK.ext)
  go_wp2_with fail
  exact bodyPost_ret (v := .tuple #[.agg #[.slice none 0 0, .int .i64 0, .int .i64 0, .int .i64 0, .slice none 0 0, .slice none 0 0], .int .i64 40]) (by simp [results, Tryd.results43, go_sem, hC]) rfl ⟨rfl, by (repeat' (first | with_reducible assumption | with_reducible exact Ext.refl _ | with_reducible refine Ext.alloc ?_ _ | with_reducible refine Ext.set ?_ ?_ _ | with_reducible refine Ext.drew ?_ | with_reducible refine Ext.drewN ?_ _ | with_reducible refine Ext.trans ?_ (by assumption) | (dsimp only; omega)))⟩
theorem beginS_asked (d : Wat) (A : WA) (hn : d.spr.length ≤ 1000) (hm : d.smp.length ≤ 1000) (hc : watB d = true) (caps : Array Value) (w : World) (hW : WIn w d A)
    (hask : ∀ W, Ext w W → Calls Tryd.prog 47 (#[fval d A (.slice none 0 0)] ++ caps) W fun e W' => e = .returned (.bool false) ∧ Ext W W') :
    Calls Tryd.prog 43 #[wval d A, .func (.func 47) #[] caps] w fun e w' => e = .returned (.tuple #[.agg #[.slice none 0 0, .int .i64 0, .int .i64 0, .int .i64 0, .slice none 0 0, .slice none 0 0], .int .i64 1]) ∧ Ext w w' := by
  have HC := hid (fun (W : World) (hE : Ext w W) => check_any d A hn hm W (hW.ext hE))
  have HA := hid hask
  rw [if_pos hc] at HC
  clear hW hc hask
  unfold wval fval at *
  obtain ⟨spr, most, miss, al, smp⟩ := d
  obtain ⟨SA, sc, MA, mc⟩ := A
  unfold wcells fcells at *
  dsimp only at *
  generalize spr.length = n at *
  generalize smp.length = m at *
  go_enter Tryd.func43, Tryd.ntmps43
  go_wp2_with fail
  (go_at_call 31; refine (HC.out _ (by (repeat' (first | with_reducible assumption | with_reducible exact Ext.refl _ | with_reducible refine Ext.alloc ?_ _ | with_reducible refine Ext.set ?_ ?_ _ | with_reducible refine Ext.drew ?_ | with_reducible refine Ext.drewN ?_ _ | with_reducible refine Ext.trans ?_ (by assumption) | (dsimp only; omega))))).mono ?_; rintro e w2 ⟨rfl, hE⟩; (first | (have hK := KC.step (n := w.heap.size + 2) (by with_reducible assumption) hE) | (have hK := KC.step (KC.step (n := w.heap.size + 2) (by with_reducible assumption) (ext_alloc1 _ _)) hE) | (have hK := KC.step (KC.refl (n := w.heap.size + 2) (by simp)) hE)); have hC := hK.cell; have hF := hK.fro; have hX := hK.ext)
  go_wp2_with fail
  refine (HA.out _ (by (repeat' (first | with_reducible assumption | with_reducible exact Ext.refl _ | with_reducible refine Ext.alloc ?_ _ | with_reducible refine Ext.set ?_ ?_ _ | with_reducible refine Ext.drew ?_ | with_reducible refine Ext.drewN ?_ _ | with_reducible refine Ext.trans ?_ (by assumption) | (dsimp only; omega))))).mono ?_
  rintro e w3 ⟨rfl, hE⟩
  (first | (have hK := KC.step (n := w.heap.size + 2) (by with_reducible assumption) hE) | (have hK := KC.step (KC.step (n := w.heap.size + 2) (by with_reducible assumption) (ext_alloc1 _ _)) hE) | (have hK := KC.step (KC.refl (n := w.heap.size + 2) (by simp)) hE)); have hC := hK.cell; have hF := hK.fro; have hX := hK.ext
  go_wp2_with fail
  exact bodyPost_ret (v := .tuple #[.agg #[.slice none 0 0, .int .i64 0, .int .i64 0, .int .i64 0, .slice none 0 0, .slice none 0 0], .int .i64 1]) (by simp [results, Tryd.results43, go_sem, hC]) rfl ⟨rfl, by (repeat' (first | with_reducible assumption | with_reducible exact Ext.refl _ | with_reducible refine Ext.alloc ?_ _ | with_reducible refine Ext.set ?_ ?_ _ | with_reducible refine Ext.drew ?_ | with_reducible refine Ext.drewN ?_ _ | with_reducible refine Ext.trans ?_ (by assumption) | (dsimp only; omega)))⟩
theorem beginS_ok (d : Wat) (A : WA) (hok : WOk d) (hc : watB d = true) (caps : Array Value) (w : World) (hW : WIn w d A) (hT : TabW w)
    (hask : ∀ W, Ext w W → Calls Tryd.prog 47 (#[fval d A (.slice none 0 0)] ++ caps) W fun e W' => e = .returned (.bool true) ∧ Ext W W') :
    Calls Tryd.prog 43 #[wval d A, .func (.func 47) #[] caps] w (BeginIs d A w) := by
  have HC := hid (fun (W : World) (hE : Ext w W) => check_any d A (by have := hok.n8; omega) (by have := hok.m20; omega) W (hW.ext hE))
  have HA := hid hask
  have HSM := hid (fun (W : World) => samples_any d A (.slice none 0 0) (by have := hok.m20; omega) W)
  have HPO := hid (fun (W : World) (hE : Ext w W) => possible_any d A (.slice none 0 0) (2 ^ d.smp.length - 1) hok (by have : 0 < 2 ^ d.smp.length := Nat.two_pow_pos _; omega) W (hT.ext hE) (hW.ext hE))
  rw [if_pos hc] at HC
  have HBI := hid (show BeginIs d A w = fun e w' => (truthsL d = [] → e = .returned (.tuple #[.agg #[.slice none 0 0, .int .i64 0, .int .i64 0, .int .i64 0, .slice none 0 0, .slice none 0 0], .int .i64 3]) ∧ Ext w w') ∧ (truthsL d ≠ [] → ∃ v, e = .returned (.tuple #[fval d A v, .int .i64 0]) ∧ OwnU w' w.heap.size v (truthsL d) ∧ Ext w w') from rfl)
  rw [HBI.out]
  clear hW hc hask hT hok HBI
  have HTL := hid (show possL d (2 ^ d.smp.length - 1) = truthsL d from rfl)
  rw [HTL.out] at HPO
  generalize truthsL d = tl at *
  clear HTL
  unfold wval fval at *
  obtain ⟨spr, most, miss, al, smp⟩ := d
  obtain ⟨SA, sc, MA, mc⟩ := A
  unfold wcells fcells at *
  dsimp only at *
  generalize spr.length = n at *
  generalize smp.length = m at *
  generalize 2 ^ m - 1 = mm at *
  go_enter Tryd.func43, Tryd.ntmps43
  go_wp2_with fail
  (go_at_call 31; refine (HC.out _ (by (repeat' (first | with_reducible assumption | with_reducible exact Ext.refl _ | with_reducible refine Ext.alloc ?_ _ | with_reducible refine Ext.set ?_ ?_ _ | with_reducible refine Ext.drew ?_ | with_reducible refine Ext.drewN ?_ _ | with_reducible refine Ext.trans ?_ (by assumption) | (dsimp only; omega))))).mono ?_; rintro e w2 ⟨rfl, hE⟩; (first | (have hK := KC.step (n := w.heap.size + 2) (by with_reducible assumption) hE) | (have hK := KC.step (KC.step (n := w.heap.size + 2) (by with_reducible assumption) (ext_alloc1 _ _)) hE) | (have hK := KC.step (KC.refl (n := w.heap.size + 2) (by simp)) hE)); have hC := hK.cell; have hF := hK.fro; have hX := hK.ext)
  go_wp2_with fail
  refine (HA.out _ (by (repeat' (first | with_reducible assumption | with_reducible exact Ext.refl _ | with_reducible refine Ext.alloc ?_ _ | with_reducible refine Ext.set ?_ ?_ _ | with_reducible refine Ext.drew ?_ | with_reducible refine Ext.drewN ?_ _ | with_reducible refine Ext.trans ?_ (by assumption) | (dsimp only; omega))))).mono ?_
  rintro e w3 ⟨rfl, hE⟩
  have E3 : Ext w w3 := by (repeat' (first | with_reducible assumption | with_reducible exact Ext.refl _ | with_reducible refine Ext.alloc ?_ _ | with_reducible refine Ext.set ?_ ?_ _ | with_reducible refine Ext.drew ?_ | with_reducible refine Ext.drewN ?_ _ | with_reducible refine Ext.trans ?_ (by assumption) | (dsimp only; omega)))
  have BQ := hid ((Blk.new w2 72 #[.slice SA n sc, .int .i64 most, .int .i64 miss, .int .i64 al, .slice MA m mc, .slice none 0 0]).ext hE)
  have hq : w.heap.size + 2 ≤ w2.heap.size := hK.size
  (first | (have hK := KC.step (n := w.heap.size + 2) (by with_reducible assumption) hE) | (have hK := KC.step (KC.step (n := w.heap.size + 2) (by with_reducible assumption) (ext_alloc1 _ _)) hE) | (have hK := KC.step (KC.refl (n := w.heap.size + 2) (by simp)) hE)); have hC := hK.cell; have hF := hK.fro; have hX := hK.ext
  have BR := hid ((blks2 w (.cells #[.slice SA n sc, .int .i64 most, .int .i64 miss, .int .i64 al, .slice MA m mc] 25) (.cells #[.slice none 0 0, .int .i64 0, .int .i64 0, .int .i64 0, .slice none 0 0, .slice none 0 0] 72)).2)
  replace BR := hid (show Blk w3 (w.heap.size + 1) 72 #[.slice none 0 0, .int .i64 0, .int .i64 0, .int .i64 0, .slice none 0 0, .slice none 0 0] from blk_ext BR.out hX)
  generalize w2.heap.size = q at *
  have c0 := BQ.out.cell 0
  have c1 := BQ.out.cell 1
  have c2 := BQ.out.cell 2
  have c3 := BQ.out.cell 3
  have c4 := BQ.out.cell 4
  have c5 := BQ.out.cell 5
  simp only [List.getElem?_toArray, List.getElem?_cons_zero, List.getElem?_cons_succ] at c0 c1 c2 c3 c4 c5
  go_wp2_with fail
  refine wp_region_held_drew (S := fun _ => True) (by kernel_rfl) ?hS0 (fun hHeld => ?_)
  case hS0 => trivial
  clear hHeld
  refine wpAnyH_ready (rs := [0, 1]) (by kernel_rfl) (by simp) ?_
  refine AllReadyH.cons (o := _) rfl (fun K hK => ?n0) (AllReadyH.cons (o := _) rfl (fun K hK => ?n1) AllReadyH.nil)
  case n0 =>
    go_simp
    refine hK.out _ _ trivial (fun hHeld => ?_)
    clear hK K
    try simp only [Act.put, List.getElem_toArray, List.getElem_cons_zero, List.getElem_cons_succ, List.setIfInBounds_toArray, List.set_cons_zero, List.set_cons_succ]
    clear hHeld
    refine wpAnyH_ready (rs := [1]) (by kernel_rfl) (by simp) ?_
    refine AllReadyH.cons (o := _) rfl (fun K hK => ?_) AllReadyH.nil
    go_simp
    refine hK.out _ _ trivial (fun hHeld => ?_)
    clear hK K
    try simp only [Act.put, List.getElem_toArray, List.getElem_cons_zero, List.getElem_cons_succ, List.setIfInBounds_toArray, List.set_cons_zero, List.set_cons_succ]
    clear hHeld
    refine wpAnyH_ready (rs := [2]) (by kernel_rfl) (by simp) ?_
    refine AllReadyH.cons (o := _) rfl (fun K hK => ?_) AllReadyH.nil
    go_simp
    refine (HSM.out _).mono ?_
    rintro e w4 ⟨rfl, hE4⟩
    dsimp only
    have X4 : Ext w3 w4 := (Ext.drew (Ext.refl w3)).trans hE4
    have B4 := hid (BQ.out.ext X4)
    have d0 := B4.out.cell 0
    have d1 := B4.out.cell 1
    have d2 := B4.out.cell 2
    have d3 := B4.out.cell 3
    have d4 := B4.out.cell 4
    have d5 := B4.out.cell 5
    simp only [List.getElem?_toArray, List.getElem?_cons_zero, List.getElem?_cons_succ] at d0 d1 d2 d3 d4 d5
    refine hK.out _ _ trivial (fun hHeld => ?_)
    clear hK K
    try simp only [Act.put, List.getElem_toArray, List.getElem_cons_zero, List.getElem_cons_succ, List.setIfInBounds_toArray, List.set_cons_zero, List.set_cons_succ]
    clear hHeld hE4
    refine wpAnyH_ready (rs := [3]) (by kernel_rfl) (by simp) ?_
    refine AllReadyH.cons (o := _) rfl (fun K hK => ?_) AllReadyH.nil
    go_simp
    refine (HPO.out _ (E3.trans X4)).mono ?_
    rintro e w5 ⟨v, rfl, hown, hE5⟩
    dsimp only
    refine hK.out _ _ trivial (fun hHeld => ?_)
    clear hK K
    try simp only [Act.put, List.getElem_toArray, List.getElem_cons_zero, List.getElem_cons_succ, List.setIfInBounds_toArray, List.set_cons_zero, List.set_cons_succ]
    clear hHeld
    obtain ⟨TA, tc, rfl, -⟩ := hown.form
    obtain ⟨k, hk⟩ : ∃ k, tl.length = k := ⟨_, rfl⟩
    rw [hk] at hown ⊢
    have HO := hid hown
    have X5 : Ext w3 w5 := X4.trans hE5
    have B5 := hid (BQ.out.ext X5)
    have zq := B5.out.lt
    have q5 := B5.out.cell 5
    have f5 := B5.out.fro 5
    simp only [List.getElem?_toArray, List.getElem?_cons_zero, List.getElem?_cons_succ] at q5
    have HK := hid hk
    have hqw4 : q < w4.heap.size := B4.out.lt
    clear hown hk hE5
    refine wpAnyH_ready (rs := [4]) (by kernel_rfl) (by simp) ?_
    refine AllReadyH.cons (o := _) rfl (fun K hK => ?_) AllReadyH.nil
    go_simp
    refine hK.out _ _ trivial (fun hHeld => ?_)
    clear hK K
    try simp only [Act.put, List.getElem_toArray, List.getElem_cons_zero, List.getElem_cons_succ, List.setIfInBounds_toArray, List.set_cons_zero, List.set_cons_succ]
    clear hHeld
    refine wpAnyH_ready (rs := [5]) (by kernel_rfl) (by simp) ?_
    refine AllReadyH.cons (o := _) rfl (fun K hK => ?_) AllReadyH.nil
    go_simp
    refine hK.out _ _ trivial (fun hHeld => ?_)
    clear hK K
    try simp only [Act.put, List.getElem_toArray, List.getElem_cons_zero, List.getElem_cons_succ, List.setIfInBounds_toArray, List.set_cons_zero, List.set_cons_succ]
    clear hHeld
    refine wpAnyH_done (by kernel_rfl) ?_ _
    have B6 := hid (B5.out.setAt 5 (.slice TA k tc))
    have R6 := hid ((BR.out.ext X5).other (p := ⟨q, 5, none⟩) (by dsimp only; omega) (.slice TA k tc))
    have E6 : Ext w (w5.setCell ⟨q, 5, none⟩ (.slice TA k tc)) := (E3.trans X5).set (by dsimp only; omega) _
    have O6 := hid (HO.out.other (p := ⟨q, 5, none⟩) (by dsimp only; omega) (.slice TA k tc))
    have hb4 : w.heap.size ≤ w4.heap.size := (E3.trans X4).size
    obtain ⟨W6, hW6⟩ : ∃ W6, w5.setCell ⟨q, 5, none⟩ (.slice TA k tc) = W6 := ⟨_, rfl⟩
    rw [hW6] at B6 R6 E6 O6 ⊢
    clear hW6 B5 HO q5 f5 zq X5 c0 c1 c2 c3 c4 c5 d0 d1 d2 d3 d4 d5 X4 B4
    have e0 := B6.out.cell 0
    have e1 := B6.out.cell 1
    have e2 := B6.out.cell 2
    have e3 := B6.out.cell 3
    have e4 := B6.out.cell 4
    have e5 := B6.out.cell 5
    have r0 := R6.out.cell 0
    have r1 := R6.out.cell 1
    have r2 := R6.out.cell 2
    have r3 := R6.out.cell 3
    have r4 := R6.out.cell 4
    have r5 := R6.out.cell 5
    have g0 := R6.out.fro 0
    have g1 := R6.out.fro 1
    have g2 := R6.out.fro 2
    have g3 := R6.out.fro 3
    have g4 := R6.out.fro 4
    have g5 := R6.out.fro 5
    have zr := R6.out.lt
    simp only [List.getElem?_toArray, List.getElem?_cons_zero, List.getElem?_cons_succ, List.setIfInBounds_toArray, List.set_cons_zero, List.set_cons_succ] at e0 e1 e2 e3 e4 e5 r0 r1 r2 r3 r4 r5
    by_cases hk0 : k = 0
    · subst hk0
      have HNIL := hid (List.length_eq_zero_iff.1 HK.out)
      go_wp2_with fail
      refine bodyPost_ret (v := .tuple #[.agg #[.slice none 0 0, .int .i64 0, .int .i64 0, .int .i64 0, .slice none 0 0, .slice none 0 0], .int .i64 3]) (by simp [results, Tryd.results43, go_sem, r0, r1, r2, r3, r4, r5]) rfl ⟨fun _ => ⟨rfl, by (repeat' (first | with_reducible assumption | with_reducible exact Ext.refl _ | with_reducible refine Ext.alloc ?_ _ | with_reducible refine Ext.set ?_ ?_ _ | with_reducible refine Ext.drew ?_ | with_reducible refine Ext.drewN ?_ _ | with_reducible refine Ext.trans ?_ (by assumption) | (dsimp only; omega)))⟩, fun h => absurd HNIL.out h⟩
    · have HNE := hid (show tl ≠ [] by rintro rfl; exact hk0 HK.out.symm)
      go_wp2_with fail
      refine bodyPost_ret (v := .tuple #[.agg #[.slice SA n sc, .int .i64 most, .int .i64 miss, .int .i64 al, .slice MA m mc, .slice TA k tc], .int .i64 0]) (by simp [results, Tryd.results43, go_sem, r0, r1, r2, r3, r4, r5]) rfl
        ⟨fun h => absurd h HNE.out, fun _ => ⟨.slice TA k tc, rfl, OwnU.low (B := w4.heap.size) ?_ hb4, by (repeat' (first | with_reducible assumption | with_reducible exact Ext.refl _ | with_reducible refine Ext.alloc ?_ _ | with_reducible refine Ext.set ?_ ?_ _ | with_reducible refine Ext.drew ?_ | with_reducible refine Ext.drewN ?_ _ | with_reducible refine Ext.trans ?_ (by assumption) | (dsimp only; omega)))⟩⟩
      have hz4 : w.heap.size + 1 < w4.heap.size := by omega
      exact (((((O6.out.other (p := ⟨w.heap.size + 1, _, none⟩) hz4 _).other (p := ⟨w.heap.size + 1, _, none⟩) hz4 _).other (p := ⟨w.heap.size + 1, _, none⟩) hz4 _).other (p := ⟨w.heap.size + 1, _, none⟩) hz4 _).other (p := ⟨w.heap.size + 1, _, none⟩) hz4 _).other (p := ⟨w.heap.size + 1, _, none⟩) hz4 _
  case n1 =>
    go_simp
    refine hK.out _ _ trivial (fun hHeld => ?_)
    clear hK K
    try simp only [Act.put, List.getElem_toArray, List.getElem_cons_zero, List.getElem_cons_succ, List.setIfInBounds_toArray, List.set_cons_zero, List.set_cons_succ]
    clear hHeld
    refine wpAnyH_ready (rs := [0, 2]) (by kernel_rfl) (by simp) ?_
    refine AllReadyH.cons (o := _) rfl (fun K hK => ?n10) (AllReadyH.cons (o := _) rfl (fun K hK => ?n12) AllReadyH.nil)
    case n10 =>
      go_simp
      refine hK.out _ _ trivial (fun hHeld => ?_)
      clear hK K
      try simp only [Act.put, List.getElem_toArray, List.getElem_cons_zero, List.getElem_cons_succ, List.setIfInBounds_toArray, List.set_cons_zero, List.set_cons_succ]
      clear hHeld
      refine wpAnyH_ready (rs := [2]) (by kernel_rfl) (by simp) ?_
      refine AllReadyH.cons (o := _) rfl (fun K hK => ?_) AllReadyH.nil
      go_simp
      refine (HSM.out _).mono ?_
      rintro e w4 ⟨rfl, hE4⟩
      dsimp only
      have X4 : Ext w3 w4 := (Ext.drew (Ext.refl w3)).trans hE4
      have B4 := hid (BQ.out.ext X4)
      have d0 := B4.out.cell 0
      have d1 := B4.out.cell 1
      have d2 := B4.out.cell 2
      have d3 := B4.out.cell 3
      have d4 := B4.out.cell 4
      have d5 := B4.out.cell 5
      simp only [List.getElem?_toArray, List.getElem?_cons_zero, List.getElem?_cons_succ] at d0 d1 d2 d3 d4 d5
      refine hK.out _ _ trivial (fun hHeld => ?_)
      clear hK K
      try simp only [Act.put, List.getElem_toArray, List.getElem_cons_zero, List.getElem_cons_succ, List.setIfInBounds_toArray, List.set_cons_zero, List.set_cons_succ]
      clear hHeld hE4
      refine wpAnyH_ready (rs := [3]) (by kernel_rfl) (by simp) ?_
      refine AllReadyH.cons (o := _) rfl (fun K hK => ?_) AllReadyH.nil
      go_simp
      refine (HPO.out _ (E3.trans X4)).mono ?_
      rintro e w5 ⟨v, rfl, hown, hE5⟩
      dsimp only
      refine hK.out _ _ trivial (fun hHeld => ?_)
      clear hK K
      try simp only [Act.put, List.getElem_toArray, List.getElem_cons_zero, List.getElem_cons_succ, List.setIfInBounds_toArray, List.set_cons_zero, List.set_cons_succ]
      clear hHeld
      obtain ⟨TA, tc, rfl, -⟩ := hown.form
      obtain ⟨k, hk⟩ : ∃ k, tl.length = k := ⟨_, rfl⟩
      rw [hk] at hown ⊢
      have HO := hid hown
      have X5 : Ext w3 w5 := X4.trans hE5
      have B5 := hid (BQ.out.ext X5)
      have zq := B5.out.lt
      have q5 := B5.out.cell 5
      have f5 := B5.out.fro 5
      simp only [List.getElem?_toArray, List.getElem?_cons_zero, List.getElem?_cons_succ] at q5
      have HK := hid hk
      have hqw4 : q < w4.heap.size := B4.out.lt
      clear hown hk hE5
      refine wpAnyH_ready (rs := [4]) (by kernel_rfl) (by simp) ?_
      refine AllReadyH.cons (o := _) rfl (fun K hK => ?_) AllReadyH.nil
      go_simp
      refine hK.out _ _ trivial (fun hHeld => ?_)
      clear hK K
      try simp only [Act.put, List.getElem_toArray, List.getElem_cons_zero, List.getElem_cons_succ, List.setIfInBounds_toArray, List.set_cons_zero, List.set_cons_succ]
      clear hHeld
      refine wpAnyH_ready (rs := [5]) (by kernel_rfl) (by simp) ?_
      refine AllReadyH.cons (o := _) rfl (fun K hK => ?_) AllReadyH.nil
      go_simp
      refine hK.out _ _ trivial (fun hHeld => ?_)
      clear hK K
      try simp only [Act.put, List.getElem_toArray, List.getElem_cons_zero, List.getElem_cons_succ, List.setIfInBounds_toArray, List.set_cons_zero, List.set_cons_succ]
      clear hHeld
      refine wpAnyH_done (by kernel_rfl) ?_ _
      have B6 := hid (B5.out.setAt 5 (.slice TA k tc))
      have R6 := hid ((BR.out.ext X5).other (p := ⟨q, 5, none⟩) (by dsimp only; omega) (.slice TA k tc))
      have E6 : Ext w (w5.setCell ⟨q, 5, none⟩ (.slice TA k tc)) := (E3.trans X5).set (by dsimp only; omega) _
      have O6 := hid (HO.out.other (p := ⟨q, 5, none⟩) (by dsimp only; omega) (.slice TA k tc))
      have hb4 : w.heap.size ≤ w4.heap.size := (E3.trans X4).size
      obtain ⟨W6, hW6⟩ : ∃ W6, w5.setCell ⟨q, 5, none⟩ (.slice TA k tc) = W6 := ⟨_, rfl⟩
      rw [hW6] at B6 R6 E6 O6 ⊢
      clear hW6 B5 HO q5 f5 zq X5 c0 c1 c2 c3 c4 c5 d0 d1 d2 d3 d4 d5 X4 B4
      have e0 := B6.out.cell 0
      have e1 := B6.out.cell 1
      have e2 := B6.out.cell 2
      have e3 := B6.out.cell 3
      have e4 := B6.out.cell 4
      have e5 := B6.out.cell 5
      have r0 := R6.out.cell 0
      have r1 := R6.out.cell 1
      have r2 := R6.out.cell 2
      have r3 := R6.out.cell 3
      have r4 := R6.out.cell 4
      have r5 := R6.out.cell 5
      have g0 := R6.out.fro 0
      have g1 := R6.out.fro 1
      have g2 := R6.out.fro 2
      have g3 := R6.out.fro 3
      have g4 := R6.out.fro 4
      have g5 := R6.out.fro 5
      have zr := R6.out.lt
      simp only [List.getElem?_toArray, List.getElem?_cons_zero, List.getElem?_cons_succ, List.setIfInBounds_toArray, List.set_cons_zero, List.set_cons_succ] at e0 e1 e2 e3 e4 e5 r0 r1 r2 r3 r4 r5
      by_cases hk0 : k = 0
      · subst hk0
        have HNIL := hid (List.length_eq_zero_iff.1 HK.out)
        go_wp2_with fail
        refine bodyPost_ret (v := .tuple #[.agg #[.slice none 0 0, .int .i64 0, .int .i64 0, .int .i64 0, .slice none 0 0, .slice none 0 0], .int .i64 3]) (by simp [results, Tryd.results43, go_sem, r0, r1, r2, r3, r4, r5]) rfl ⟨fun _ => ⟨rfl, by (repeat' (first | with_reducible assumption | with_reducible exact Ext.refl _ | with_reducible refine Ext.alloc ?_ _ | with_reducible refine Ext.set ?_ ?_ _ | with_reducible refine Ext.drew ?_ | with_reducible refine Ext.drewN ?_ _ | with_reducible refine Ext.trans ?_ (by assumption) | (dsimp only; omega)))⟩, fun h => absurd HNIL.out h⟩
      · have HNE := hid (show tl ≠ [] by rintro rfl; exact hk0 HK.out.symm)
        go_wp2_with fail
        refine bodyPost_ret (v := .tuple #[.agg #[.slice SA n sc, .int .i64 most, .int .i64 miss, .int .i64 al, .slice MA m mc, .slice TA k tc], .int .i64 0]) (by simp [results, Tryd.results43, go_sem, r0, r1, r2, r3, r4, r5]) rfl
          ⟨fun h => absurd h HNE.out, fun _ => ⟨.slice TA k tc, rfl, OwnU.low (B := w4.heap.size) ?_ hb4, by (repeat' (first | with_reducible assumption | with_reducible exact Ext.refl _ | with_reducible refine Ext.alloc ?_ _ | with_reducible refine Ext.set ?_ ?_ _ | with_reducible refine Ext.drew ?_ | with_reducible refine Ext.drewN ?_ _ | with_reducible refine Ext.trans ?_ (by assumption) | (dsimp only; omega)))⟩⟩
        have hz4 : w.heap.size + 1 < w4.heap.size := by omega
        exact (((((O6.out.other (p := ⟨w.heap.size + 1, _, none⟩) hz4 _).other (p := ⟨w.heap.size + 1, _, none⟩) hz4 _).other (p := ⟨w.heap.size + 1, _, none⟩) hz4 _).other (p := ⟨w.heap.size + 1, _, none⟩) hz4 _).other (p := ⟨w.heap.size + 1, _, none⟩) hz4 _).other (p := ⟨w.heap.size + 1, _, none⟩) hz4 _
    case n12 =>
      go_simp
      refine (HSM.out _).mono ?_
      rintro e w4 ⟨rfl, hE4⟩
      dsimp only
      have X4 : Ext w3 w4 := (Ext.drew (Ext.refl w3)).trans hE4
      have B4 := hid (BQ.out.ext X4)
      have d0 := B4.out.cell 0
      have d1 := B4.out.cell 1
      have d2 := B4.out.cell 2
      have d3 := B4.out.cell 3
      have d4 := B4.out.cell 4
      have d5 := B4.out.cell 5
      simp only [List.getElem?_toArray, List.getElem?_cons_zero, List.getElem?_cons_succ] at d0 d1 d2 d3 d4 d5
      refine hK.out _ _ trivial (fun hHeld => ?_)
      clear hK K
      try simp only [Act.put, List.getElem_toArray, List.getElem_cons_zero, List.getElem_cons_succ, List.setIfInBounds_toArray, List.set_cons_zero, List.set_cons_succ]
      clear hHeld hE4
      refine wpAnyH_ready (rs := [0]) (by kernel_rfl) (by simp) ?_
      refine AllReadyH.cons (o := _) rfl (fun K hK => ?_) AllReadyH.nil
      go_simp
      refine hK.out _ _ trivial (fun hHeld => ?_)
      clear hK K
      try simp only [Act.put, List.getElem_toArray, List.getElem_cons_zero, List.getElem_cons_succ, List.setIfInBounds_toArray, List.set_cons_zero, List.set_cons_succ]
      clear hHeld
      refine wpAnyH_ready (rs := [3]) (by kernel_rfl) (by simp) ?_
      refine AllReadyH.cons (o := _) rfl (fun K hK => ?_) AllReadyH.nil
      go_simp
      refine (HPO.out _ (E3.trans X4)).mono ?_
      rintro e w5 ⟨v, rfl, hown, hE5⟩
      dsimp only
      refine hK.out _ _ trivial (fun hHeld => ?_)
      clear hK K
      try simp only [Act.put, List.getElem_toArray, List.getElem_cons_zero, List.getElem_cons_succ, List.setIfInBounds_toArray, List.set_cons_zero, List.set_cons_succ]
      clear hHeld
      obtain ⟨TA, tc, rfl, -⟩ := hown.form
      obtain ⟨k, hk⟩ : ∃ k, tl.length = k := ⟨_, rfl⟩
      rw [hk] at hown ⊢
      have HO := hid hown
      have X5 : Ext w3 w5 := X4.trans hE5
      have B5 := hid (BQ.out.ext X5)
      have zq := B5.out.lt
      have q5 := B5.out.cell 5
      have f5 := B5.out.fro 5
      simp only [List.getElem?_toArray, List.getElem?_cons_zero, List.getElem?_cons_succ] at q5
      have HK := hid hk
      have hqw4 : q < w4.heap.size := B4.out.lt
      clear hown hk hE5
      refine wpAnyH_ready (rs := [4]) (by kernel_rfl) (by simp) ?_
      refine AllReadyH.cons (o := _) rfl (fun K hK => ?_) AllReadyH.nil
      go_simp
      refine hK.out _ _ trivial (fun hHeld => ?_)
      clear hK K
      try simp only [Act.put, List.getElem_toArray, List.getElem_cons_zero, List.getElem_cons_succ, List.setIfInBounds_toArray, List.set_cons_zero, List.set_cons_succ]
      clear hHeld
      refine wpAnyH_ready (rs := [5]) (by kernel_rfl) (by simp) ?_
      refine AllReadyH.cons (o := _) rfl (fun K hK => ?_) AllReadyH.nil
      go_simp
      refine hK.out _ _ trivial (fun hHeld => ?_)
      clear hK K
      try simp only [Act.put, List.getElem_toArray, List.getElem_cons_zero, List.getElem_cons_succ, List.setIfInBounds_toArray, List.set_cons_zero, List.set_cons_succ]
      clear hHeld
      refine wpAnyH_done (by kernel_rfl) ?_ _
      have B6 := hid (B5.out.setAt 5 (.slice TA k tc))
      have R6 := hid ((BR.out.ext X5).other (p := ⟨q, 5, none⟩) (by dsimp only; omega) (.slice TA k tc))
      have E6 : Ext w (w5.setCell ⟨q, 5, none⟩ (.slice TA k tc)) := (E3.trans X5).set (by dsimp only; omega) _
      have O6 := hid (HO.out.other (p := ⟨q, 5, none⟩) (by dsimp only; omega) (.slice TA k tc))
      have hb4 : w.heap.size ≤ w4.heap.size := (E3.trans X4).size
      obtain ⟨W6, hW6⟩ : ∃ W6, w5.setCell ⟨q, 5, none⟩ (.slice TA k tc) = W6 := ⟨_, rfl⟩
      rw [hW6] at B6 R6 E6 O6 ⊢
      clear hW6 B5 HO q5 f5 zq X5 c0 c1 c2 c3 c4 c5 d0 d1 d2 d3 d4 d5 X4 B4
      have e0 := B6.out.cell 0
      have e1 := B6.out.cell 1
      have e2 := B6.out.cell 2
      have e3 := B6.out.cell 3
      have e4 := B6.out.cell 4
      have e5 := B6.out.cell 5
      have r0 := R6.out.cell 0
      have r1 := R6.out.cell 1
      have r2 := R6.out.cell 2
      have r3 := R6.out.cell 3
      have r4 := R6.out.cell 4
      have r5 := R6.out.cell 5
      have g0 := R6.out.fro 0
      have g1 := R6.out.fro 1
      have g2 := R6.out.fro 2
      have g3 := R6.out.fro 3
      have g4 := R6.out.fro 4
      have g5 := R6.out.fro 5
      have zr := R6.out.lt
      simp only [List.getElem?_toArray, List.getElem?_cons_zero, List.getElem?_cons_succ, List.setIfInBounds_toArray, List.set_cons_zero, List.set_cons_succ] at e0 e1 e2 e3 e4 e5 r0 r1 r2 r3 r4 r5
      by_cases hk0 : k = 0
      · subst hk0
        have HNIL := hid (List.length_eq_zero_iff.1 HK.out)
        go_wp2_with fail
        refine bodyPost_ret (v := .tuple #[.agg #[.slice none 0 0, .int .i64 0, .int .i64 0, .int .i64 0, .slice none 0 0, .slice none 0 0], .int .i64 3]) (by simp [results, Tryd.results43, go_sem, r0, r1, r2, r3, r4, r5]) rfl ⟨fun _ => ⟨rfl, by (repeat' (first | with_reducible assumption | with_reducible exact Ext.refl _ | with_reducible refine Ext.alloc ?_ _ | with_reducible refine Ext.set ?_ ?_ _ | with_reducible refine Ext.drew ?_ | with_reducible refine Ext.drewN ?_ _ | with_reducible refine Ext.trans ?_ (by assumption) | (dsimp only; omega)))⟩, fun h => absurd HNIL.out h⟩
      · have HNE := hid (show tl ≠ [] by rintro rfl; exact hk0 HK.out.symm)
        go_wp2_with fail
        refine bodyPost_ret (v := .tuple #[.agg #[.slice SA n sc, .int .i64 most, .int .i64 miss, .int .i64 al, .slice MA m mc, .slice TA k tc], .int .i64 0]) (by simp [results, Tryd.results43, go_sem, r0, r1, r2, r3, r4, r5]) rfl
          ⟨fun h => absurd h HNE.out, fun _ => ⟨.slice TA k tc, rfl, OwnU.low (B := w4.heap.size) ?_ hb4, by (repeat' (first | with_reducible assumption | with_reducible exact Ext.refl _ | with_reducible refine Ext.alloc ?_ _ | with_reducible refine Ext.set ?_ ?_ _ | with_reducible refine Ext.drew ?_ | with_reducible refine Ext.drewN ?_ _ | with_reducible refine Ext.trans ?_ (by assumption) | (dsimp only; omega)))⟩⟩
        have hz4 : w.heap.size + 1 < w4.heap.size := by omega
        exact (((((O6.out.other (p := ⟨w.heap.size + 1, _, none⟩) hz4 _).other (p := ⟨w.heap.size + 1, _, none⟩) hz4 _).other (p := ⟨w.heap.size + 1, _, none⟩) hz4 _).other (p := ⟨w.heap.size + 1, _, none⟩) hz4 _).other (p := ⟨w.heap.size + 1, _, none⟩) hz4 _).other (p := ⟨w.heap.size + 1, _, none⟩) hz4 _
end Go.Proofs.YtcfijidlbimckaaDoor
