/- The theorem of the paths that must stay open. -/
import Derived.Test.YtndoghcglbpllaaMust0
set_option linter.unusedSimpArgs false
set_option linter.unusedVariables false
namespace Go.Proofs.Ytndoghcglbpllaa
open Go.RowKit
set_option maxRecDepth 100000 in
set_option maxHeartbeats 4000000 in
theorem pathsMust_any (m g l pl ph from_ to_ start D v5 : Int) (RA : Option Addr) (rn rc : Nat) (A : Option Addr) (n c : Nat) (ps : List Pt) (hn : ps.length = n) (w : World) (hp : PathsAt w A ps) :
    Calls Try.prog 10 #[.agg #[.int .i64 m, .slice A n c], .agg #[.int .i64 g, .int .i64 l, .int .i64 pl, .int .i64 ph], .agg #[.int .i64 from_, .int .i64 to_, .int .i64 start, .int .i64 D, .slice RA rn rc, .int .i64 v5]] w fun e w' => e = .returned (.bool true) ∧ Ext w w' := by
  have HF := hid (fun (W : World) (hW : Ext w W) => fits_any m g l pl ph from_ to_ start D v5 (.slice RA rn rc) rfl A n c ps hn W (hp.ext hW))
  have HV := hid (fun (hb : beginE m g l pl ph ps [from_, to_] [start, D] = 0) (W : World) (hW : Ext w W) => vital_ok m g l pl ph from_ start to_ D A n c ps hn W (hp.ext hW) hb)
  have HR := hid (fun (hb : beginE m g l pl ph ps [from_, to_] [start] = 0) (W : World) (hW : Ext w W) => routeF_ok m g l pl ph from_ start to_ A n c ps hn W (hp.ext hW) hb)
  have HA := hid (fun (hb : beginE m g l pl ph ps [from_] [start] = 0) (W : World) (hW : Ext w W) => arrive_ok m g l pl ph from_ start A n c ps hn W (hp.ext hW) hb)
  have HA3 := hid (fun (qs : List Pt) (hq : qs.length = n) (A' : Option Addr) (c' : Nat) (hb : beginE m g l pl ph qs [from_] [start] = 0) (W : World) (hW : PathsAt W A' qs) => arrive_ok m g l pl ph from_ start A' n c' qs hq W hW hb)
  have HCO := hid (fun (hm : n ≤ 1000) (ho : ∀ k, k < n → (ps.getD k zeroPt).opens.length ≤ 1000) (W : World) (hW : Ext w W) => copy_any m A n c ps hn hm ho W (hp.ext hW))
  have HN := hid hn
  have t0 := three_blocks w (.cells #[.int .i64 m, .slice A n c] 24) (.cells #[.int .i64 g, .int .i64 l, .int .i64 pl, .int .i64 ph] 28) (.cells #[.int .i64 from_, .int .i64 to_, .int .i64 start, .int .i64 D, .slice RA rn rc, .int .i64 v5] 31)
  clear hp hn
  go_enter Try.func10, Try.ntmps10
  go_wp2_with fail
  refine (HF.out _ (by (repeat' (first | with_reducible assumption | with_reducible exact Ext.refl _ | with_reducible refine Ext.alloc ?_ _ | with_reducible refine Ext.set ?_ ?_ _ | with_reducible refine Ext.drew ?_ | with_reducible refine Ext.drewN ?_ _ | with_reducible refine Ext.trans ?_ (by assumption) | (dsimp only; omega))))).mono ?_
  rintro e w1 ⟨⟨B, rfl, hB⟩, hE⟩
  (first | (have hK := KC.step (n := w.heap.size + 3) (by with_reducible assumption) hE) | (have hK := KC.step (KC.step (n := w.heap.size + 3) (by with_reducible assumption) (ext_alloc1 _ _)) hE) | (have hK := KC.step (KC.refl (n := w.heap.size + 3) (by simp)) hE)); have hC := hK.cell; have hF := hK.fro; have hX := hK.ext
  have HB := hid hB
  have E1 : Ext w w1 := by (repeat' (first | with_reducible assumption | with_reducible exact Ext.refl _ | with_reducible refine Ext.alloc ?_ _ | with_reducible refine Ext.set ?_ ?_ _ | with_reducible refine Ext.drew ?_ | with_reducible refine Ext.drewN ?_ _ | with_reducible refine Ext.trans ?_ (by assumption) | (dsimp only; omega)))
  have T0 := hid (blk_ext t0.1 hE)
  have T1 := hid (blk_ext t0.2.1 hE)
  have T2 := hid (blk_ext t0.2.2 hE)
  clear hB t0
  cases B
  case false =>
    go_wp2_with fail
    refine (works_any _).mono ?_
    rintro e w2 ⟨rfl, hE2⟩
    go_wp2
    go_ret
    exact ⟨rfl, E1.trans hE2⟩
  obtain ⟨k1, k2, k3, k4, k5, k6⟩ := HB.out rfl
  have HV2 := hid (HV.out (begin_of k1 k2 (by simp [k3, k4]) (by simp [k5, k6])))
  have HR2 := hid (HR.out (begin_of k1 k2 (by simp [k3, k4]) (by simp [k5])))
  have HA2 := hid (HA.out (begin_of k1 k2 (by simp [k3]) (by simp [k5])))
  obtain ⟨hm1, hm2, hN⟩ := vNet_ok k1
  have ha := vParty_ok k2
  have k3' := placeB_iff.1 k3
  have k4' := placeB_iff.1 k4
  have k5' := minuteB_iff.1 k5
  have k6' := minuteB_iff.1 k6
  obtain ⟨mm, rfl⟩ : ∃ k : Nat, m = k := ⟨m.toNat, by omega⟩
  obtain ⟨tt, rfl⟩ : ∃ k : Nat, to_ = k := ⟨to_.toNat, by omega⟩
  obtain ⟨fr, rfl⟩ : ∃ k : Nat, from_ = k := ⟨from_.toNat, by omega⟩
  rw [Int.toNat_natCast] at hN
  have htm : tt < mm := by omega
  have hfm : fr < mm := by omega
  have hn24 : n ≤ 24 := by have := hN.len; have := HN.out; omega
  have HAF := hid (arr_facts (from_ := (fr : Int)) (s := start) k1 k2 htm k5'.1 k5'.2)
  have HAC := hid (fun i => arr_facts (ps := closeAt ps i) (from_ := (fr : Int)) (s := start) (vNet_close k1 i) k2 htm k5'.1 k5'.2)
  have HCL := hid (fun (i : Nat) => HA3.out (closeAt ps i) (closeAt_len.trans HN.out))
  have HCB := hid (fun (i : Nat) => begin_of (xs := [(fr : Int)]) (ts := [start]) (vNet_close k1 i) k2 (by simp [k3]) (by simp [k5]))
  have HCP := hid (HCO.out (by omega) (fun k hk => by obtain ⟨_, _, _, _, _, _, h⟩ := hN.ok k (by have := HN.out; omega); omega))
  have hbX := (rows_bd selHi_pos (g := g) ha hN (from_ := fr) k5'.1 (by omega : start ≤ 2881) (mm - 1)).2 tt htm
  have HBC := hid (fun i => (rows_bd selHi_pos (g := g) ha (closeAt_ok (b := i) hN) (from_ := fr) k5'.1 (by omega : start ≤ 2881) (mm - 1)).2 tt htm)
  have HSA := hid (show sureAt g l pl ph ps (mm : Int) (fr : Int) (tt : Int) start = (rows selHi g l pl ph ps mm fr start (mm - 1)).getD tt 0 by unfold sureAt; simp only [Int.toNat_natCast])
  have HSC := hid (fun i => show sureAt g l pl ph (closeAt ps i) (mm : Int) (fr : Int) (tt : Int) start = (rows selHi g l pl ph (closeAt ps i) mm fr start (mm - 1)).getD tt 0 by unfold sureAt; simp only [Int.toNat_natCast])
  have HVI := hid (fun (hX : (rows selHi g l pl ph ps mm fr start (mm - 1)).getD tt 0 ≤ D) (i : Nat) (hi : i < n) => vital_iff hX (i := i) (by have := HN.out; omega))
  rw [HN.out] at HVI
  have HVU := hid (vital_up (g := g) (l := l) (pl := pl) (ph := ph) (ps := ps) (m := mm) (fr := fr) (to_ := tt) (start := start) (D := D) n)
  have HVN := hid (show (vitOf g l pl ph ps mm fr tt start D (walkIdx ps g n)).length ≤ 1000 by unfold vitOf; rw [List.length_map]; have h1 := List.length_filter_le (vitB g l pl ph ps mm fr tt start D) (walkIdx ps g n); have h2 := walkIdx_len ps g n; omega)
  obtain ⟨X, hXX⟩ : ∃ X, (rows selHi g l pl ph ps mm fr start (mm - 1)).getD tt 0 = X := ⟨_, rfl⟩
  have HMR := hid (fun (hXD : X ≤ D) (i : Nat) hm => must_route ha (by omega) (by omega) hN hfm htm k5'.1 k5'.2 k6'.2 hXX hXD (i := i) hm)
  have HRN := hid (fun (hXD : X ≤ D) => (routeOf_ok ha (by omega) (by omega) hN fr tt hfm htm k5'.1 (by omega : start ≤ 2881) hXX (by omega)).2.1)
  rw [hXX] at HVI hbX HSA
  simp only [Int.toNat_natCast, hXX] at HV2 HR2
  rw [HSA.out] at HAF
  simp only [HSC.out] at HAC
  obtain ⟨hD0, hD9⟩ := k6'
  obtain ⟨Yf, hYf⟩ : ∃ Yf : Nat → Int, (fun i => (rows selHi g l pl ph (closeAt ps i) mm fr start (mm - 1)).getD tt 0) = Yf := ⟨_, rfl⟩
  have HYF := hid (show ∀ i, (rows selHi g l pl ph (closeAt ps i) mm fr start (mm - 1)).getD tt 0 = Yf i from fun i => congrFun hYf i)
  simp only [HYF.out] at HVI HBC HMR HAC
  clear HV HA HF HB HR HA3 HCO k1 k2 k3 k4 k5 k6 hN hE HSA HSC hXX hYf ha k3' k4'
  have hm0 : (0 : Int) ≤ (tt : Int) := by omega
  have hm9 : (tt : Int) < (mm : Int) := by omega
  revert HVN
  revert HVU
  revert HVI
  revert HV2
  generalize vitOf g l pl ph ps mm fr tt start D (walkIdx ps g n) = vit
  intro HV2 HVI HVU HVN
  revert HRN
  revert HMR
  revert HR2
  generalize (routeOf g l pl ph ps mm fr tt start X).map Int.ofNat = ro
  intro HR2 HMR HRN
  go_wp2_with fail
  refine (HV2.out _ E1).mono ?_
  rintro e w2 hVI
  have hV3 := hid hVI
  clear hVI HV2
  obtain ⟨hxl, hxt⟩ := HAF.out
  revert hxt
  revert hxl
  revert HA2
  generalize arrList selHi g l pl ph ps (mm : Int) (fr : Int) start = xs
  generalize arrList selLo g l pl ph ps (mm : Int) (fr : Int) start = ys
  intro HA2 hxl hxt
  have HXL := hid hxl
  have HXT := hid hxt
  clear hxl hxt HAF
  rcases hV3.out with ⟨hlate, rfl, hE⟩ | ⟨hXD, v, rfl, hown, hE⟩
  · (first | (have hK := KC.step (n := w.heap.size + 3) (by with_reducible assumption) hE) | (have hK := KC.step (KC.step (n := w.heap.size + 3) (by with_reducible assumption) (ext_alloc1 _ _)) hE) | (have hK := KC.step (KC.refl (n := w.heap.size + 3) (by simp)) hE)); have hC := hK.cell; have hF := hK.fro; have hX := hK.ext
    have E2 : Ext w w2 := E1.trans hE
    clear hE hV3
    go_wp2_with fail
    refine (HA2.out _ E2).mono ?_
    rintro e w3 ⟨g1, cc1, g2, cc2, rfl, row1, row2, hg1, hg2, hE⟩
    (first | (have hK := KC.step (n := w.heap.size + 3) (by with_reducible assumption) hE) | (have hK := KC.step (KC.step (n := w.heap.size + 3) (by with_reducible assumption) (ext_alloc1 _ _)) hE) | (have hK := KC.step (KC.refl (n := w.heap.size + 3) (by simp)) hE)); have hC := hK.cell; have hF := hK.fro; have hX := hK.ext
    rw [HXL.out]
    have hcell := row1.cell (k := tt) (by have := HXL.out; omega)
    rw [HXT.out] at hcell
    have E3 : Ext w w3 := E2.trans hE
    clear row1 row2 hE
    obtain ⟨Y, hY⟩ : ∃ Y, orN X = Y := ⟨_, rfl⟩
    rw [hY] at hcell
    unfold orN at hY
    have hYY : Y < 0 ∨ (0 ≤ Y ∧ D < Y) := by split at hY <;> omega
    clear hY
    rcases hYY with hY | ⟨hY0, hY⟩
    · have hd : decide (0 ≤ Y) = false := decide_eq_false (by omega)
      go_wp2_with fail
      go_quiet (fail)
      go_wp2_with fail
      refine (works_any _).mono ?_
      rintro e w4 ⟨rfl, hE4⟩
      have E4 : Ext w w4 := Ext.trans (by (repeat' (first | with_reducible assumption | with_reducible exact Ext.refl _ | with_reducible refine Ext.alloc ?_ _ | with_reducible refine Ext.set ?_ ?_ _ | with_reducible refine Ext.drew ?_ | with_reducible refine Ext.drewN ?_ _ | with_reducible refine Ext.trans ?_ (by assumption) | (dsimp only; omega)))) hE4
      go_wp2
      go_ret
      exact ⟨rfl, E4⟩
    · have hd : decide (0 ≤ Y) = true := decide_eq_true hY0
      have hd2 : decide (Y ≤ D) = false := decide_eq_false (by omega)
      go_wp2_with fail
      go_quiet (fail)
      go_wp2_with fail
      refine (works_any _).mono ?_
      rintro e w4 ⟨rfl, hE4⟩
      have E4 : Ext w w4 := Ext.trans (by (repeat' (first | with_reducible assumption | with_reducible exact Ext.refl _ | with_reducible refine Ext.alloc ?_ _ | with_reducible refine Ext.set ?_ ?_ _ | with_reducible refine Ext.drew ?_ | with_reducible refine Ext.drewN ?_ _ | with_reducible refine Ext.trans ?_ (by assumption) | (dsimp only; omega)))) hE4
      go_wp2
      go_ret
      exact ⟨rfl, E4⟩
  · (first | (have hK := KC.step (n := w.heap.size + 3) (by with_reducible assumption) hE) | (have hK := KC.step (KC.step (n := w.heap.size + 3) (by with_reducible assumption) (ext_alloc1 _ _)) hE) | (have hK := KC.step (KC.refl (n := w.heap.size + 3) (by simp)) hE)); have hC := hK.cell; have hF := hK.fro; have hX := hK.ext
    have E2 : Ext w w2 := E1.trans hE
    have X12 := hE
    obtain ⟨VA, vc, rfl, hVI⟩ := hown.form
    have HVA := hid hVI
    clear hE hV3 hown hVI
    go_wp2_with fail
    refine (HA2.out _ E2).mono ?_
    rintro e w3 ⟨g1, cc1, g2, cc2, rfl, row1, row2, hg1, hg2, hE⟩
    (first | (have hK := KC.step (n := w.heap.size + 3) (by with_reducible assumption) hE) | (have hK := KC.step (KC.step (n := w.heap.size + 3) (by with_reducible assumption) (ext_alloc1 _ _)) hE) | (have hK := KC.step (KC.refl (n := w.heap.size + 3) (by simp)) hE)); have hC := hK.cell; have hF := hK.fro; have hX := hK.ext
    rw [HXL.out]
    have hcell := row1.cell (k := tt) (by have := HXL.out; omega)
    rw [HXT.out] at hcell
    have hoX : orN X = X := by unfold orN; rw [if_neg (by omega)]
    rw [hoX] at hcell
    have E3 : Ext w w3 := E2.trans hE
    replace X12 := X12.trans hE
    have HVA3 := hid (HVA.out.ext hE)
    clear row1 row2 hE hoX HVA
    have hd : decide (0 ≤ X) = true := decide_eq_true hbX.1
    have hd2 : decide (X ≤ D) = true := decide_eq_true hXD
    have X1 := hid X12
    replace HRN := hid (HRN.out hXD)
    clear X12
    go_wp2_with fail
    go_quiet (fail)
    go_wp2_with fail
    refine (HR2.out _ (by (repeat' (first | with_reducible assumption | with_reducible exact Ext.refl _ | with_reducible refine Ext.alloc ?_ _ | with_reducible refine Ext.set ?_ ?_ _ | with_reducible refine Ext.drew ?_ | with_reducible refine Ext.drewN ?_ _ | with_reducible refine Ext.trans ?_ (by assumption) | (dsimp only; omega))))).mono ?_
    rintro e w4 (⟨hx, -, -⟩ | ⟨hxn, g3, cap3, rfl, row3, hg3, hE⟩)
    · omega
    have EX : Ext w1 w4 := (X1.out.trans (Ext.drewN (Ext.refl w3) nq)).trans hE
    have E4 : Ext w w4 := E1.trans EX
    have U0 := hid (blk_ext T0.out EX)
    have U1 := hid (blk_ext T1.out EX)
    have U2 := hid (blk_ext T2.out EX)
    have HVA4 := hid (HVA3.out.ext ((Ext.drewN (Ext.refl w3) nq).trans hE))
    have HRO4 := hid row3.ints
    clear hC hF hX hK hE hcell row3 hxn HVA3 T0 T1 T2 EX X1 hd hd2
    have s0 : w.heap.size + 3 ≤ w4.heap.size := by have := (Array.getElem?_eq_some_iff.1 U2.out).1; omega
    go_wp2
    go_loopw [15] (fun i wr => Ext w4 wr ∧ ∃ k : Nat, k ≤ n ∧ i = .int .i64 k) (fun i _ => n - (intOf i).toNat)
    case atStart => exact ⟨Ext.refl _, 0, Nat.zero_le _, rfl⟩
    case round =>
      obtain ⟨hE, k, hk, rfl⟩ := hrel
      have T0 := hid (blk_ext U0.out hE)
      have T1 := hid (blk_ext U1.out hE)
      have T2 := hid (blk_ext U2.out hE)
      have c0 := blk_cell T0.out 0
      have c1 := blk_cell T0.out 1
      have c2 := blk_cell T1.out 0
      have c3 := blk_cell T1.out 1
      have c4 := blk_cell T1.out 2
      have c5 := blk_cell T1.out 3
      have c6 := blk_cell T2.out 0
      have c7 := blk_cell T2.out 1
      have c8 := blk_cell T2.out 2
      have c9 := blk_cell T2.out 3
      simp only [List.getElem?_toArray, List.getElem?_cons_zero, List.getElem?_cons_succ] at c0 c1 c2 c3 c4 c5 c6 c7 c8 c9
      have z0 := (Array.getElem?_eq_some_iff.1 T0.out).1
      have z1 := (Array.getElem?_eq_some_iff.1 T1.out).1
      have z2 := (Array.getElem?_eq_some_iff.1 T2.out).1
      by_cases hlt : k < n
      · have hk0 : (0 : Int) ≤ (k : Int) := by omega
        have hk1 : (k : Int) < (n : Int) := by omega
        go_wp2_with fail
        refine (HCP.out wr (E4.trans hE)).mono ?_
        rintro e w5 ⟨v, rfl, hC, hE5⟩
        obtain ⟨G, cc, rfl, hG1, hG2, ⟨u, hu, hu1⟩, hfz, hPA⟩ := hC.shut HN.out hlt
        have E5 : Ext wr ((w5.setCell ⟨G, k * 8 + 7, none⟩ (.slice none 0 0)).alloc (.cells #[.int .i64 (mm : Int), .slice (some ⟨G, 0, none⟩) n cc] 24)) := (hE5.set (by dsimp only; omega) _).alloc _
        have V0 := hid (blk_ext T0.out E5)
        have V1 := hid (blk_ext T1.out E5)
        have V2 := hid (blk_ext T2.out E5)
        have HPA := hid (hPA.ext (ext_alloc1 _ (.cells #[.int .i64 (mm : Int), .slice (some ⟨G, 0, none⟩) n cc] 24)))
        have Z0 := hid (blk_ext T0.out hE5)
        have Z1 := hid (blk_ext T1.out hE5)
        have Z2 := hid (blk_ext T2.out hE5)
        have hr5 : wr.heap.size ≤ w5.heap.size := hE5.size
        have hwr : w4.heap.size ≤ wr.heap.size := hE.size
        have n0 : ¬ w.heap.size = G := by omega
        have n1 : ¬ w.heap.size + 1 = G := by omega
        have n2 : ¬ w.heap.size + 1 + 1 = G := by omega
        clear hC hPA c0 c1 c2 c3 c4 c5 c6 c7 c8 c9 z0 z1 z2
        have c0 := blk_cell Z0.out 0
        have c1 := blk_cell Z0.out 1
        have c2 := blk_cell Z1.out 0
        have c3 := blk_cell Z1.out 1
        have c4 := blk_cell Z1.out 2
        have c5 := blk_cell Z1.out 3
        have c6 := blk_cell Z2.out 0
        have c7 := blk_cell Z2.out 1
        have c8 := blk_cell Z2.out 2
        have c9 := blk_cell Z2.out 3
        simp only [List.getElem?_toArray, List.getElem?_cons_zero, List.getElem?_cons_succ] at c0 c1 c2 c3 c4 c5 c6 c7 c8 c9
        have z0 := (Array.getElem?_eq_some_iff.1 Z0.out).1
        have z1 := (Array.getElem?_eq_some_iff.1 Z1.out).1
        have z2 := (Array.getElem?_eq_some_iff.1 Z2.out).1
        have HVK := hid (HVI.out hXD k hlt)
        have HMK := hid (HMR.out hXD k)
        have hyb := HBC.out k
        obtain ⟨hxl, hxt⟩ := HAC.out k
        have HAR := hid (HCL.out k (some ⟨G, 0, none⟩) cc (HCB.out k) _ HPA.out)
        revert hxt
        revert hxl
        revert HAR
        generalize arrList selHi g l pl ph (closeAt ps k) (mm : Int) (fr : Int) start = xs2
        generalize arrList selLo g l pl ph (closeAt ps k) (mm : Int) (fr : Int) start = ys2
        intro HAR hxl hxt
        have HXL2 := hid hxl
        have HXT2 := hid hxt
        clear hxl hxt
        obtain ⟨Yk, hYk⟩ : ∃ Yk, Yf k = Yk := ⟨_, rfl⟩
        rw [hYk] at HVK HMK hyb HXT2
        clear hYk
        go_wp2_with fail
        refine HAR.out.mono ?_
        rintro e w6 ⟨ga, ca, gb, cb, rfl, ra, rb, -, -, hE6⟩
        rw [HXL2.out]
        have hcell := ra.cell (k := tt) (by have := HXL2.out; omega)
        have hga := ra.lt
        rw [HXT2.out] at hcell
        have P0 := hid (blk_ext V0.out hE6)
        have P1 := hid (blk_ext V1.out hE6)
        have P2 := hid (blk_ext V2.out hE6)
        replace hE6 := hE.trans (E5.trans hE6)
        clear c0 c1 c2 c3 c4 c5 c6 c7 c8 c9 z0 z1 z2 ra rb hu hfz E5 hE5 V0 V1 V2 HPA Z0 Z1 Z2 T0 T1 T2 n0 n1 n2 hG1 hG2 hu1
        have c0 := blk_cell P0.out 0
        have c1 := blk_cell P0.out 1
        have c2 := blk_cell P1.out 0
        have c3 := blk_cell P1.out 1
        have c4 := blk_cell P1.out 2
        have c5 := blk_cell P1.out 3
        have c6 := blk_cell P2.out 0
        have c7 := blk_cell P2.out 1
        have c8 := blk_cell P2.out 2
        have c9 := blk_cell P2.out 3
        simp only [List.getElem?_toArray, List.getElem?_cons_zero, List.getElem?_cons_succ] at c0 c1 c2 c3 c4 c5 c6 c7 c8 c9
        have z0 := (Array.getElem?_eq_some_iff.1 P0.out).1
        have z1 := (Array.getElem?_eq_some_iff.1 P1.out).1
        have z2 := (Array.getElem?_eq_some_iff.1 P2.out).1
        obtain ⟨Y, hY⟩ : ∃ Y, orN Yk = Y := ⟨_, rfl⟩
        rw [hY] at hcell
        unfold orN at hY
        have hYY : (0 ≤ Y ∧ Y ≤ D ∧ Yk ≤ D) ∨ (0 ≤ Y ∧ D < Y ∧ D < Yk) ∨ (Y < 0 ∧ D < Yk) := by split at hY <;> omega
        clear hY
        rcases hYY with ⟨hY0, hY, hyk⟩ | ⟨hY0, hY, hyk⟩ | ⟨hY0, hyk⟩
        · have hd : decide (Y < 0) = false := decide_eq_false (by omega)
          have hd2 : decide (D < Y) = false := decide_eq_false (by omega)
          have hd3 : decide (D < Yk) = false := decide_eq_false (by omega)
          go_wp2_with fail
          go_quiet (fail)
          go_wp2_with fail
          refine (contains_any VA vit.length vc vit rfl (by have := HVN.out; omega) (k : Int) _ (HVA4.out.ext (hE6.trans (Ext.drewN (Ext.refl w6) nq)))).mono ?_
          rintro e w7 ⟨rfl, hE7⟩
          rw [HVK.out]
          have e7 : Ext w4 w7 := (hE6.trans (Ext.drewN (Ext.refl w6) nq)).trans hE7
          rw [hd3]
          go_wp2
          go_roundw
          case rel => exact ⟨e7, k + 1, by omega, by go_num⟩
          case measure => (simp [intOf] <;> omega)
        · have hd : decide (Y < 0) = false := decide_eq_false (by omega)
          have hd2 : decide (D < Y) = true := decide_eq_true hY
          have hd3 : decide (D < Yk) = true := decide_eq_true hyk
          go_wp2_with fail
          go_quiet (fail)
          go_wp2_with fail
          refine (contains_any VA vit.length vc vit rfl (by have := HVN.out; omega) (k : Int) _ (HVA4.out.ext (hE6.trans (Ext.drewN (Ext.refl w6) nq)))).mono ?_
          rintro e w7 ⟨rfl, hE7⟩
          rw [HVK.out]
          have e7 : Ext w4 w7 := (hE6.trans (Ext.drewN (Ext.refl w6) nq)).trans hE7
          rw [hd3]
          go_wp2_with fail
          refine (contains_any (some ⟨g3, 0, none⟩) ro.length cap3 ro rfl (by have := HRN.out; omega) (k : Int) _ (HRO4.out.ext e7)).mono ?_
          rintro e w8 ⟨rfl, hE8⟩
          rw [HMK.out hyk]
          have e8 : Ext w4 w8 := e7.trans hE8
          go_wp2
          go_roundw
          case rel => exact ⟨e8, k + 1, by omega, by go_num⟩
          case measure => (simp [intOf] <;> omega)
        · have hd : decide (Y < 0) = true := decide_eq_true hY0
          have hd3 : decide (D < Yk) = true := decide_eq_true hyk
          go_wp2_with fail
          go_quiet (fail)
          go_wp2_with fail
          refine (contains_any VA vit.length vc vit rfl (by have := HVN.out; omega) (k : Int) _ (HVA4.out.ext (hE6.trans (Ext.drewN (Ext.refl w6) nq)))).mono ?_
          rintro e w7 ⟨rfl, hE7⟩
          rw [HVK.out]
          have e7 : Ext w4 w7 := (hE6.trans (Ext.drewN (Ext.refl w6) nq)).trans hE7
          rw [hd3]
          go_wp2_with fail
          refine (contains_any (some ⟨g3, 0, none⟩) ro.length cap3 ro rfl (by have := HRN.out; omega) (k : Int) _ (HRO4.out.ext e7)).mono ?_
          rintro e w8 ⟨rfl, hE8⟩
          rw [HMK.out hyk]
          have e8 : Ext w4 w8 := e7.trans hE8
          go_wp2
          go_roundw
          case rel => exact ⟨e8, k + 1, by omega, by go_num⟩
          case measure => (simp [intOf] <;> omega)
      · obtain rfl : n = k := by omega
        clear U0 U1 U2
        obtain ⟨HVU1, HVU2⟩ := HVU.out
        have HVA5 := hid (HVA4.out.ext hE)
        have E5 : Ext w wr := E4.trans hE
        have HVU1 := hid HVU1
        have HVU2 := hid HVU2
        clear hlt
        obtain ⟨wo, rfl⟩ : ∃ wo, wo = wr := ⟨_, rfl⟩
        go_wp2
        go_loopw [21] (fun i wq => Ext wo wq ∧ ∃ j : Nat, j ≤ vit.length ∧ i = .int .i64 j) (fun i _ => vit.length - (intOf i).toNat)
        case atStart => exact ⟨Ext.refl _, 0, Nat.zero_le _, rfl⟩
        case round =>
          clear c0 c1 c2 c3 c4 c5 c6 c7 c8 c9 z0 z1 z2
          obtain ⟨hE2, j, hj, rfl⟩ := hrel
          have S0 := hid (blk_ext T0.out hE2)
          have S1 := hid (blk_ext T1.out hE2)
          have S2 := hid (blk_ext T2.out hE2)
          have c0 := blk_cell S0.out 0
          have c1 := blk_cell S0.out 1
          have c2 := blk_cell S1.out 0
          have c3 := blk_cell S1.out 1
          have c4 := blk_cell S1.out 2
          have c5 := blk_cell S1.out 3
          have c6 := blk_cell S2.out 0
          have c7 := blk_cell S2.out 1
          have c8 := blk_cell S2.out 2
          have c9 := blk_cell S2.out 3
          simp only [List.getElem?_toArray, List.getElem?_cons_zero, List.getElem?_cons_succ] at c0 c1 c2 c3 c4 c5 c6 c7 c8 c9
          have z0 := (Array.getElem?_eq_some_iff.1 S0.out).1
          have z1 := (Array.getElem?_eq_some_iff.1 S1.out).1
          have z2 := (Array.getElem?_eq_some_iff.1 S2.out).1
          have hvl := HVN.out
          by_cases hlt : j < vit.length
          · have hj0 : (0 : Int) ≤ (j : Int) := by omega
            have hj1 : (j : Int) < (vit.length : Int) := by omega
            obtain ⟨vb, voff, rfl, hvb, q1⟩ := (HVA5.out.ext hE2).at_ rfl hlt
            obtain ⟨hy0, hy1⟩ := HVU1.out j hlt
            rcases j with _ | i
            · obtain ⟨y, hyy⟩ : ∃ y, vit.getD 0 0 = y := ⟨_, rfl⟩
              rw [hyy] at q1 hy0 hy1
              clear hyy
              rw [Nat.add_zero] at q1
              have hpath : (decide (0 ≤ y) && decide (y < (n : Int))) = true := by rw [decide_eq_true hy0, decide_eq_true hy1]; rfl
              go_wp2_with fail
              refine wp_region_held_drew (S := fun w' => (∀ b o, b < wr.heap.size → w'.cell? ⟨b, o, none⟩ = wr.cell? ⟨b, o, none⟩) ∧ wr.heap.size ≤ w'.heap.size ∧ Ext wr w') (by kernel_rfl) ?hS0 (fun hHeld => ?_)
              case hS0 => exact ⟨fun _ _ _ => rfl, Nat.le_refl _, Ext.drew (Ext.refl _)⟩
              refine wpAnyH_take (i := 0) (oi := _) (v := ?v0x) rfl (by kernel_rfl) (by kernel_rfl) (by kernel_rfl) (fun _ _ _ h => h) (Or.inl ⟨by rfl, ?y0x⟩) (by assumption) ?r0x
              case y0x => (intro w' hSw; (try dsimp only at hSw); go_simp; (try with_reducible rfl))
              try simp only [Act.put, List.getElem_toArray, List.getElem_cons_zero, List.getElem_cons_succ, List.setIfInBounds_toArray, List.set_cons_zero, List.set_cons_succ]
              refine wpAnyH_take (i := 1) (oi := _) (v := ?v1x) rfl (by kernel_rfl) (by kernel_rfl) (by kernel_rfl) (fun _ _ _ h => h) (Or.inl ⟨by rfl, ?y1x⟩) (by assumption) ?r1x
              case y1x => (intro w' hSw; (try dsimp only at hSw); go_simp; (try with_reducible rfl))
              try simp only [Act.put, List.getElem_toArray, List.getElem_cons_zero, List.getElem_cons_succ, List.setIfInBounds_toArray, List.set_cons_zero, List.set_cons_succ]
              refine wpAnyH_take (i := 2) (oi := _) (v := ?v2x) rfl (by kernel_rfl) (by kernel_rfl) (by kernel_rfl) (fun _ _ _ h => h) (Or.inl ⟨by rfl, ?y2x⟩) (by assumption) ?r2x
              case y2x => (intro w' hSw; (try dsimp only at hSw); go_simp; (try with_reducible rfl))
              try simp only [Act.put, List.getElem_toArray, List.getElem_cons_zero, List.getElem_cons_succ, List.setIfInBounds_toArray, List.set_cons_zero, List.set_cons_succ]
              refine wpAnyH_take (i := 3) (oi := _) (v := ?v3x) rfl (by kernel_rfl) (by kernel_rfl) (by kernel_rfl) (fun _ _ _ h => h) (Or.inl ⟨by rfl, ?y3x⟩) (by assumption) ?r3x
              case y3x => (intro w' hSw; (try dsimp only at hSw); go_simp; (try with_reducible rfl))
              try simp only [Act.put, List.getElem_toArray, List.getElem_cons_zero, List.getElem_cons_succ, List.setIfInBounds_toArray, List.set_cons_zero, List.set_cons_succ]
              refine wpAnyH_take (i := 4) (oi := _) (v := ?v4x) rfl (by kernel_rfl) (by kernel_rfl) (by kernel_rfl) (fun _ _ _ h => h) (Or.inl ⟨by rfl, ?y4x⟩) (by assumption) ?r4x
              case y4x => (intro w' hSw; (try dsimp only at hSw); go_simp; (try with_reducible rfl))
              try simp only [Act.put, List.getElem_toArray, List.getElem_cons_zero, List.getElem_cons_succ, List.setIfInBounds_toArray, List.set_cons_zero, List.set_cons_succ]
              refine wpAnyH_ready (rs := [5]) (by kernel_rfl) (by simp) ?_
              refine AllReadyH.cons (o := _) rfl (fun K hK => ?_) AllReadyH.nil
              go_simp
              refine (rIsPath_b _ _ A n c (by omega) true hpath _).mono ?_
              rintro e w7 ⟨rfl, hE7⟩
              dsimp only
              have hx7 : Ext wr w7 := (Ext.drew (Ext.refl wr)).trans hE7
              clear hHeld
              refine hK.out _ _ ⟨kcell (w1 := wr.drew) (W := wr) (fun _ _ _ => rfl) (Nat.le_refl _) hE7, hx7.size, hx7⟩ (fun hHeld => ?_)
              clear hK K
              try simp only [Act.put, List.getElem_toArray, List.getElem_cons_zero, List.getElem_cons_succ, List.setIfInBounds_toArray, List.set_cons_zero, List.set_cons_succ]
              refine wpAnyH_take (i := 6) (oi := _) (v := ?v6x) rfl (by kernel_rfl) (by kernel_rfl) (by kernel_rfl) (fun _ _ _ h => h) (Or.inl ⟨by rfl, ?y6x⟩) (by assumption) ?r6x
              case y6x => (intro w' hSw; (try dsimp only at hSw); go_simp; (try with_reducible rfl))
              try simp only [Act.put, List.getElem_toArray, List.getElem_cons_zero, List.getElem_cons_succ, List.setIfInBounds_toArray, List.set_cons_zero, List.set_cons_succ]
              refine wpAnyH_take (i := 7) (oi := _) (v := ?v7x) rfl (by kernel_rfl) (by kernel_rfl) (by kernel_rfl) (fun _ _ _ h => h) (Or.inl ⟨by rfl, ?y7x⟩) (by assumption) ?r7x
              case y7x => (intro w' hSw; (try dsimp only at hSw); go_simp; (try with_reducible rfl))
              try simp only [Act.put, List.getElem_toArray, List.getElem_cons_zero, List.getElem_cons_succ, List.setIfInBounds_toArray, List.set_cons_zero, List.set_cons_succ]
              refine wpAnyH_take (i := 8) (oi := _) (v := ?v8x) rfl (by kernel_rfl) (by kernel_rfl) (by kernel_rfl) (fun _ _ _ h => h) (Or.inl ⟨by rfl, ?y8x⟩) (by assumption) ?r8x
              case y8x => (intro w' hSw; (try dsimp only at hSw); go_simp; (try with_reducible rfl))
              try simp only [Act.put, List.getElem_toArray, List.getElem_cons_zero, List.getElem_cons_succ, List.setIfInBounds_toArray, List.set_cons_zero, List.set_cons_succ]
              refine wpAnyH_take (i := 9) (oi := _) (v := ?v9x) rfl (by kernel_rfl) (by kernel_rfl) (by kernel_rfl) (fun _ _ _ h => h) (Or.inl ⟨by rfl, ?y9x⟩) (by assumption) ?r9x
              case y9x => (intro w' hSw; (try dsimp only at hSw); go_simp; (try with_reducible rfl))
              try simp only [Act.put, List.getElem_toArray, List.getElem_cons_zero, List.getElem_cons_succ, List.setIfInBounds_toArray, List.set_cons_zero, List.set_cons_succ]
              refine wpAnyH_take (i := 10) (oi := _) (v := ?v10x) rfl (by kernel_rfl) (by kernel_rfl) (by kernel_rfl) (fun _ _ _ h => h) (Or.inl ⟨by rfl, ?y10x⟩) (by assumption) ?r10x
              case y10x => (intro w' hSw; (try dsimp only at hSw); go_simp; (try with_reducible rfl))
              try simp only [Act.put, List.getElem_toArray, List.getElem_cons_zero, List.getElem_cons_succ, List.setIfInBounds_toArray, List.set_cons_zero, List.set_cons_succ]
              refine wpAnyH_take (i := 11) (oi := _) (v := undef) rfl (by kernel_rfl) (by kernel_rfl) (by kernel_rfl) (fun _ _ _ h => h) (Or.inr ⟨by rfl, rfl⟩) (by assumption) ?r11x
              try simp only [Act.put, List.getElem_toArray, List.getElem_cons_zero, List.getElem_cons_succ, List.setIfInBounds_toArray, List.set_cons_zero, List.set_cons_succ]
              refine wpAnyH_take (i := 12) (oi := _) (v := undef) rfl (by kernel_rfl) (by kernel_rfl) (by kernel_rfl) (fun _ _ _ h => h) (Or.inr ⟨by rfl, rfl⟩) (by assumption) ?r12x
              try simp only [Act.put, List.getElem_toArray, List.getElem_cons_zero, List.getElem_cons_succ, List.setIfInBounds_toArray, List.set_cons_zero, List.set_cons_succ]
              refine wpAnyH_take (i := 13) (oi := _) (v := undef) rfl (by kernel_rfl) (by kernel_rfl) (by kernel_rfl) (fun _ _ _ h => h) (Or.inr ⟨by rfl, rfl⟩) (by assumption) ?r13x
              try simp only [Act.put, List.getElem_toArray, List.getElem_cons_zero, List.getElem_cons_succ, List.setIfInBounds_toArray, List.set_cons_zero, List.set_cons_succ]
              refine wpAnyH_take (i := 14) (oi := _) (v := undef) rfl (by kernel_rfl) (by kernel_rfl) (by kernel_rfl) (fun _ _ _ h => h) (Or.inr ⟨by rfl, rfl⟩) (by assumption) ?r14x
              try simp only [Act.put, List.getElem_toArray, List.getElem_cons_zero, List.getElem_cons_succ, List.setIfInBounds_toArray, List.set_cons_zero, List.set_cons_succ]
              refine wpAnyH_take (i := 15) (oi := _) (v := undef) rfl (by kernel_rfl) (by kernel_rfl) (by kernel_rfl) (fun _ _ _ h => h) (Or.inr ⟨by rfl, rfl⟩) (by assumption) ?r15x
              try simp only [Act.put, List.getElem_toArray, List.getElem_cons_zero, List.getElem_cons_succ, List.setIfInBounds_toArray, List.set_cons_zero, List.set_cons_succ]
              refine wpAnyH_take (i := 16) (oi := _) (v := undef) rfl (by kernel_rfl) (by kernel_rfl) (by kernel_rfl) (fun _ _ _ h => h) (Or.inr ⟨by rfl, rfl⟩) (by assumption) ?r16x
              try simp only [Act.put, List.getElem_toArray, List.getElem_cons_zero, List.getElem_cons_succ, List.setIfInBounds_toArray, List.set_cons_zero, List.set_cons_succ]
              refine wpAnyH_take (i := 17) (oi := _) (v := undef) rfl (by kernel_rfl) (by kernel_rfl) (by kernel_rfl) (fun _ _ _ h => h) (Or.inr ⟨by rfl, rfl⟩) (by assumption) ?r17x
              try simp only [Act.put, List.getElem_toArray, List.getElem_cons_zero, List.getElem_cons_succ, List.setIfInBounds_toArray, List.set_cons_zero, List.set_cons_succ]
              refine wpAnyH_take (i := 18) (oi := _) (v := undef) rfl (by kernel_rfl) (by kernel_rfl) (by kernel_rfl) (fun _ _ _ h => h) (Or.inr ⟨by rfl, rfl⟩) (by assumption) ?r18x
              try simp only [Act.put, List.getElem_toArray, List.getElem_cons_zero, List.getElem_cons_succ, List.setIfInBounds_toArray, List.set_cons_zero, List.set_cons_succ]
              refine wpAnyH_take (i := 19) (oi := _) (v := undef) rfl (by kernel_rfl) (by kernel_rfl) (by kernel_rfl) (fun _ _ _ h => h) (Or.inr ⟨by rfl, rfl⟩) (by assumption) ?r19x
              try simp only [Act.put, List.getElem_toArray, List.getElem_cons_zero, List.getElem_cons_succ, List.setIfInBounds_toArray, List.set_cons_zero, List.set_cons_succ]
              refine wpAnyH_take (i := 20) (oi := _) (v := undef) rfl (by kernel_rfl) (by kernel_rfl) (by kernel_rfl) (fun _ _ _ h => h) (Or.inr ⟨by rfl, rfl⟩) (by assumption) ?r20x
              try simp only [Act.put, List.getElem_toArray, List.getElem_cons_zero, List.getElem_cons_succ, List.setIfInBounds_toArray, List.set_cons_zero, List.set_cons_succ]
              refine wpAnyH_take (i := 21) (oi := _) (v := ?v21x) rfl (by kernel_rfl) (by kernel_rfl) (by kernel_rfl) (fun _ _ _ h => h) (Or.inl ⟨by rfl, ?y21x⟩) (by assumption) ?r21x
              case y21x => (intro w' hSw; (try dsimp only at hSw); go_simp; (try with_reducible rfl))
              try simp only [Act.put, List.getElem_toArray, List.getElem_cons_zero, List.getElem_cons_succ, List.setIfInBounds_toArray, List.set_cons_zero, List.set_cons_succ]
              refine wpAnyH_take (i := 22) (oi := _) (v := ?v22x) rfl (by kernel_rfl) (by kernel_rfl) (by kernel_rfl) (fun _ _ _ h => h) (Or.inl ⟨by rfl, ?y22x⟩) (by assumption) ?r22x
              case y22x => (intro w' hSw; (try dsimp only at hSw); go_simp; (try with_reducible rfl))
              try simp only [Act.put, List.getElem_toArray, List.getElem_cons_zero, List.getElem_cons_succ, List.setIfInBounds_toArray, List.set_cons_zero, List.set_cons_succ]
              refine wpAnyH_done (by kernel_rfl) ?_ _
              go_wp2
              go_roundw
              case rel => exact ⟨hE2.trans hx7, 1, by omega, by go_num⟩
              case measure => (simp [intOf] <;> omega)
            · have hi0 : (0 : Int) ≤ (i : Int) := by omega
              have hi2 : (0 : Int) ≤ (i : Int) + 1 := by omega
              have hi3 : (i : Int) + 1 < (vit.length : Int) := by omega
              have hi4 : (i : Int) < (vit.length : Int) := by omega
              have hi5 : (0 : Int) < (i : Int) + 1 := by omega
              have hwi : IntKind.i64.wrap (i : Int) = (i : Int) := IntWalk.i64_in _ (by omega)
              have hdl : decide (vit.getD (i + 1) 0 ≤ vit.getD i 0) = false := decide_eq_false (by have := HVU2.out i (by omega); omega)
              obtain ⟨vb', voff', hAe, -, q2⟩ := (HVA5.out.ext hE2).at_ rfl (show i < vit.length by omega)
              injection hAe with hAe
              injection hAe with e1 e2
              subst e1 e2
              have hlt2 := HVU2.out i (by omega)
              obtain ⟨y, hyy⟩ : ∃ y, vit.getD (i + 1) 0 = y := ⟨_, rfl⟩
              obtain ⟨z, hzz⟩ : ∃ z, vit.getD i 0 = z := ⟨_, rfl⟩
              rw [hyy] at q1 hy0 hy1 hlt2
              rw [hzz] at q2 hlt2
              rw [hyy, hzz] at hdl
              clear hyy hzz
              have hpath : (decide (0 ≤ y) && decide (y < (n : Int))) = true := by rw [decide_eq_true hy0, decide_eq_true hy1]; rfl
              go_wp2_with fail
              refine wp_region_held_drew (S := fun w' => (∀ b o, b < wr.heap.size → w'.cell? ⟨b, o, none⟩ = wr.cell? ⟨b, o, none⟩) ∧ wr.heap.size ≤ w'.heap.size ∧ Ext wr w') (by kernel_rfl) ?hS0 (fun hHeld => ?_)
              case hS0 => exact ⟨fun _ _ _ => rfl, Nat.le_refl _, Ext.drew (Ext.refl _)⟩
              refine wpAnyH_take (i := 0) (oi := _) (v := ?v0y) rfl (by kernel_rfl) (by kernel_rfl) (by kernel_rfl) (fun _ _ _ h => h) (Or.inl ⟨by rfl, ?y0y⟩) (by assumption) ?r0y
              case y0y => (intro w' hSw; (try dsimp only at hSw); go_simp; (try with_reducible rfl))
              try simp only [Act.put, List.getElem_toArray, List.getElem_cons_zero, List.getElem_cons_succ, List.setIfInBounds_toArray, List.set_cons_zero, List.set_cons_succ]
              refine wpAnyH_take (i := 1) (oi := _) (v := ?v1y) rfl (by kernel_rfl) (by kernel_rfl) (by kernel_rfl) (fun _ _ _ h => h) (Or.inl ⟨by rfl, ?y1y⟩) (by assumption) ?r1y
              case y1y => (intro w' hSw; (try dsimp only at hSw); go_simp; (try with_reducible rfl))
              try simp only [Act.put, List.getElem_toArray, List.getElem_cons_zero, List.getElem_cons_succ, List.setIfInBounds_toArray, List.set_cons_zero, List.set_cons_succ]
              refine wpAnyH_take (i := 2) (oi := _) (v := ?v2y) rfl (by kernel_rfl) (by kernel_rfl) (by kernel_rfl) (fun _ _ _ h => h) (Or.inl ⟨by rfl, ?y2y⟩) (by assumption) ?r2y
              case y2y => (intro w' hSw; (try dsimp only at hSw); go_simp; (try with_reducible rfl))
              try simp only [Act.put, List.getElem_toArray, List.getElem_cons_zero, List.getElem_cons_succ, List.setIfInBounds_toArray, List.set_cons_zero, List.set_cons_succ]
              refine wpAnyH_take (i := 3) (oi := _) (v := ?v3y) rfl (by kernel_rfl) (by kernel_rfl) (by kernel_rfl) (fun _ _ _ h => h) (Or.inl ⟨by rfl, ?y3y⟩) (by assumption) ?r3y
              case y3y => (intro w' hSw; (try dsimp only at hSw); go_simp; (try with_reducible rfl))
              try simp only [Act.put, List.getElem_toArray, List.getElem_cons_zero, List.getElem_cons_succ, List.setIfInBounds_toArray, List.set_cons_zero, List.set_cons_succ]
              refine wpAnyH_take (i := 4) (oi := _) (v := ?v4y) rfl (by kernel_rfl) (by kernel_rfl) (by kernel_rfl) (fun _ _ _ h => h) (Or.inl ⟨by rfl, ?y4y⟩) (by assumption) ?r4y
              case y4y => (intro w' hSw; (try dsimp only at hSw); go_simp; (try with_reducible rfl))
              try simp only [Act.put, List.getElem_toArray, List.getElem_cons_zero, List.getElem_cons_succ, List.setIfInBounds_toArray, List.set_cons_zero, List.set_cons_succ]
              refine wpAnyH_ready (rs := [5]) (by kernel_rfl) (by simp) ?_
              refine AllReadyH.cons (o := _) rfl (fun K hK => ?_) AllReadyH.nil
              go_simp
              refine (rIsPath_b _ _ A n c (by omega) true hpath _).mono ?_
              rintro e w7 ⟨rfl, hE7⟩
              dsimp only
              have hx7 : Ext wr w7 := (Ext.drew (Ext.refl wr)).trans hE7
              clear hHeld
              refine hK.out _ _ ⟨kcell (w1 := wr.drew) (W := wr) (fun _ _ _ => rfl) (Nat.le_refl _) hE7, hx7.size, hx7⟩ (fun hHeld => ?_)
              clear hK K
              try simp only [Act.put, List.getElem_toArray, List.getElem_cons_zero, List.getElem_cons_succ, List.setIfInBounds_toArray, List.set_cons_zero, List.set_cons_succ]
              refine wpAnyH_take (i := 6) (oi := _) (v := ?v6y) rfl (by kernel_rfl) (by kernel_rfl) (by kernel_rfl) (fun _ _ _ h => h) (Or.inl ⟨by rfl, ?y6y⟩) (by assumption) ?r6y
              case y6y => (intro w' hSw; (try dsimp only at hSw); go_simp; (try with_reducible rfl))
              try simp only [Act.put, List.getElem_toArray, List.getElem_cons_zero, List.getElem_cons_succ, List.setIfInBounds_toArray, List.set_cons_zero, List.set_cons_succ]
              refine wpAnyH_take (i := 7) (oi := _) (v := ?v7y) rfl (by kernel_rfl) (by kernel_rfl) (by kernel_rfl) (fun _ _ _ h => h) (Or.inl ⟨by rfl, ?y7y⟩) (by assumption) ?r7y
              case y7y => (intro w' hSw; (try dsimp only at hSw); go_simp; (try with_reducible rfl))
              try simp only [Act.put, List.getElem_toArray, List.getElem_cons_zero, List.getElem_cons_succ, List.setIfInBounds_toArray, List.set_cons_zero, List.set_cons_succ]
              refine wpAnyH_take (i := 8) (oi := _) (v := ?v8y) rfl (by kernel_rfl) (by kernel_rfl) (by kernel_rfl) (fun _ _ _ h => h) (Or.inl ⟨by rfl, ?y8y⟩) (by assumption) ?r8y
              case y8y => (intro w' hSw; (try dsimp only at hSw); go_simp; (try with_reducible rfl))
              try simp only [Act.put, List.getElem_toArray, List.getElem_cons_zero, List.getElem_cons_succ, List.setIfInBounds_toArray, List.set_cons_zero, List.set_cons_succ]
              refine wpAnyH_take (i := 9) (oi := _) (v := ?v9y) rfl (by kernel_rfl) (by kernel_rfl) (by kernel_rfl) (fun _ _ _ h => h) (Or.inl ⟨by rfl, ?y9y⟩) (by assumption) ?r9y
              case y9y => (intro w' hSw; (try dsimp only at hSw); go_simp; (try with_reducible rfl))
              try simp only [Act.put, List.getElem_toArray, List.getElem_cons_zero, List.getElem_cons_succ, List.setIfInBounds_toArray, List.set_cons_zero, List.set_cons_succ]
              refine wpAnyH_take (i := 10) (oi := _) (v := ?v10y) rfl (by kernel_rfl) (by kernel_rfl) (by kernel_rfl) (fun _ _ _ h => h) (Or.inl ⟨by rfl, ?y10y⟩) (by assumption) ?r10y
              case y10y => (intro w' hSw; (try dsimp only at hSw); go_simp; (try with_reducible rfl))
              try simp only [Act.put, List.getElem_toArray, List.getElem_cons_zero, List.getElem_cons_succ, List.setIfInBounds_toArray, List.set_cons_zero, List.set_cons_succ]
              refine wpAnyH_take (i := 11) (oi := _) (v := ?v11y) rfl (by kernel_rfl) (by kernel_rfl) (by kernel_rfl) (fun _ _ _ h => h) (Or.inl ⟨by rfl, ?y11y⟩) (by assumption) ?r11y
              case y11y => (intro w' hSw; (try dsimp only at hSw); go_simp; (try with_reducible rfl))
              try simp only [Act.put, List.getElem_toArray, List.getElem_cons_zero, List.getElem_cons_succ, List.setIfInBounds_toArray, List.set_cons_zero, List.set_cons_succ]
              refine wpAnyH_take (i := 12) (oi := _) (v := ?v12y) rfl (by kernel_rfl) (by kernel_rfl) (by kernel_rfl) (fun _ _ _ h => h) (Or.inl ⟨by rfl, ?y12y⟩) (by assumption) ?r12y
              case y12y => (intro w' hSw; (try dsimp only at hSw); go_simp; (try with_reducible rfl))
              try simp only [Act.put, List.getElem_toArray, List.getElem_cons_zero, List.getElem_cons_succ, List.setIfInBounds_toArray, List.set_cons_zero, List.set_cons_succ]
              refine wpAnyH_take (i := 13) (oi := _) (v := ?v13y) rfl (by kernel_rfl) (by kernel_rfl) (by kernel_rfl) (fun _ _ _ h => h) (Or.inl ⟨by rfl, ?y13y⟩) (by assumption) ?r13y
              case y13y => (intro w' hSw; (try dsimp only at hSw); go_simp; (try with_reducible rfl))
              try simp only [Act.put, List.getElem_toArray, List.getElem_cons_zero, List.getElem_cons_succ, List.setIfInBounds_toArray, List.set_cons_zero, List.set_cons_succ]
              refine wpAnyH_take (i := 14) (oi := _) (v := ?v14y) rfl (by kernel_rfl) (by kernel_rfl) (by kernel_rfl) (fun _ _ _ h => h) (Or.inl ⟨by rfl, ?y14y⟩) (by assumption) ?r14y
              case y14y => (intro w' hSw; (try dsimp only at hSw); go_simp; (try with_reducible rfl))
              try simp only [Act.put, List.getElem_toArray, List.getElem_cons_zero, List.getElem_cons_succ, List.setIfInBounds_toArray, List.set_cons_zero, List.set_cons_succ]
              refine wpAnyH_take (i := 15) (oi := _) (v := ?v15y) rfl (by kernel_rfl) (by kernel_rfl) (by kernel_rfl) (fun _ _ _ h => h) (Or.inl ⟨by rfl, ?y15y⟩) (by assumption) ?r15y
              case y15y => (intro w' hSw; (try dsimp only at hSw); go_simp; (try with_reducible rfl))
              try simp only [Act.put, List.getElem_toArray, List.getElem_cons_zero, List.getElem_cons_succ, List.setIfInBounds_toArray, List.set_cons_zero, List.set_cons_succ]
              refine wpAnyH_take (i := 16) (oi := _) (v := ?v16y) rfl (by kernel_rfl) (by kernel_rfl) (by kernel_rfl) (fun _ _ _ h => h) (Or.inl ⟨by rfl, ?y16y⟩) (by assumption) ?r16y
              case y16y => (intro w' hSw; (try dsimp only at hSw); go_simp; (try with_reducible rfl))
              try simp only [Act.put, List.getElem_toArray, List.getElem_cons_zero, List.getElem_cons_succ, List.setIfInBounds_toArray, List.set_cons_zero, List.set_cons_succ]
              refine wpAnyH_take (i := 17) (oi := _) (v := ?v17y) rfl (by kernel_rfl) (by kernel_rfl) (by kernel_rfl) (fun _ _ _ h => h) (Or.inl ⟨by rfl, ?y17y⟩) (by assumption) ?r17y
              case y17y => (intro w' hSw; (try dsimp only at hSw); go_simp; (try with_reducible rfl))
              try simp only [Act.put, List.getElem_toArray, List.getElem_cons_zero, List.getElem_cons_succ, List.setIfInBounds_toArray, List.set_cons_zero, List.set_cons_succ]
              refine wpAnyH_take (i := 18) (oi := _) (v := ?v18y) rfl (by kernel_rfl) (by kernel_rfl) (by kernel_rfl) (fun _ _ _ h => h) (Or.inl ⟨by rfl, ?y18y⟩) (by assumption) ?r18y
              case y18y => (intro w' hSw; (try dsimp only at hSw); go_simp; (try with_reducible rfl))
              try simp only [Act.put, List.getElem_toArray, List.getElem_cons_zero, List.getElem_cons_succ, List.setIfInBounds_toArray, List.set_cons_zero, List.set_cons_succ]
              refine wpAnyH_take (i := 19) (oi := _) (v := ?v19y) rfl (by kernel_rfl) (by kernel_rfl) (by kernel_rfl) (fun _ _ _ h => h) (Or.inl ⟨by rfl, ?y19y⟩) (by assumption) ?r19y
              case y19y => (intro w' hSw; (try dsimp only at hSw); go_simp; (try with_reducible rfl))
              try simp only [Act.put, List.getElem_toArray, List.getElem_cons_zero, List.getElem_cons_succ, List.setIfInBounds_toArray, List.set_cons_zero, List.set_cons_succ]
              refine wpAnyH_take (i := 20) (oi := _) (v := ?v20y) rfl (by kernel_rfl) (by kernel_rfl) (by kernel_rfl) (fun _ _ _ h => h) (Or.inl ⟨by rfl, ?y20y⟩) (by assumption) ?r20y
              case y20y => (intro w' hSw; (try dsimp only at hSw); go_simp; (try with_reducible rfl))
              try simp only [Act.put, List.getElem_toArray, List.getElem_cons_zero, List.getElem_cons_succ, List.setIfInBounds_toArray, List.set_cons_zero, List.set_cons_succ]
              refine wpAnyH_take (i := 21) (oi := _) (v := ?v21y) rfl (by kernel_rfl) (by kernel_rfl) (by kernel_rfl) (fun _ _ _ h => h) (Or.inl ⟨by rfl, ?y21y⟩) (by assumption) ?r21y
              case y21y => (intro w' hSw; (try dsimp only at hSw); go_simp; (try with_reducible rfl))
              try simp only [Act.put, List.getElem_toArray, List.getElem_cons_zero, List.getElem_cons_succ, List.setIfInBounds_toArray, List.set_cons_zero, List.set_cons_succ]
              refine wpAnyH_take (i := 22) (oi := _) (v := ?v22y) rfl (by kernel_rfl) (by kernel_rfl) (by kernel_rfl) (fun _ _ _ h => h) (Or.inl ⟨by rfl, ?y22y⟩) (by assumption) ?r22y
              case y22y => (intro w' hSw; (try dsimp only at hSw); go_simp; (try with_reducible rfl))
              try simp only [Act.put, List.getElem_toArray, List.getElem_cons_zero, List.getElem_cons_succ, List.setIfInBounds_toArray, List.set_cons_zero, List.set_cons_succ]
              refine wpAnyH_done (by kernel_rfl) ?_ _
              go_wp2
              go_roundw
              case rel => exact ⟨hE2.trans hx7, i + 1 + 1, by omega, by go_num⟩
              case measure => (simp [intOf] <;> omega)
          · clear HVU1 HVU2
            go_wp2_with fail
            refine (works_any _).mono ?_
            rintro e w7 ⟨rfl, hE7⟩
            go_wp2
            go_ret
            exact ⟨rfl, (E5.trans hE2).trans hE7⟩
end Go.Proofs.Ytndoghcglbpllaa
