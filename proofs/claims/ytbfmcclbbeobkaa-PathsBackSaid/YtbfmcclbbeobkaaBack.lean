/- The theorem of the way back. -/
import Derived.Test.YtbfmcclbbeobkaaTurn
import Derived.Test.YtbfmcclbbeobkaaRStep2
import Derived.Test.YtbfmcclbbeobkaaStart
set_option linter.unusedSimpArgs false
set_option linter.unusedVariables false
namespace Go.Proofs.Ytbfmcclbbeobkaa
open Go.RowKit
theorem back_facts {m g l pl ph from_ to_ start D : Int} {ps : List Pt} (hF : Fit m g l pl ph from_ to_ start D ps) {r : List Int} (hr : RouteOk g ps from_ r) {q : Nat} (hq : First (r.length + 1) (lateAt g l pl ph ps m.toNat from_ r start to_.toNat D) q) :
    ∀ j, j ≤ r.length → j ≤ q → (0 ≤ stopAt ps from_ r j ∧ stopAt ps from_ r j < m) ∧ (0 ≤ minAt selHi l pl ph ps start r j ∧ minAt selHi l pl ph ps start r j ≤ 2881) ∧ (minAt selHi l pl ph ps start r j = 2881 → j = q) ∧
      (minAt selHi l pl ph ps start r j ≤ 2880 → (0 ≤ sureAt g l pl ph ps m (stopAt ps from_ r j) to_ (minAt selHi l pl ph ps start r j) ∧ sureAt g l pl ph ps m (stopAt ps from_ r j) to_ (minAt selHi l pl ph ps start r j) ≤ 2881) ∧
        (sureAt g l pl ph ps m (stopAt ps from_ r j) to_ (minAt selHi l pl ph ps start r j) ≤ D ↔ j < q)) := by
  obtain ⟨k1, k2, k3, k4, k5, k6⟩ := hF
  obtain ⟨hm1, hm2, hN⟩ := vNet_ok k1
  have ha := vParty_ok k2
  rw [placeB_iff] at k3 k4
  rw [minuteB_iff] at k5 k6
  obtain ⟨q1, q2, q3⟩ := hq
  intro j hj hjq
  have hst := hr.stop (m := m.toNat) hN k3.1 (by omega) j hj
  have hmi := minAt_ge selHi_pos ha hN k5.1 (by omega : start ≤ 2881) (r := r) (fun j hj => ⟨hr.lo j hj, hr.hi j hj⟩) j hj
  have hge := (rows_ge (g := g) ha hN (from_ := (stopAt ps from_ r j).toNat) hmi.1 hmi.2 (m.toNat - 1)).2 to_.toNat (by omega)
  have hbd := (rows_bd selHi_pos (g := g) ha hN (from_ := (stopAt ps from_ r j).toNat) hmi.1 hmi.2 (m.toNat - 1)).2 to_.toNat (by omega)
  have hl : lateAt g l pl ph ps m.toNat from_ r start to_.toNat D j = decide (D < (rows selHi g l pl ph ps m.toNat (stopAt ps from_ r j).toNat (minAt selHi l pl ph ps start r j) (m.toNat - 1)).getD to_.toNat 0) := rfl
  refine ⟨⟨hst.1, by omega⟩, hmi, fun h9 => ?_, fun h8 => ⟨hbd, fun hs => ?_, fun hs => ?_⟩⟩
  · apply Classical.byContradiction
    intro hne
    have h1 := q2 j (by omega)
    rw [hl, decide_eq_false_iff_not] at h1
    omega
  · apply Classical.byContradiction
    intro hne
    obtain rfl : j = q := by omega
    have h1 := q3 (by omega)
    rw [hl, decide_eq_true_eq] at h1
    unfold sureAt at hs
    omega
  · have h1 := q2 j hs
    rw [hl, decide_eq_false_iff_not] at h1
    unfold sureAt
    omega

set_option maxRecDepth 100000 in
set_option maxHeartbeats 8000000 in
theorem pathsBack_any (m g l pl ph from_ to_ start D v5 : Int) (RA : Option Addr) (rn rc : Nat) (r : List Int) (hrn : r.length = rn) (hmx : rn ≤ 9223372036854775807) (A : Option Addr) (n c : Nat) (ps : List Pt) (hn : ps.length = n) (w : World) (hp : PathsAt w A ps) (hR : IntsAt w RA r) :
    Calls Try.prog 11 #[.agg #[.int .i64 m, .slice A n c], .agg #[.int .i64 g, .int .i64 l, .int .i64 pl, .int .i64 ph], .agg #[.int .i64 from_, .int .i64 to_, .int .i64 start, .int .i64 D, .slice RA rn rc, .int .i64 v5]] w fun e w' => e = .returned (.bool true) ∧ Ext w w' := by
  have HF := hid (fun (W : World) (hW : Ext w W) => fits_any m g l pl ph from_ to_ start D v5 (.slice RA rn rc) rfl A n c ps hn W (hp.ext hW))
  have HI := hid (fun (h24 : n ≤ 24) (W : World) (hW : Ext w W) => isRoute_any m g l pl ph from_ A n c ps hn (by omega) RA rn rc r hrn hmx W (hp.ext hW) (hR.ext hW))
  have HT := hid (fun (hr : RouteOk g ps from_ r) (hb : beginE m g l pl ph ps [from_, to_] [start, D] = 0) (W : World) (hW : Ext w W) => turn_ok m g l pl ph from_ start to_ D A n c ps hn RA rn rc r hrn hr W (hp.ext hW) (hR.ext hW) hb)
  have HA := hid (fun (f s : Int) (hb : beginE m g l pl ph ps [f] [s] = 0) (W : World) (hW : Ext w W) => arrive_ok m g l pl ph f s A n c ps hn W (hp.ext hW) hb)
  have HP := hid hp
  have HR := hid hR
  have HN := hid hn
  have HRN := hid hrn
  clear hp hn hR hrn
  have t0 := three_blocks w (.cells #[.int .i64 m, .slice A n c] 24) (.cells #[.int .i64 g, .int .i64 l, .int .i64 pl, .int .i64 ph] 28) (.cells #[.int .i64 from_, .int .i64 to_, .int .i64 start, .int .i64 D, .slice RA rn rc, .int .i64 v5] 31)
  have B0 := hid t0.1
  have B1 := hid t0.2.1
  have B2 := hid t0.2.2
  clear t0
  go_enter Try.func11, Try.ntmps11
  go_wp2_with fail
  refine (HF.out _ (by (repeat' (first | with_reducible assumption | with_reducible exact Ext.refl _ | with_reducible refine Ext.alloc ?_ _ | with_reducible refine Ext.set ?_ ?_ _ | with_reducible refine Ext.drew ?_ | with_reducible refine Ext.drewN ?_ _ | with_reducible refine Ext.trans ?_ (by assumption) | (dsimp only; omega))))).mono ?_
  rintro e w1 ⟨⟨B, rfl, hB⟩, hE⟩
  (first | (have hK := KC.step (n := w.heap.size + 3) (by with_reducible assumption) hE) | (have hK := KC.step (KC.step (n := w.heap.size + 3) (by with_reducible assumption) (ext_alloc1 _ _)) hE) | (have hK := KC.step (KC.refl (n := w.heap.size + 3) (by simp)) hE)); have hC := hK.cell; have hF := hK.fro; have hX := hK.ext
  have HB := hid hB
  have E1 : Ext w w1 := by (repeat' (first | with_reducible assumption | with_reducible exact Ext.refl _ | with_reducible refine Ext.alloc ?_ _ | with_reducible refine Ext.set ?_ ?_ _ | with_reducible refine Ext.drew ?_ | with_reducible refine Ext.drewN ?_ _ | with_reducible refine Ext.trans ?_ (by assumption) | (dsimp only; omega)))
  have C0 := hid (blk_ext B0.out hE)
  have C1 := hid (blk_ext B1.out hE)
  have C2 := hid (blk_ext B2.out hE)
  clear hB B0 B1 B2
  cases B
  case false =>
    go_wp2_with fail
    refine (works_any _).mono ?_
    rintro e w2 ⟨rfl, hE2⟩
    go_wp2
    go_ret
    exact ⟨rfl, E1.trans hE2⟩
  have HFIT := hid (HB.out rfl)
  obtain ⟨k1, k2, k3, k4, k5, k6⟩ := HB.out rfl
  obtain ⟨hm1, hm2, hN⟩ := vNet_ok k1
  have HI2 := hid (HI.out (by have := hN.len; have := HN.out; omega))
  clear HI hE HF HB
  go_wp2_with fail
  refine (HI2.out _ E1).mono ?_
  rintro e w2 ⟨⟨B, rfl, hB⟩, hE⟩
  have E2 : Ext w w2 := E1.trans hE
  (first | (have hK := KC.step (n := w.heap.size + 3) (by with_reducible assumption) hE) | (have hK := KC.step (KC.step (n := w.heap.size + 3) (by with_reducible assumption) (ext_alloc1 _ _)) hE) | (have hK := KC.step (KC.refl (n := w.heap.size + 3) (by simp)) hE)); have hC := hK.cell; have hF := hK.fro; have hX := hK.ext
  have HB := hid hB
  have D0 := hid (blk_ext C0.out hE)
  have D1 := hid (blk_ext C1.out hE)
  have D2 := hid (blk_ext C2.out hE)
  clear hB C0 C1 C2 HI2
  cases B
  case false =>
    go_wp2_with fail
    refine (works_any _).mono ?_
    rintro e w2 ⟨rfl, hE2⟩
    go_wp2
    go_ret
    exact ⟨rfl, E2.trans hE2⟩
  have hro := HB.out rfl
  have HRO := hid hro
  have hr30 : rn ≤ 30 := by have := hro.len; have := HRN.out; omega
  have HT2 := hid (HT.out hro (begin_of k1 k2 (by simp [k3, k4]) (by simp [k5, k6])))
  have HA2 := hid (fun (f s : Int) (h1 : placeB m f = true) (h2 : minuteB s = true) => HA.out f s (begin_of k1 k2 (by simp [h1]) (by simp [h2])))
  have hFQ := fun q hq => back_facts HFIT.out hro (q := q) hq
  rw [HRN.out] at hFQ
  have HFQ := hid hFQ
  have ha := vParty_ok k2
  have HSTEP := hid (fun (i : Nat) (hi : i < n) (t : Int) (h0 : 0 ≤ t) (W : World) (hW : Ext w W) => rStep_any true m g l pl ph ha A n c ps HN.out i hi (hN.ok i (by have := HN.out; omega)) (vNet_opens k1 i (by have := HN.out; omega)) t h0 W (HP.out.ext hW))
  rw [placeB_iff] at k3 k4
  rw [minuteB_iff] at k5 k6
  obtain ⟨mm, rfl⟩ : ∃ k : Nat, m = k := ⟨m.toNat, by omega⟩
  obtain ⟨tt, rfl⟩ : ∃ k : Nat, to_ = k := ⟨to_.toNat, by omega⟩
  have htm : tt < mm := by omega
  have HAF := hid (fun (f s : Int) (h0 : 0 ≤ s) (h9 : s ≤ 2880) => arr_facts (from_ := f) (s := s) k1 k2 htm h0 h9)
  have K5 := hid k5
  clear HA HT HB k1 k2 k3 k4 k5 hN ha hFQ hro hE HFIT
  go_wp2_with fail
  refine (HT2.out _ E2).mono ?_
  rintro e w3 ⟨⟨q, hL, rfl⟩, hE⟩
  have E3 : Ext w w3 := E2.trans hE
  (first | (have hK := KC.step (n := w.heap.size + 3) (by with_reducible assumption) hE) | (have hK := KC.step (KC.step (n := w.heap.size + 3) (by with_reducible assumption) (ext_alloc1 _ _)) hE) | (have hK := KC.step (KC.refl (n := w.heap.size + 3) (by simp)) hE)); have hC := hK.cell; have hF := hK.fro; have hX := hK.ext
  have HJ := hid (HFQ.out q hL)
  have hq1 : q ≤ rn + 1 := hL.1
  have F0 := hid (blk_ext D0.out hE)
  have F1 := hid (blk_ext D1.out hE)
  have F2 := hid (blk_ext D2.out hE)
  have s3 := hE.size
  clear hE hL HFQ D0 D1 D2 HT2
  obtain ⟨K, hKq⟩ : ∃ K : Int, (q : Int) - 1 = K := ⟨_, rfl⟩
  rw [hKq]
  have HKQ := hid hKq
  have hK0 : (-1 : Int) ≤ K := by omega
  have hK1 : K ≤ (rn : Int) := by omega
  have HS0 := hid (show stopAt ps from_ r 0 = from_ from rfl)
  have HM0 := hid (show minAt selHi l pl ph ps start r 0 = start from rfl)
  have HSS := hid (fun k => (show stopAt ps from_ r (k + 1) = (ps.getD (r.getD k 0).toNat zeroPt).dst from rfl))
  have HVV := hid (fun k => (show stepV (selB true) l pl ph (ps.getD (r.getD k 0).toNat zeroPt) (minAt selHi l pl ph ps start r k) = if minAt selHi l pl ph ps start r (k + 1) = 2881 then 1073741824 else minAt selHi l pl ph ps start r (k + 1) from rfl))
  revert HJ HS0 HM0 HSS HVV
  generalize minAt selHi l pl ph ps start r = mi
  generalize stopAt ps from_ r = st
  intro HJ HS0 HM0 HSS HVV
  clear hKq
  have a0 := blk_cell F0.out 0
  have a1 := blk_cell F0.out 1
  have b0 := blk_cell F1.out 0
  have b1 := blk_cell F1.out 1
  have b2 := blk_cell F1.out 2
  have b3 := blk_cell F1.out 3
  have x0 := blk_cell F2.out 0
  have x1 := blk_cell F2.out 1
  have x2 := blk_cell F2.out 2
  have x3 := blk_cell F2.out 3
  have x4 := blk_cell F2.out 4
  simp only [List.getElem?_toArray, List.getElem?_cons_zero, List.getElem?_cons_succ] at a0 a1 b0 b1 b2 b3 x0 x1 x2 x3 x4
  have z0 := (Array.getElem?_eq_some_iff.1 F0.out).1
  have z1 := (Array.getElem?_eq_some_iff.1 F1.out).1
  have z2 := (Array.getElem?_eq_some_iff.1 F2.out).1
  go_wp2_with fail
  go_quiet (fail)
  go_wp2
  go_loopw [9, 10, 11] (fun pv av i wr => Ext w wr ∧ Hid (wr.heap[w.heap.size]? = some (.cells #[.int .i64 (mm : Int), .slice A n c] 24 (0, 0))) ∧ Hid (wr.heap[w.heap.size + 1]? = some (.cells #[.int .i64 g, .int .i64 l, .int .i64 pl, .int .i64 ph] 28 (0, 0))) ∧
    Hid (wr.heap[w.heap.size + 1 + 1]? = some (.cells #[.int .i64 from_, .int .i64 (tt : Int), .int .i64 start, .int .i64 D, .slice RA rn rc, .int .i64 v5] 31 (0, 0))) ∧
    ∃ j : Nat, j ≤ rn + 1 ∧ j ≤ q + 1 ∧ i = .int .i64 j ∧ pv = .int .i64 (st (j - 1)) ∧ av = .int .i64 (mi (j - 1)) ∧ Hid (j ≠ 0 → mi (j - 1) ≤ 2880)) (fun _ _ i _ => rn + 1 - (intOf i).toNat)
  case atStart => exact ⟨E3.drewN _, F0, F1, F2, 0, Nat.zero_le _, Nat.zero_le _, rfl, by rw [HS0.out], by rw [HM0.out], hid (fun h => absurd rfl h)⟩
  case round =>
    clear F0 F1 F2 E3 a0 a1 b0 b1 b2 b3 x0 x1 x2 x3 x4 z0 z1 z2
    obtain ⟨hE, HB0, HB1, HB2, j, hj1, hj2, rfl, rfl, rfl, HMJ⟩ := hrel
    rcases j with _ | j
    · have hM8 : start ≤ 2880 := K5.out.2
      have hM0' : 0 ≤ start := K5.out.1
      obtain ⟨hS, hM, h9, hcom⟩ := HJ.out 0 (Nat.zero_le _) (Nat.zero_le _)
      simp only [Nat.zero_sub] at HMJ ⊢
      rw [HS0.out] at hS hcom ⊢
      rw [HM0.out] at hM hcom ⊢
      obtain ⟨hSb, hSi⟩ := hcom hM8
      have HARR := hid (HA2.out from_ start (placeB_iff.2 hS) (minuteB_iff.2 K5.out))
      obtain ⟨hxl, hxt⟩ := HAF.out from_ start hM0' hM8
      have a0 := blk_cell HB0.out 0
      have a1 := blk_cell HB0.out 1
      have b0 := blk_cell HB1.out 0
      have b1 := blk_cell HB1.out 1
      have b2 := blk_cell HB1.out 2
      have b3 := blk_cell HB1.out 3
      have x0 := blk_cell HB2.out 0
      have x1 := blk_cell HB2.out 1
      have x2 := blk_cell HB2.out 2
      have x3 := blk_cell HB2.out 3
      have x4 := blk_cell HB2.out 4
      simp only [List.getElem?_toArray, List.getElem?_cons_zero, List.getElem?_cons_succ] at a0 a1 b0 b1 b2 b3 x0 x1 x2 x3 x4
      have z0 := (Array.getElem?_eq_some_iff.1 HB0.out).1
      have z1 := (Array.getElem?_eq_some_iff.1 HB1.out).1
      have z2 := (Array.getElem?_eq_some_iff.1 HB2.out).1
      have hI1 : (0 : Int) ≤ (rn : Int) := by omega
      have hI2 : (0 : Int) ≤ K + 1 := by omega
      have hE4 := hE
      have G0 := HB0
      have G1 := HB1
      have G2 := HB2
      have HM8 := hid (show mi 0 ≤ 2880 by rw [HM0.out]; exact hM8)
      obtain ⟨S, hSS⟩ : ∃ S, sureAt g l pl ph ps (mm : Int) from_ (tt : Int) start = S := ⟨_, rfl⟩
      rw [hSS] at hSb hSi hxt
      clear hSS hcom
      obtain ⟨xs, hxs⟩ : ∃ xs, arrList selHi g l pl ph ps (mm : Int) from_ start = xs := ⟨_, rfl⟩
      obtain ⟨ys, hys⟩ : ∃ ys, arrList selLo g l pl ph ps (mm : Int) from_ start = ys := ⟨_, rfl⟩
      rw [hxs] at HARR hxl hxt
      rw [hys] at HARR
      clear hxs hys
      have HXL := hid hxl
      obtain ⟨Y, hY⟩ : ∃ Y, orN S = Y := ⟨_, rfl⟩
      rw [hY] at hxt
      have HXT := hid hxt
      unfold orN at hY
      have hti0 : (0 : Int) ≤ (tt : Int) := by omega
      have hti1 : (tt : Int) < (mm : Int) := by omega
      have hKQ := HKQ.out
      have hYY : (0 ≤ Y ∧ Y ≤ D ∧ (0 : Int) ≤ K) ∨ (0 ≤ Y ∧ D < Y ∧ ¬ (0 : Int) ≤ K) ∨ (Y < 0 ∧ ¬ (0 : Int) ≤ K) := by
        by_cases hc : 0 < q
        · have := hSi.2 hc
          split at hY <;> omega
        · have : ¬ S ≤ D := fun h => hc (hSi.1 h)
          split at hY <;> omega
      clear hxl hxt hY hSi hSb hKQ h9
      rcases hYY with ⟨hY0, hY, hsl⟩ | ⟨hY0, hY, hsl⟩ | ⟨hY0, hsl⟩
      · have hd : decide (0 ≤ Y) = true := decide_eq_true hY0
        have hd2 : decide (Y ≤ D) = true := decide_eq_true hY
        have hd3 : decide ((0 : Int) ≤ K) = true := decide_eq_true hsl
        go_wp2_with fail
        refine (HARR.out _ (by (repeat' (first | with_reducible assumption | with_reducible exact Ext.refl _ | with_reducible refine Ext.alloc ?_ _ | with_reducible refine Ext.set ?_ ?_ _ | with_reducible refine Ext.drew ?_ | with_reducible refine Ext.drewN ?_ _ | with_reducible refine Ext.trans ?_ (by assumption) | (dsimp only; omega))))).mono ?_
        rintro e w5 ⟨g1, cc1, g2, cc2, rfl, row1, row2, hg1, hg2, hE5⟩
        have hE6 := hE4.trans hE5
        have hcell := row1.cell (k := tt) (by have := HXL.out; omega)
        rw [HXT.out] at hcell
        rw [HXL.out]
        have sg : g1 < w5.heap.size := row1.lt
        have H0 := hid (blk_ext G0.out hE5)
        have H1 := hid (blk_ext G1.out hE5)
        have H2 := hid (blk_ext G2.out hE5)
        clear row1 row2 hE5
        have a0 := blk_cell H0.out 0
        have a1 := blk_cell H0.out 1
        have b0 := blk_cell H1.out 0
        have b1 := blk_cell H1.out 1
        have b2 := blk_cell H1.out 2
        have b3 := blk_cell H1.out 3
        have x0 := blk_cell H2.out 0
        have x1 := blk_cell H2.out 1
        have x2 := blk_cell H2.out 2
        have x3 := blk_cell H2.out 3
        have x4 := blk_cell H2.out 4
        simp only [List.getElem?_toArray, List.getElem?_cons_zero, List.getElem?_cons_succ] at a0 a1 b0 b1 b2 b3 x0 x1 x2 x3 x4
        have z0 := (Array.getElem?_eq_some_iff.1 H0.out).1
        have z1 := (Array.getElem?_eq_some_iff.1 H1.out).1
        have z2 := (Array.getElem?_eq_some_iff.1 H2.out).1
        go_wp2_with fail
        go_quiet (fail)
        go_wp2
        go_roundw
        case rel => exact ⟨hE6.drewN _, H0, H1, H2, 0 + 1, by omega, by omega, by go_num, by first | rw [HS0.out] | (simp only [Nat.add_sub_cancel]; rw [HS0.out]), by first | rw [HM0.out] | (simp only [Nat.add_sub_cancel]; rw [HM0.out]), hid (fun _ => by have := HM8.out; simpa using this)⟩
        case measure => (simp [intOf] <;> omega)
      · have hd : decide (0 ≤ Y) = true := decide_eq_true hY0
        have hd2 : decide (Y ≤ D) = false := decide_eq_false (by omega)
        have hd3 : decide ((0 : Int) ≤ K) = false := decide_eq_false hsl
        go_wp2_with fail
        refine (HARR.out _ (by (repeat' (first | with_reducible assumption | with_reducible exact Ext.refl _ | with_reducible refine Ext.alloc ?_ _ | with_reducible refine Ext.set ?_ ?_ _ | with_reducible refine Ext.drew ?_ | with_reducible refine Ext.drewN ?_ _ | with_reducible refine Ext.trans ?_ (by assumption) | (dsimp only; omega))))).mono ?_
        rintro e w5 ⟨g1, cc1, g2, cc2, rfl, row1, row2, hg1, hg2, hE5⟩
        have hE6 := hE4.trans hE5
        have hcell := row1.cell (k := tt) (by have := HXL.out; omega)
        rw [HXT.out] at hcell
        rw [HXL.out]
        have sg : g1 < w5.heap.size := row1.lt
        have H0 := hid (blk_ext G0.out hE5)
        have H1 := hid (blk_ext G1.out hE5)
        have H2 := hid (blk_ext G2.out hE5)
        clear row1 row2 hE5
        have a0 := blk_cell H0.out 0
        have a1 := blk_cell H0.out 1
        have b0 := blk_cell H1.out 0
        have b1 := blk_cell H1.out 1
        have b2 := blk_cell H1.out 2
        have b3 := blk_cell H1.out 3
        have x0 := blk_cell H2.out 0
        have x1 := blk_cell H2.out 1
        have x2 := blk_cell H2.out 2
        have x3 := blk_cell H2.out 3
        have x4 := blk_cell H2.out 4
        simp only [List.getElem?_toArray, List.getElem?_cons_zero, List.getElem?_cons_succ] at a0 a1 b0 b1 b2 b3 x0 x1 x2 x3 x4
        have z0 := (Array.getElem?_eq_some_iff.1 H0.out).1
        have z1 := (Array.getElem?_eq_some_iff.1 H1.out).1
        have z2 := (Array.getElem?_eq_some_iff.1 H2.out).1
        go_wp2_with fail
        go_quiet (fail)
        go_wp2
        go_roundw
        case rel => exact ⟨hE6.drewN _, H0, H1, H2, 0 + 1, by omega, by omega, by go_num, by first | rw [HS0.out] | (simp only [Nat.add_sub_cancel]; rw [HS0.out]), by first | rw [HM0.out] | (simp only [Nat.add_sub_cancel]; rw [HM0.out]), hid (fun _ => by have := HM8.out; simpa using this)⟩
        case measure => (simp [intOf] <;> omega)
      · have hd : decide (0 ≤ Y) = false := decide_eq_false (by omega)
        have hd3 : decide ((0 : Int) ≤ K) = false := decide_eq_false hsl
        go_wp2_with fail
        refine (HARR.out _ (by (repeat' (first | with_reducible assumption | with_reducible exact Ext.refl _ | with_reducible refine Ext.alloc ?_ _ | with_reducible refine Ext.set ?_ ?_ _ | with_reducible refine Ext.drew ?_ | with_reducible refine Ext.drewN ?_ _ | with_reducible refine Ext.trans ?_ (by assumption) | (dsimp only; omega))))).mono ?_
        rintro e w5 ⟨g1, cc1, g2, cc2, rfl, row1, row2, hg1, hg2, hE5⟩
        have hE6 := hE4.trans hE5
        have hcell := row1.cell (k := tt) (by have := HXL.out; omega)
        rw [HXT.out] at hcell
        rw [HXL.out]
        have sg : g1 < w5.heap.size := row1.lt
        have H0 := hid (blk_ext G0.out hE5)
        have H1 := hid (blk_ext G1.out hE5)
        have H2 := hid (blk_ext G2.out hE5)
        clear row1 row2 hE5
        have a0 := blk_cell H0.out 0
        have a1 := blk_cell H0.out 1
        have b0 := blk_cell H1.out 0
        have b1 := blk_cell H1.out 1
        have b2 := blk_cell H1.out 2
        have b3 := blk_cell H1.out 3
        have x0 := blk_cell H2.out 0
        have x1 := blk_cell H2.out 1
        have x2 := blk_cell H2.out 2
        have x3 := blk_cell H2.out 3
        have x4 := blk_cell H2.out 4
        simp only [List.getElem?_toArray, List.getElem?_cons_zero, List.getElem?_cons_succ] at a0 a1 b0 b1 b2 b3 x0 x1 x2 x3 x4
        have z0 := (Array.getElem?_eq_some_iff.1 H0.out).1
        have z1 := (Array.getElem?_eq_some_iff.1 H1.out).1
        have z2 := (Array.getElem?_eq_some_iff.1 H2.out).1
        go_wp2_with fail
        go_quiet (fail)
        go_wp2
        go_roundw
        case rel => exact ⟨hE6.drewN _, H0, H1, H2, 0 + 1, by omega, by omega, by go_num, by first | rw [HS0.out] | (simp only [Nat.add_sub_cancel]; rw [HS0.out]), by first | rw [HM0.out] | (simp only [Nat.add_sub_cancel]; rw [HM0.out]), hid (fun _ => by have := HM8.out; simpa using this)⟩
        case measure => (simp [intOf] <;> omega)
    · have hjr : j ≤ rn := by omega
      have hjq : j ≤ q := by omega
      simp only [Nat.add_sub_cancel] at HMJ ⊢
      have a0 := blk_cell HB0.out 0
      have a1 := blk_cell HB0.out 1
      have b0 := blk_cell HB1.out 0
      have b1 := blk_cell HB1.out 1
      have b2 := blk_cell HB1.out 2
      have b3 := blk_cell HB1.out 3
      have x0 := blk_cell HB2.out 0
      have x1 := blk_cell HB2.out 1
      have x2 := blk_cell HB2.out 2
      have x3 := blk_cell HB2.out 3
      have x4 := blk_cell HB2.out 4
      simp only [List.getElem?_toArray, List.getElem?_cons_zero, List.getElem?_cons_succ] at a0 a1 b0 b1 b2 b3 x0 x1 x2 x3 x4
      have z0 := (Array.getElem?_eq_some_iff.1 HB0.out).1
      have z1 := (Array.getElem?_eq_some_iff.1 HB1.out).1
      have z2 := (Array.getElem?_eq_some_iff.1 HB2.out).1
      by_cases hc1 : j + 1 ≤ rn
      · by_cases hc2 : j + 1 ≤ q
        · have hI1 : (j : Int) + 1 ≤ (rn : Int) := by omega
          have hI2 : (j : Int) + 1 ≤ K + 1 := by have := HKQ.out; omega
          have hlt : j < rn := by omega
          obtain ⟨hS, hM, h9, hcom⟩ := HJ.out (j + 1) hc1 hc2
          obtain ⟨rb, roff, rfl, hrb, q1⟩ := (HR.out.ext hE).at_ HRN.out hlt
          have hlo := HRO.out.lo j (by have := HRN.out; omega)
          have hhi := HRO.out.hi j (by have := HRN.out; omega)
          have HSJ := hid (HSS.out j)
          have hVJ := HVV.out j
          obtain ⟨i, hi⟩ : ∃ i : Nat, r.getD j 0 = i := ⟨(r.getD j 0).toNat, by omega⟩
          rw [hi] at q1 hlo hhi HSJ hVJ
          rw [Int.toNat_natCast] at HSJ hVJ
          have hin : i < n := by have := HN.out; omega
          have hmj := ((HJ.out j hjr hjq).2.1).1
          have HST := hid (HSTEP.out i hin (mi j) hmj)
          obtain ⟨b, off, A', c', rfl, hb, hpt⟩ := (HP.out.ext hE).at_ HN.out hin
          have hi1 : (i : Int) < (n : Int) := by omega
          have hi0 : (0 : Int) ≤ (i : Int) := by omega
          clear hi hhi hlo
          have hk0 : (0 : Int) ≤ (j : Int) := by omega
          have hk1 : (j : Int) < (rn : Int) := by omega
          have hwj : IntKind.i64.wrap (j : Int) = (j : Int) := IntWalk.i64_in _ (by omega)
          obtain ⟨p, hpq⟩ : ∃ p, ps.getD i zeroPt = p := ⟨_, rfl⟩
          rw [hpq] at hpt HSJ hVJ HST
          clear hpq
          obtain ⟨d0, d1, d2, d3, d4, d5, d6, d7, hcap, hop⟩ := hpt
          clear d2 d3 d4 d5 d6 d7 hcap hop
          obtain ⟨d, hd⟩ : ∃ d, p.dst = d := ⟨_, rfl⟩
          rw [hd] at d1 HSJ
          clear hd
          by_cases h9' : mi (j + 1) = 2881
          · rw [if_pos h9'] at hVJ
            have HV := hid hVJ
            have hKj : K = (j : Int) := by have := h9 h9'; have := HKQ.out; omega
            subst hKj
            clear hVJ
            go_wp2_with fail
            refine wp_region_held_drew (S := fun w' => (∀ b o, b < wr.heap.size → w'.cell? ⟨b, o, none⟩ = wr.cell? ⟨b, o, none⟩) ∧ wr.heap.size ≤ w'.heap.size ∧ Ext wr w') (by kernel_rfl) ?hS0 (fun hHeld => ?_)
            case hS0 => exact ⟨fun _ _ _ => rfl, Nat.le_refl _, Ext.drew (Ext.refl _)⟩
            refine wpAnyH_take (i := 0) (oi := _) (v := ?v0a) rfl (by kernel_rfl) (by kernel_rfl) (by kernel_rfl) (fun _ _ _ h => h) (Or.inl ⟨by rfl, ?y0a⟩) (by assumption) ?r0a
            case y0a => (intro w' hSw; (try dsimp only at hSw); go_simp; (try with_reducible rfl))
            try simp only [Act.put, List.getElem_toArray, List.getElem_cons_zero, List.getElem_cons_succ, List.setIfInBounds_toArray, List.set_cons_zero, List.set_cons_succ]
            refine wpAnyH_take (i := 1) (oi := _) (v := ?v1a) rfl (by kernel_rfl) (by kernel_rfl) (by kernel_rfl) (fun _ _ _ h => h) (Or.inl ⟨by rfl, ?y1a⟩) (by assumption) ?r1a
            case y1a => (intro w' hSw; (try dsimp only at hSw); go_simp; (try with_reducible rfl))
            try simp only [Act.put, List.getElem_toArray, List.getElem_cons_zero, List.getElem_cons_succ, List.setIfInBounds_toArray, List.set_cons_zero, List.set_cons_succ]
            refine wpAnyH_take (i := 2) (oi := _) (v := ?v2a) rfl (by kernel_rfl) (by kernel_rfl) (by kernel_rfl) (fun _ _ _ h => h) (Or.inl ⟨by rfl, ?y2a⟩) (by assumption) ?r2a
            case y2a => (intro w' hSw; (try dsimp only at hSw); go_simp; (try with_reducible rfl))
            try simp only [Act.put, List.getElem_toArray, List.getElem_cons_zero, List.getElem_cons_succ, List.setIfInBounds_toArray, List.set_cons_zero, List.set_cons_succ]
            refine wpAnyH_take (i := 3) (oi := _) (v := ?v3a) rfl (by kernel_rfl) (by kernel_rfl) (by kernel_rfl) (fun _ _ _ h => h) (Or.inl ⟨by rfl, ?y3a⟩) (by assumption) ?r3a
            case y3a => (intro w' hSw; (try dsimp only at hSw); go_simp; (try with_reducible rfl))
            try simp only [Act.put, List.getElem_toArray, List.getElem_cons_zero, List.getElem_cons_succ, List.setIfInBounds_toArray, List.set_cons_zero, List.set_cons_succ]
            refine wpAnyH_take (i := 4) (oi := _) (v := ?v4a) rfl (by kernel_rfl) (by kernel_rfl) (by kernel_rfl) (fun _ _ _ h => h) (Or.inl ⟨by rfl, ?y4a⟩) (by assumption) ?r4a
            case y4a => (intro w' hSw; (try dsimp only at hSw); go_simp; (try with_reducible rfl))
            try simp only [Act.put, List.getElem_toArray, List.getElem_cons_zero, List.getElem_cons_succ, List.setIfInBounds_toArray, List.set_cons_zero, List.set_cons_succ]
            refine wpAnyH_take (i := 5) (oi := _) (v := ?v5a) rfl (by kernel_rfl) (by kernel_rfl) (by kernel_rfl) (fun _ _ _ h => h) (Or.inl ⟨by rfl, ?y5a⟩) (by assumption) ?r5a
            case y5a => (intro w' hSw; (try dsimp only at hSw); go_simp; (try with_reducible rfl))
            try simp only [Act.put, List.getElem_toArray, List.getElem_cons_zero, List.getElem_cons_succ, List.setIfInBounds_toArray, List.set_cons_zero, List.set_cons_succ]
            refine wpAnyH_take (i := 6) (oi := _) (v := ?v6a) rfl (by kernel_rfl) (by kernel_rfl) (by kernel_rfl) (fun _ _ _ h => h) (Or.inl ⟨by rfl, ?y6a⟩) (by assumption) ?r6a
            case y6a => (intro w' hSw; (try dsimp only at hSw); go_simp; (try with_reducible rfl))
            try simp only [Act.put, List.getElem_toArray, List.getElem_cons_zero, List.getElem_cons_succ, List.setIfInBounds_toArray, List.set_cons_zero, List.set_cons_succ]
            refine wpAnyH_take (i := 7) (oi := _) (v := ?v7a) rfl (by kernel_rfl) (by kernel_rfl) (by kernel_rfl) (fun _ _ _ h => h) (Or.inl ⟨by rfl, ?y7a⟩) (by assumption) ?r7a
            case y7a => (intro w' hSw; (try dsimp only at hSw); go_simp; (try with_reducible rfl))
            try simp only [Act.put, List.getElem_toArray, List.getElem_cons_zero, List.getElem_cons_succ, List.setIfInBounds_toArray, List.set_cons_zero, List.set_cons_succ]
            refine wpAnyH_take (i := 8) (oi := _) (v := ?v8a) rfl (by kernel_rfl) (by kernel_rfl) (by kernel_rfl) (fun _ _ _ h => h) (Or.inl ⟨by rfl, ?y8a⟩) (by assumption) ?r8a
            case y8a => (intro w' hSw; (try dsimp only at hSw); go_simp; (try with_reducible rfl))
            try simp only [Act.put, List.getElem_toArray, List.getElem_cons_zero, List.getElem_cons_succ, List.setIfInBounds_toArray, List.set_cons_zero, List.set_cons_succ]
            refine wpAnyH_ready (rs := [9]) (by kernel_rfl) (by simp) ?_
            refine AllReadyH.cons (o := _) rfl (fun K hK => ?_) AllReadyH.nil
            go_simp
            refine (HST.out _ (hE.drew)).mono ?_
            rintro e w4 ⟨rfl, hE2⟩
            have hx : Ext wr w4 := (Ext.drew (Ext.refl wr)).trans hE2
            have hC := kcell (w1 := wr.drew) (W := wr) (n := wr.heap.size) (fun _ _ _ => rfl) (Nat.le_refl _) hE2
            clear hHeld
            dsimp only
            rw [HV.out]
            refine hK.out _ _ ⟨hC, hx.size, hx⟩ (fun hHeld => ?_)
            clear hK K
            try simp only [Act.put, List.getElem_toArray, List.getElem_cons_zero, List.getElem_cons_succ, List.setIfInBounds_toArray, List.set_cons_zero, List.set_cons_succ]
            refine wpAnyH_take (i := 10) (oi := _) (v := ?v10a) rfl (by kernel_rfl) (by kernel_rfl) (by kernel_rfl) (fun _ _ _ h => h) (Or.inl ⟨by rfl, ?y10a⟩) (by assumption) ?r10a
            case y10a => (intro w' hSw; (try dsimp only at hSw); go_simp; (try with_reducible rfl))
            try simp only [Act.put, List.getElem_toArray, List.getElem_cons_zero, List.getElem_cons_succ, List.setIfInBounds_toArray, List.set_cons_zero, List.set_cons_succ]
            refine wpAnyH_done (by kernel_rfl) ?_ _
            have hE4 := hE.trans hx
            have hz4 := hx.size
            have G0 := hid (blk_ext HB0.out hx)
            have G1 := hid (blk_ext HB1.out hx)
            have G2 := hid (blk_ext HB2.out hx)
            clear hHeld
            go_wp2_with fail
            go_quiet (fail)
            go_wp2_with fail
            refine (works_any _).mono ?_
            rintro e w5 ⟨rfl, hE5⟩
            go_wp2
            go_ret
            exact ⟨rfl, hE4.trans ((Ext.drewN (Ext.refl _) _).trans hE5)⟩
          · rw [if_neg h9'] at hVJ
            have HV := hid hVJ
            have hM8 : mi (j + 1) ≤ 2880 := by omega
            obtain ⟨hSb, hSi⟩ := hcom hM8
            have HARR := hid (HA2.out (st (j + 1)) (mi (j + 1)) (placeB_iff.2 hS) (minuteB_iff.2 ⟨hM.1, hM8⟩))
            obtain ⟨hxl, hxt⟩ := HAF.out (st (j + 1)) (mi (j + 1)) hM.1 hM8
            rw [HSJ.out] at HARR hSb hSi hxt hxl
            clear hVJ hcom
            obtain ⟨M, hMM⟩ : ∃ M, mi (j + 1) = M := ⟨_, rfl⟩
            rw [hMM] at HARR hM8 hSb hSi hxt hxl HV hM
            have HMM := hid hMM
            have HM8 := hid (show mi (j + 1) ≤ 2880 by omega)
            clear hMM h9' h9
            obtain ⟨S, hSS⟩ : ∃ S, sureAt g l pl ph ps (mm : Int) d (tt : Int) M = S := ⟨_, rfl⟩
            rw [hSS] at hSb hSi hxt
            clear hSS
            obtain ⟨xs, hxs⟩ : ∃ xs, arrList selHi g l pl ph ps (mm : Int) d M = xs := ⟨_, rfl⟩
            obtain ⟨ys, hys⟩ : ∃ ys, arrList selLo g l pl ph ps (mm : Int) d M = ys := ⟨_, rfl⟩
            rw [hxs] at HARR hxl hxt
            rw [hys] at HARR
            clear hxs hys
            have HXL := hid hxl
            obtain ⟨Y, hY⟩ : ∃ Y, orN S = Y := ⟨_, rfl⟩
            rw [hY] at hxt
            have HXT := hid hxt
            unfold orN at hY
            have hti0 : (0 : Int) ≤ (tt : Int) := by omega
            have hti1 : (tt : Int) < (mm : Int) := by omega
            have hKQ := HKQ.out
            have hYY : (0 ≤ Y ∧ Y ≤ D ∧ (j : Int) + 1 ≤ K) ∨ (0 ≤ Y ∧ D < Y ∧ ¬ (j : Int) + 1 ≤ K) ∨ (Y < 0 ∧ ¬ (j : Int) + 1 ≤ K) := by
              by_cases hc : j + 1 < q
              · have := hSi.2 hc
                split at hY <;> omega
              · have : ¬ S ≤ D := fun h => hc (hSi.1 h)
                split at hY <;> omega
            clear hxl hxt hY hSi hSb hKQ
            rcases hYY with ⟨hY0, hY, hsl⟩ | ⟨hY0, hY, hsl⟩ | ⟨hY0, hsl⟩
            · have hd : decide (0 ≤ Y) = true := decide_eq_true hY0
              have hd2 : decide (Y ≤ D) = true := decide_eq_true hY
              have hd3 : decide ((j : Int) + 1 ≤ K) = true := decide_eq_true hsl
              go_wp2_with fail
              refine wp_region_held_drew (S := fun w' => (∀ b o, b < wr.heap.size → w'.cell? ⟨b, o, none⟩ = wr.cell? ⟨b, o, none⟩) ∧ wr.heap.size ≤ w'.heap.size ∧ Ext wr w') (by kernel_rfl) ?hS0 (fun hHeld => ?_)
              case hS0 => exact ⟨fun _ _ _ => rfl, Nat.le_refl _, Ext.drew (Ext.refl _)⟩
              refine wpAnyH_take (i := 0) (oi := _) (v := ?v0b) rfl (by kernel_rfl) (by kernel_rfl) (by kernel_rfl) (fun _ _ _ h => h) (Or.inl ⟨by rfl, ?y0b⟩) (by assumption) ?r0b
              case y0b => (intro w' hSw; (try dsimp only at hSw); go_simp; (try with_reducible rfl))
              try simp only [Act.put, List.getElem_toArray, List.getElem_cons_zero, List.getElem_cons_succ, List.setIfInBounds_toArray, List.set_cons_zero, List.set_cons_succ]
              refine wpAnyH_take (i := 1) (oi := _) (v := ?v1b) rfl (by kernel_rfl) (by kernel_rfl) (by kernel_rfl) (fun _ _ _ h => h) (Or.inl ⟨by rfl, ?y1b⟩) (by assumption) ?r1b
              case y1b => (intro w' hSw; (try dsimp only at hSw); go_simp; (try with_reducible rfl))
              try simp only [Act.put, List.getElem_toArray, List.getElem_cons_zero, List.getElem_cons_succ, List.setIfInBounds_toArray, List.set_cons_zero, List.set_cons_succ]
              refine wpAnyH_take (i := 2) (oi := _) (v := ?v2b) rfl (by kernel_rfl) (by kernel_rfl) (by kernel_rfl) (fun _ _ _ h => h) (Or.inl ⟨by rfl, ?y2b⟩) (by assumption) ?r2b
              case y2b => (intro w' hSw; (try dsimp only at hSw); go_simp; (try with_reducible rfl))
              try simp only [Act.put, List.getElem_toArray, List.getElem_cons_zero, List.getElem_cons_succ, List.setIfInBounds_toArray, List.set_cons_zero, List.set_cons_succ]
              refine wpAnyH_take (i := 3) (oi := _) (v := ?v3b) rfl (by kernel_rfl) (by kernel_rfl) (by kernel_rfl) (fun _ _ _ h => h) (Or.inl ⟨by rfl, ?y3b⟩) (by assumption) ?r3b
              case y3b => (intro w' hSw; (try dsimp only at hSw); go_simp; (try with_reducible rfl))
              try simp only [Act.put, List.getElem_toArray, List.getElem_cons_zero, List.getElem_cons_succ, List.setIfInBounds_toArray, List.set_cons_zero, List.set_cons_succ]
              refine wpAnyH_take (i := 4) (oi := _) (v := ?v4b) rfl (by kernel_rfl) (by kernel_rfl) (by kernel_rfl) (fun _ _ _ h => h) (Or.inl ⟨by rfl, ?y4b⟩) (by assumption) ?r4b
              case y4b => (intro w' hSw; (try dsimp only at hSw); go_simp; (try with_reducible rfl))
              try simp only [Act.put, List.getElem_toArray, List.getElem_cons_zero, List.getElem_cons_succ, List.setIfInBounds_toArray, List.set_cons_zero, List.set_cons_succ]
              refine wpAnyH_take (i := 5) (oi := _) (v := ?v5b) rfl (by kernel_rfl) (by kernel_rfl) (by kernel_rfl) (fun _ _ _ h => h) (Or.inl ⟨by rfl, ?y5b⟩) (by assumption) ?r5b
              case y5b => (intro w' hSw; (try dsimp only at hSw); go_simp; (try with_reducible rfl))
              try simp only [Act.put, List.getElem_toArray, List.getElem_cons_zero, List.getElem_cons_succ, List.setIfInBounds_toArray, List.set_cons_zero, List.set_cons_succ]
              refine wpAnyH_take (i := 6) (oi := _) (v := ?v6b) rfl (by kernel_rfl) (by kernel_rfl) (by kernel_rfl) (fun _ _ _ h => h) (Or.inl ⟨by rfl, ?y6b⟩) (by assumption) ?r6b
              case y6b => (intro w' hSw; (try dsimp only at hSw); go_simp; (try with_reducible rfl))
              try simp only [Act.put, List.getElem_toArray, List.getElem_cons_zero, List.getElem_cons_succ, List.setIfInBounds_toArray, List.set_cons_zero, List.set_cons_succ]
              refine wpAnyH_take (i := 7) (oi := _) (v := ?v7b) rfl (by kernel_rfl) (by kernel_rfl) (by kernel_rfl) (fun _ _ _ h => h) (Or.inl ⟨by rfl, ?y7b⟩) (by assumption) ?r7b
              case y7b => (intro w' hSw; (try dsimp only at hSw); go_simp; (try with_reducible rfl))
              try simp only [Act.put, List.getElem_toArray, List.getElem_cons_zero, List.getElem_cons_succ, List.setIfInBounds_toArray, List.set_cons_zero, List.set_cons_succ]
              refine wpAnyH_take (i := 8) (oi := _) (v := ?v8b) rfl (by kernel_rfl) (by kernel_rfl) (by kernel_rfl) (fun _ _ _ h => h) (Or.inl ⟨by rfl, ?y8b⟩) (by assumption) ?r8b
              case y8b => (intro w' hSw; (try dsimp only at hSw); go_simp; (try with_reducible rfl))
              try simp only [Act.put, List.getElem_toArray, List.getElem_cons_zero, List.getElem_cons_succ, List.setIfInBounds_toArray, List.set_cons_zero, List.set_cons_succ]
              refine wpAnyH_ready (rs := [9]) (by kernel_rfl) (by simp) ?_
              refine AllReadyH.cons (o := _) rfl (fun K hK => ?_) AllReadyH.nil
              go_simp
              refine (HST.out _ (hE.drew)).mono ?_
              rintro e w4 ⟨rfl, hE2⟩
              have hx : Ext wr w4 := (Ext.drew (Ext.refl wr)).trans hE2
              have hC := kcell (w1 := wr.drew) (W := wr) (n := wr.heap.size) (fun _ _ _ => rfl) (Nat.le_refl _) hE2
              clear hHeld
              dsimp only
              rw [HV.out]
              refine hK.out _ _ ⟨hC, hx.size, hx⟩ (fun hHeld => ?_)
              clear hK K
              try simp only [Act.put, List.getElem_toArray, List.getElem_cons_zero, List.getElem_cons_succ, List.setIfInBounds_toArray, List.set_cons_zero, List.set_cons_succ]
              refine wpAnyH_take (i := 10) (oi := _) (v := ?v10b) rfl (by kernel_rfl) (by kernel_rfl) (by kernel_rfl) (fun _ _ _ h => h) (Or.inl ⟨by rfl, ?y10b⟩) (by assumption) ?r10b
              case y10b => (intro w' hSw; (try dsimp only at hSw); go_simp; (try with_reducible rfl))
              try simp only [Act.put, List.getElem_toArray, List.getElem_cons_zero, List.getElem_cons_succ, List.setIfInBounds_toArray, List.set_cons_zero, List.set_cons_succ]
              refine wpAnyH_done (by kernel_rfl) ?_ _
              have hE4 := hE.trans hx
              have hz4 := hx.size
              have G0 := hid (blk_ext HB0.out hx)
              have G1 := hid (blk_ext HB1.out hx)
              have G2 := hid (blk_ext HB2.out hx)
              clear hHeld
              go_wp2_with fail
              go_quiet (fail)
              go_wp2_with fail
              refine (HARR.out _ (by (repeat' (first | with_reducible assumption | with_reducible exact Ext.refl _ | with_reducible refine Ext.alloc ?_ _ | with_reducible refine Ext.set ?_ ?_ _ | with_reducible refine Ext.drew ?_ | with_reducible refine Ext.drewN ?_ _ | with_reducible refine Ext.trans ?_ (by assumption) | (dsimp only; omega))))).mono ?_
              rintro e w5 ⟨g1, cc1, g2, cc2, rfl, row1, row2, hg1, hg2, hE5⟩
              have hE6 := hE4.trans ((Ext.drewN (Ext.refl _) _).trans hE5)
              have hcell := row1.cell (k := tt) (by have := HXL.out; omega)
              rw [HXT.out] at hcell
              rw [HXL.out]
              have sg : g1 < w5.heap.size := row1.lt
              have H0 := hid (blk_ext G0.out ((Ext.drewN (Ext.refl _) _).trans hE5))
              have H1 := hid (blk_ext G1.out ((Ext.drewN (Ext.refl _) _).trans hE5))
              have H2 := hid (blk_ext G2.out ((Ext.drewN (Ext.refl _) _).trans hE5))
              clear row1 row2 hE5
              have a0 := blk_cell H0.out 0
              have a1 := blk_cell H0.out 1
              have b0 := blk_cell H1.out 0
              have b1 := blk_cell H1.out 1
              have b2 := blk_cell H1.out 2
              have b3 := blk_cell H1.out 3
              have x0 := blk_cell H2.out 0
              have x1 := blk_cell H2.out 1
              have x2 := blk_cell H2.out 2
              have x3 := blk_cell H2.out 3
              have x4 := blk_cell H2.out 4
              simp only [List.getElem?_toArray, List.getElem?_cons_zero, List.getElem?_cons_succ] at a0 a1 b0 b1 b2 b3 x0 x1 x2 x3 x4
              have z0 := (Array.getElem?_eq_some_iff.1 H0.out).1
              have z1 := (Array.getElem?_eq_some_iff.1 H1.out).1
              have z2 := (Array.getElem?_eq_some_iff.1 H2.out).1
              go_wp2_with fail
              go_quiet (fail)
              go_wp2
              go_roundw
              case rel => exact ⟨hE6.drewN _, H0, H1, H2, j + 1 + 1, by omega, by omega, by go_num, by first | rw [HSJ.out] | (simp only [Nat.add_sub_cancel]; rw [HSJ.out]), by first | rw [HMM.out] | (simp only [Nat.add_sub_cancel]; rw [HMM.out]), hid (fun _ => by have := HM8.out; simpa using this)⟩
              case measure => (simp [intOf] <;> omega)
            · have hd : decide (0 ≤ Y) = true := decide_eq_true hY0
              have hd2 : decide (Y ≤ D) = false := decide_eq_false (by omega)
              have hd3 : decide ((j : Int) + 1 ≤ K) = false := decide_eq_false hsl
              go_wp2_with fail
              refine wp_region_held_drew (S := fun w' => (∀ b o, b < wr.heap.size → w'.cell? ⟨b, o, none⟩ = wr.cell? ⟨b, o, none⟩) ∧ wr.heap.size ≤ w'.heap.size ∧ Ext wr w') (by kernel_rfl) ?hS0 (fun hHeld => ?_)
              case hS0 => exact ⟨fun _ _ _ => rfl, Nat.le_refl _, Ext.drew (Ext.refl _)⟩
              refine wpAnyH_take (i := 0) (oi := _) (v := ?v0c) rfl (by kernel_rfl) (by kernel_rfl) (by kernel_rfl) (fun _ _ _ h => h) (Or.inl ⟨by rfl, ?y0c⟩) (by assumption) ?r0c
              case y0c => (intro w' hSw; (try dsimp only at hSw); go_simp; (try with_reducible rfl))
              try simp only [Act.put, List.getElem_toArray, List.getElem_cons_zero, List.getElem_cons_succ, List.setIfInBounds_toArray, List.set_cons_zero, List.set_cons_succ]
              refine wpAnyH_take (i := 1) (oi := _) (v := ?v1c) rfl (by kernel_rfl) (by kernel_rfl) (by kernel_rfl) (fun _ _ _ h => h) (Or.inl ⟨by rfl, ?y1c⟩) (by assumption) ?r1c
              case y1c => (intro w' hSw; (try dsimp only at hSw); go_simp; (try with_reducible rfl))
              try simp only [Act.put, List.getElem_toArray, List.getElem_cons_zero, List.getElem_cons_succ, List.setIfInBounds_toArray, List.set_cons_zero, List.set_cons_succ]
              refine wpAnyH_take (i := 2) (oi := _) (v := ?v2c) rfl (by kernel_rfl) (by kernel_rfl) (by kernel_rfl) (fun _ _ _ h => h) (Or.inl ⟨by rfl, ?y2c⟩) (by assumption) ?r2c
              case y2c => (intro w' hSw; (try dsimp only at hSw); go_simp; (try with_reducible rfl))
              try simp only [Act.put, List.getElem_toArray, List.getElem_cons_zero, List.getElem_cons_succ, List.setIfInBounds_toArray, List.set_cons_zero, List.set_cons_succ]
              refine wpAnyH_take (i := 3) (oi := _) (v := ?v3c) rfl (by kernel_rfl) (by kernel_rfl) (by kernel_rfl) (fun _ _ _ h => h) (Or.inl ⟨by rfl, ?y3c⟩) (by assumption) ?r3c
              case y3c => (intro w' hSw; (try dsimp only at hSw); go_simp; (try with_reducible rfl))
              try simp only [Act.put, List.getElem_toArray, List.getElem_cons_zero, List.getElem_cons_succ, List.setIfInBounds_toArray, List.set_cons_zero, List.set_cons_succ]
              refine wpAnyH_take (i := 4) (oi := _) (v := ?v4c) rfl (by kernel_rfl) (by kernel_rfl) (by kernel_rfl) (fun _ _ _ h => h) (Or.inl ⟨by rfl, ?y4c⟩) (by assumption) ?r4c
              case y4c => (intro w' hSw; (try dsimp only at hSw); go_simp; (try with_reducible rfl))
              try simp only [Act.put, List.getElem_toArray, List.getElem_cons_zero, List.getElem_cons_succ, List.setIfInBounds_toArray, List.set_cons_zero, List.set_cons_succ]
              refine wpAnyH_take (i := 5) (oi := _) (v := ?v5c) rfl (by kernel_rfl) (by kernel_rfl) (by kernel_rfl) (fun _ _ _ h => h) (Or.inl ⟨by rfl, ?y5c⟩) (by assumption) ?r5c
              case y5c => (intro w' hSw; (try dsimp only at hSw); go_simp; (try with_reducible rfl))
              try simp only [Act.put, List.getElem_toArray, List.getElem_cons_zero, List.getElem_cons_succ, List.setIfInBounds_toArray, List.set_cons_zero, List.set_cons_succ]
              refine wpAnyH_take (i := 6) (oi := _) (v := ?v6c) rfl (by kernel_rfl) (by kernel_rfl) (by kernel_rfl) (fun _ _ _ h => h) (Or.inl ⟨by rfl, ?y6c⟩) (by assumption) ?r6c
              case y6c => (intro w' hSw; (try dsimp only at hSw); go_simp; (try with_reducible rfl))
              try simp only [Act.put, List.getElem_toArray, List.getElem_cons_zero, List.getElem_cons_succ, List.setIfInBounds_toArray, List.set_cons_zero, List.set_cons_succ]
              refine wpAnyH_take (i := 7) (oi := _) (v := ?v7c) rfl (by kernel_rfl) (by kernel_rfl) (by kernel_rfl) (fun _ _ _ h => h) (Or.inl ⟨by rfl, ?y7c⟩) (by assumption) ?r7c
              case y7c => (intro w' hSw; (try dsimp only at hSw); go_simp; (try with_reducible rfl))
              try simp only [Act.put, List.getElem_toArray, List.getElem_cons_zero, List.getElem_cons_succ, List.setIfInBounds_toArray, List.set_cons_zero, List.set_cons_succ]
              refine wpAnyH_take (i := 8) (oi := _) (v := ?v8c) rfl (by kernel_rfl) (by kernel_rfl) (by kernel_rfl) (fun _ _ _ h => h) (Or.inl ⟨by rfl, ?y8c⟩) (by assumption) ?r8c
              case y8c => (intro w' hSw; (try dsimp only at hSw); go_simp; (try with_reducible rfl))
              try simp only [Act.put, List.getElem_toArray, List.getElem_cons_zero, List.getElem_cons_succ, List.setIfInBounds_toArray, List.set_cons_zero, List.set_cons_succ]
              refine wpAnyH_ready (rs := [9]) (by kernel_rfl) (by simp) ?_
              refine AllReadyH.cons (o := _) rfl (fun K hK => ?_) AllReadyH.nil
              go_simp
              refine (HST.out _ (hE.drew)).mono ?_
              rintro e w4 ⟨rfl, hE2⟩
              have hx : Ext wr w4 := (Ext.drew (Ext.refl wr)).trans hE2
              have hC := kcell (w1 := wr.drew) (W := wr) (n := wr.heap.size) (fun _ _ _ => rfl) (Nat.le_refl _) hE2
              clear hHeld
              dsimp only
              rw [HV.out]
              refine hK.out _ _ ⟨hC, hx.size, hx⟩ (fun hHeld => ?_)
              clear hK K
              try simp only [Act.put, List.getElem_toArray, List.getElem_cons_zero, List.getElem_cons_succ, List.setIfInBounds_toArray, List.set_cons_zero, List.set_cons_succ]
              refine wpAnyH_take (i := 10) (oi := _) (v := ?v10c) rfl (by kernel_rfl) (by kernel_rfl) (by kernel_rfl) (fun _ _ _ h => h) (Or.inl ⟨by rfl, ?y10c⟩) (by assumption) ?r10c
              case y10c => (intro w' hSw; (try dsimp only at hSw); go_simp; (try with_reducible rfl))
              try simp only [Act.put, List.getElem_toArray, List.getElem_cons_zero, List.getElem_cons_succ, List.setIfInBounds_toArray, List.set_cons_zero, List.set_cons_succ]
              refine wpAnyH_done (by kernel_rfl) ?_ _
              have hE4 := hE.trans hx
              have hz4 := hx.size
              have G0 := hid (blk_ext HB0.out hx)
              have G1 := hid (blk_ext HB1.out hx)
              have G2 := hid (blk_ext HB2.out hx)
              clear hHeld
              go_wp2_with fail
              go_quiet (fail)
              go_wp2_with fail
              refine (HARR.out _ (by (repeat' (first | with_reducible assumption | with_reducible exact Ext.refl _ | with_reducible refine Ext.alloc ?_ _ | with_reducible refine Ext.set ?_ ?_ _ | with_reducible refine Ext.drew ?_ | with_reducible refine Ext.drewN ?_ _ | with_reducible refine Ext.trans ?_ (by assumption) | (dsimp only; omega))))).mono ?_
              rintro e w5 ⟨g1, cc1, g2, cc2, rfl, row1, row2, hg1, hg2, hE5⟩
              have hE6 := hE4.trans ((Ext.drewN (Ext.refl _) _).trans hE5)
              have hcell := row1.cell (k := tt) (by have := HXL.out; omega)
              rw [HXT.out] at hcell
              rw [HXL.out]
              have sg : g1 < w5.heap.size := row1.lt
              have H0 := hid (blk_ext G0.out ((Ext.drewN (Ext.refl _) _).trans hE5))
              have H1 := hid (blk_ext G1.out ((Ext.drewN (Ext.refl _) _).trans hE5))
              have H2 := hid (blk_ext G2.out ((Ext.drewN (Ext.refl _) _).trans hE5))
              clear row1 row2 hE5
              have a0 := blk_cell H0.out 0
              have a1 := blk_cell H0.out 1
              have b0 := blk_cell H1.out 0
              have b1 := blk_cell H1.out 1
              have b2 := blk_cell H1.out 2
              have b3 := blk_cell H1.out 3
              have x0 := blk_cell H2.out 0
              have x1 := blk_cell H2.out 1
              have x2 := blk_cell H2.out 2
              have x3 := blk_cell H2.out 3
              have x4 := blk_cell H2.out 4
              simp only [List.getElem?_toArray, List.getElem?_cons_zero, List.getElem?_cons_succ] at a0 a1 b0 b1 b2 b3 x0 x1 x2 x3 x4
              have z0 := (Array.getElem?_eq_some_iff.1 H0.out).1
              have z1 := (Array.getElem?_eq_some_iff.1 H1.out).1
              have z2 := (Array.getElem?_eq_some_iff.1 H2.out).1
              go_wp2_with fail
              go_quiet (fail)
              go_wp2
              go_roundw
              case rel => exact ⟨hE6.drewN _, H0, H1, H2, j + 1 + 1, by omega, by omega, by go_num, by first | rw [HSJ.out] | (simp only [Nat.add_sub_cancel]; rw [HSJ.out]), by first | rw [HMM.out] | (simp only [Nat.add_sub_cancel]; rw [HMM.out]), hid (fun _ => by have := HM8.out; simpa using this)⟩
              case measure => (simp [intOf] <;> omega)
            · have hd : decide (0 ≤ Y) = false := decide_eq_false (by omega)
              have hd3 : decide ((j : Int) + 1 ≤ K) = false := decide_eq_false hsl
              go_wp2_with fail
              refine wp_region_held_drew (S := fun w' => (∀ b o, b < wr.heap.size → w'.cell? ⟨b, o, none⟩ = wr.cell? ⟨b, o, none⟩) ∧ wr.heap.size ≤ w'.heap.size ∧ Ext wr w') (by kernel_rfl) ?hS0 (fun hHeld => ?_)
              case hS0 => exact ⟨fun _ _ _ => rfl, Nat.le_refl _, Ext.drew (Ext.refl _)⟩
              refine wpAnyH_take (i := 0) (oi := _) (v := ?v0d) rfl (by kernel_rfl) (by kernel_rfl) (by kernel_rfl) (fun _ _ _ h => h) (Or.inl ⟨by rfl, ?y0d⟩) (by assumption) ?r0d
              case y0d => (intro w' hSw; (try dsimp only at hSw); go_simp; (try with_reducible rfl))
              try simp only [Act.put, List.getElem_toArray, List.getElem_cons_zero, List.getElem_cons_succ, List.setIfInBounds_toArray, List.set_cons_zero, List.set_cons_succ]
              refine wpAnyH_take (i := 1) (oi := _) (v := ?v1d) rfl (by kernel_rfl) (by kernel_rfl) (by kernel_rfl) (fun _ _ _ h => h) (Or.inl ⟨by rfl, ?y1d⟩) (by assumption) ?r1d
              case y1d => (intro w' hSw; (try dsimp only at hSw); go_simp; (try with_reducible rfl))
              try simp only [Act.put, List.getElem_toArray, List.getElem_cons_zero, List.getElem_cons_succ, List.setIfInBounds_toArray, List.set_cons_zero, List.set_cons_succ]
              refine wpAnyH_take (i := 2) (oi := _) (v := ?v2d) rfl (by kernel_rfl) (by kernel_rfl) (by kernel_rfl) (fun _ _ _ h => h) (Or.inl ⟨by rfl, ?y2d⟩) (by assumption) ?r2d
              case y2d => (intro w' hSw; (try dsimp only at hSw); go_simp; (try with_reducible rfl))
              try simp only [Act.put, List.getElem_toArray, List.getElem_cons_zero, List.getElem_cons_succ, List.setIfInBounds_toArray, List.set_cons_zero, List.set_cons_succ]
              refine wpAnyH_take (i := 3) (oi := _) (v := ?v3d) rfl (by kernel_rfl) (by kernel_rfl) (by kernel_rfl) (fun _ _ _ h => h) (Or.inl ⟨by rfl, ?y3d⟩) (by assumption) ?r3d
              case y3d => (intro w' hSw; (try dsimp only at hSw); go_simp; (try with_reducible rfl))
              try simp only [Act.put, List.getElem_toArray, List.getElem_cons_zero, List.getElem_cons_succ, List.setIfInBounds_toArray, List.set_cons_zero, List.set_cons_succ]
              refine wpAnyH_take (i := 4) (oi := _) (v := ?v4d) rfl (by kernel_rfl) (by kernel_rfl) (by kernel_rfl) (fun _ _ _ h => h) (Or.inl ⟨by rfl, ?y4d⟩) (by assumption) ?r4d
              case y4d => (intro w' hSw; (try dsimp only at hSw); go_simp; (try with_reducible rfl))
              try simp only [Act.put, List.getElem_toArray, List.getElem_cons_zero, List.getElem_cons_succ, List.setIfInBounds_toArray, List.set_cons_zero, List.set_cons_succ]
              refine wpAnyH_take (i := 5) (oi := _) (v := ?v5d) rfl (by kernel_rfl) (by kernel_rfl) (by kernel_rfl) (fun _ _ _ h => h) (Or.inl ⟨by rfl, ?y5d⟩) (by assumption) ?r5d
              case y5d => (intro w' hSw; (try dsimp only at hSw); go_simp; (try with_reducible rfl))
              try simp only [Act.put, List.getElem_toArray, List.getElem_cons_zero, List.getElem_cons_succ, List.setIfInBounds_toArray, List.set_cons_zero, List.set_cons_succ]
              refine wpAnyH_take (i := 6) (oi := _) (v := ?v6d) rfl (by kernel_rfl) (by kernel_rfl) (by kernel_rfl) (fun _ _ _ h => h) (Or.inl ⟨by rfl, ?y6d⟩) (by assumption) ?r6d
              case y6d => (intro w' hSw; (try dsimp only at hSw); go_simp; (try with_reducible rfl))
              try simp only [Act.put, List.getElem_toArray, List.getElem_cons_zero, List.getElem_cons_succ, List.setIfInBounds_toArray, List.set_cons_zero, List.set_cons_succ]
              refine wpAnyH_take (i := 7) (oi := _) (v := ?v7d) rfl (by kernel_rfl) (by kernel_rfl) (by kernel_rfl) (fun _ _ _ h => h) (Or.inl ⟨by rfl, ?y7d⟩) (by assumption) ?r7d
              case y7d => (intro w' hSw; (try dsimp only at hSw); go_simp; (try with_reducible rfl))
              try simp only [Act.put, List.getElem_toArray, List.getElem_cons_zero, List.getElem_cons_succ, List.setIfInBounds_toArray, List.set_cons_zero, List.set_cons_succ]
              refine wpAnyH_take (i := 8) (oi := _) (v := ?v8d) rfl (by kernel_rfl) (by kernel_rfl) (by kernel_rfl) (fun _ _ _ h => h) (Or.inl ⟨by rfl, ?y8d⟩) (by assumption) ?r8d
              case y8d => (intro w' hSw; (try dsimp only at hSw); go_simp; (try with_reducible rfl))
              try simp only [Act.put, List.getElem_toArray, List.getElem_cons_zero, List.getElem_cons_succ, List.setIfInBounds_toArray, List.set_cons_zero, List.set_cons_succ]
              refine wpAnyH_ready (rs := [9]) (by kernel_rfl) (by simp) ?_
              refine AllReadyH.cons (o := _) rfl (fun K hK => ?_) AllReadyH.nil
              go_simp
              refine (HST.out _ (hE.drew)).mono ?_
              rintro e w4 ⟨rfl, hE2⟩
              have hx : Ext wr w4 := (Ext.drew (Ext.refl wr)).trans hE2
              have hC := kcell (w1 := wr.drew) (W := wr) (n := wr.heap.size) (fun _ _ _ => rfl) (Nat.le_refl _) hE2
              clear hHeld
              dsimp only
              rw [HV.out]
              refine hK.out _ _ ⟨hC, hx.size, hx⟩ (fun hHeld => ?_)
              clear hK K
              try simp only [Act.put, List.getElem_toArray, List.getElem_cons_zero, List.getElem_cons_succ, List.setIfInBounds_toArray, List.set_cons_zero, List.set_cons_succ]
              refine wpAnyH_take (i := 10) (oi := _) (v := ?v10d) rfl (by kernel_rfl) (by kernel_rfl) (by kernel_rfl) (fun _ _ _ h => h) (Or.inl ⟨by rfl, ?y10d⟩) (by assumption) ?r10d
              case y10d => (intro w' hSw; (try dsimp only at hSw); go_simp; (try with_reducible rfl))
              try simp only [Act.put, List.getElem_toArray, List.getElem_cons_zero, List.getElem_cons_succ, List.setIfInBounds_toArray, List.set_cons_zero, List.set_cons_succ]
              refine wpAnyH_done (by kernel_rfl) ?_ _
              have hE4 := hE.trans hx
              have hz4 := hx.size
              have G0 := hid (blk_ext HB0.out hx)
              have G1 := hid (blk_ext HB1.out hx)
              have G2 := hid (blk_ext HB2.out hx)
              clear hHeld
              go_wp2_with fail
              go_quiet (fail)
              go_wp2_with fail
              refine (HARR.out _ (by (repeat' (first | with_reducible assumption | with_reducible exact Ext.refl _ | with_reducible refine Ext.alloc ?_ _ | with_reducible refine Ext.set ?_ ?_ _ | with_reducible refine Ext.drew ?_ | with_reducible refine Ext.drewN ?_ _ | with_reducible refine Ext.trans ?_ (by assumption) | (dsimp only; omega))))).mono ?_
              rintro e w5 ⟨g1, cc1, g2, cc2, rfl, row1, row2, hg1, hg2, hE5⟩
              have hE6 := hE4.trans ((Ext.drewN (Ext.refl _) _).trans hE5)
              have hcell := row1.cell (k := tt) (by have := HXL.out; omega)
              rw [HXT.out] at hcell
              rw [HXL.out]
              have sg : g1 < w5.heap.size := row1.lt
              have H0 := hid (blk_ext G0.out ((Ext.drewN (Ext.refl _) _).trans hE5))
              have H1 := hid (blk_ext G1.out ((Ext.drewN (Ext.refl _) _).trans hE5))
              have H2 := hid (blk_ext G2.out ((Ext.drewN (Ext.refl _) _).trans hE5))
              clear row1 row2 hE5
              have a0 := blk_cell H0.out 0
              have a1 := blk_cell H0.out 1
              have b0 := blk_cell H1.out 0
              have b1 := blk_cell H1.out 1
              have b2 := blk_cell H1.out 2
              have b3 := blk_cell H1.out 3
              have x0 := blk_cell H2.out 0
              have x1 := blk_cell H2.out 1
              have x2 := blk_cell H2.out 2
              have x3 := blk_cell H2.out 3
              have x4 := blk_cell H2.out 4
              simp only [List.getElem?_toArray, List.getElem?_cons_zero, List.getElem?_cons_succ] at a0 a1 b0 b1 b2 b3 x0 x1 x2 x3 x4
              have z0 := (Array.getElem?_eq_some_iff.1 H0.out).1
              have z1 := (Array.getElem?_eq_some_iff.1 H1.out).1
              have z2 := (Array.getElem?_eq_some_iff.1 H2.out).1
              go_wp2_with fail
              go_quiet (fail)
              go_wp2
              go_roundw
              case rel => exact ⟨hE6.drewN _, H0, H1, H2, j + 1 + 1, by omega, by omega, by go_num, by first | rw [HSJ.out] | (simp only [Nat.add_sub_cancel]; rw [HSJ.out]), by first | rw [HMM.out] | (simp only [Nat.add_sub_cancel]; rw [HMM.out]), hid (fun _ => by have := HM8.out; simpa using this)⟩
              case measure => (simp [intOf] <;> omega)
        · have hI1 : (j : Int) + 1 ≤ (rn : Int) := by omega
          have hI3 : ¬ (j : Int) ≤ K := by have := HKQ.out; omega
          have hI2 : decide ((j : Int) ≤ K) = false := decide_eq_false hI3
          go_wp2_with fail
          refine (works_any _).mono ?_
          rintro e w5 ⟨rfl, hE5⟩
          go_wp2
          go_ret
          exact ⟨rfl, hE.trans hE5⟩
      · have hI1 : decide ((j : Int) + 1 ≤ (rn : Int)) = false := decide_eq_false (by omega)
        go_wp2_with fail
        refine (works_any _).mono ?_
        rintro e w5 ⟨rfl, hE5⟩
        go_wp2
        go_ret
        exact ⟨rfl, hE.trans hE5⟩
end Go.Proofs.Ytbfmcclbbeobkaa
