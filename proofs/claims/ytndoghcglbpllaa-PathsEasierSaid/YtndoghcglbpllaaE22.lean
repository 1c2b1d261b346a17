/- The theorem of the latest start. -/
import Derived.Test.YtndoghcglbpllaaE10
import Derived.Test.YtndoghcglbpllaaE17
import Derived.Test.YtndoghcglbpllaaE21
import Derived.BigQuiet
set_option linter.unusedSimpArgs false
set_option linter.unusedVariables false
namespace Go.Proofs.Ytndoghcglbpllaa
open Go.RowKit
def sureAt (g l pl ph : Int) (ps : List Pt) (m from_ to_ s : Int) : Int := (rows selHi g l pl ph ps m.toNat from_.toNat s (m.toNat - 1)).getD to_.toNat 0
theorem begin_of {m g l pl ph : Int} {ps : List Pt} {xs ts : List Int} (h1 : vNet m ps = true) (h2 : vParty g l pl ph = true) (h3 : ∀ x ∈ xs, placeB m x = true) (h4 : ∀ t ∈ ts, minuteB t = true) : beginE m g l pl ph ps xs ts = 0 := by
  unfold beginE
  rw [if_pos h1, if_pos h2, if_neg, if_neg]
  · simp only [List.any_eq_true, not_exists, not_and]
    intro t ht
    rw [h4 t ht]
    simp
  · simp only [List.any_eq_true, not_exists, not_and]
    intro x hx
    rw [h3 x hx]
    simp
theorem placeB_iff {m x : Int} : placeB m x = true ↔ 0 ≤ x ∧ x < m := by unfold placeB; simp
theorem minuteB_iff {x : Int} : minuteB x = true ↔ 0 ≤ x ∧ x ≤ 2880 := by unfold minuteB; simp

theorem start_facts {m g l pl ph from_ to_ start D : Int} {ps : List Pt} (hF : Fit m g l pl ph from_ to_ start D ps) :
    (∀ s, 0 ≤ s → s ≤ 2880 → 0 ≤ sureAt g l pl ph ps m from_ to_ s ∧ sureAt g l pl ph ps m from_ to_ s ≤ 2881) ∧
    ∀ r, Least (D.toNat + 1) (isLate g l pl ph ps m.toNat from_.toNat to_.toNat D) r →
      (r : Int) ≤ D + 1 ∧ (r = 0 → D < sureAt g l pl ph ps m from_ to_ start) ∧ (r ≠ 0 → (sureAt g l pl ph ps m from_ to_ start ≤ D ↔ start ≤ (r : Int) - 1) ∧ sureAt g l pl ph ps m from_ to_ ((r : Int) - 1) ≤ D) := by
  obtain ⟨k1, k2, k3, k4, k5, k6⟩ := hF
  obtain ⟨hm1, hm2, hN⟩ := vNet_ok k1
  have ha := vParty_ok k2
  rw [placeB_iff] at k3 k4
  rw [minuteB_iff] at k5 k6
  have hb : ∀ s, 0 ≤ s → s ≤ 2880 → 0 ≤ sureAt g l pl ph ps m from_ to_ s ∧ sureAt g l pl ph ps m from_ to_ s ≤ 2881 := fun s h0 h1 => (rows_bd selHi_pos ha hN h0 (by omega) (m.toNat - 1)).2 to_.toNat (by omega)
  have hge : ∀ s, 0 ≤ s → s ≤ 2880 → s ≤ sureAt g l pl ph ps m from_ to_ s := fun s h0 h1 => (rows_ge ha hN h0 (by omega) (m.toNat - 1)).2 to_.toNat (by omega)
  have hmo : ∀ s s', s ≤ s' → sureAt g l pl ph ps m from_ to_ s ≤ sureAt g l pl ph ps m from_ to_ s' := fun s s' h => (rows_mono selHi g l pl ph ps m.toNat from_.toNat h (m.toNat - 1)).2 to_.toNat
  refine ⟨hb, fun r ⟨hr, hlo, hhi⟩ => ⟨by omega, fun h => ?_, fun h => ?_⟩⟩
  · subst h
    by_cases hs : start ≤ D
    · have h1 := hhi start.toNat (by omega) (by omega)
      unfold isLate at h1
      rw [Int.toNat_of_nonneg k5.1] at h1
      exact of_decide_eq_true h1
    · have := hge start k5.1 k5.2
      omega
  · have hlast : sureAt g l pl ph ps m from_ to_ ((r : Int) - 1) ≤ D := by
      have h1 := hlo (r - 1) (by omega)
      unfold isLate at h1
      rw [show ((r - 1 : Nat) : Int) = (r : Int) - 1 by omega] at h1
      have := of_decide_eq_false h1
      unfold sureAt
      omega
    refine ⟨⟨fun hs => ?_, fun hs => ?_⟩, hlast⟩
    · apply Classical.byContradiction
      intro hn
      by_cases hs2 : start ≤ D
      · have h1 := hhi start.toNat (by omega) (by omega)
        unfold isLate at h1
        rw [Int.toNat_of_nonneg k5.1] at h1
        have := of_decide_eq_true h1
        unfold sureAt at hs
        omega
      · have := hge start k5.1 k5.2
        omega
    · have := hmo start ((r : Int) - 1) hs
      omega

theorem arr_facts {g l pl ph from_ s : Int} {ps : List Pt} {mm tt : Nat} (h1 : vNet (mm : Int) ps = true) (h2 : vParty g l pl ph = true) (ht : tt < mm) (h0 : 0 ≤ s) (h9 : s ≤ 2880) :
    (arrList selHi g l pl ph ps (mm : Int) from_ s).length = mm ∧ (arrList selHi g l pl ph ps (mm : Int) from_ s).getD tt 0 = orN (sureAt g l pl ph ps (mm : Int) from_ (tt : Int) s) := by
  obtain ⟨hm1, hm2, hN⟩ := vNet_ok h1
  have ha := vParty_ok h2
  have hb := (rows_bd selHi_pos (g := g) ha hN (from_ := from_.toNat) h0 (by omega : s ≤ 2881) ((mm : Int).toNat - 1)).1
  rw [Int.toNat_natCast] at hb
  unfold arrList sureAt
  rw [Int.toNat_natCast, Int.toNat_natCast]
  refine ⟨by rw [List.length_map]; exact hb, ?_⟩
  rw [List.getD_eq_getElem?_getD, List.getD_eq_getElem?_getD, List.getElem?_map, List.getElem?_eq_getElem (by omega)]
  rfl

set_option maxRecDepth 100000 in
set_option maxHeartbeats 4000000 in
theorem pathsStart_any (m g l pl ph from_ to_ start D v5 : Int) (RA : Option Addr) (rn rc : Nat) (A : Option Addr) (n c : Nat) (ps : List Pt) (hn : ps.length = n) (w : World) (hp : PathsAt w A ps) :
    Calls Try.prog 9 #[.agg #[.int .i64 m, .slice A n c], .agg #[.int .i64 g, .int .i64 l, .int .i64 pl, .int .i64 ph], .agg #[.int .i64 from_, .int .i64 to_, .int .i64 start, .int .i64 D, .slice RA rn rc, .int .i64 v5]] w fun e w' => e = .returned (.bool true) ∧ Ext w w' := by
  have HF := hid (fun (W : World) (hW : Ext w W) => fits_any m g l pl ph from_ to_ start D v5 (.slice RA rn rc) rfl A n c ps hn W (hp.ext hW))
  have HL := hid (fun (hb : beginE m g l pl ph ps [from_, to_] [D] = 0) (W : World) (hW : Ext w W) => latest_ok m g l pl ph from_ to_ D A n c ps hn W (hp.ext hW) hb)
  have HA := hid (fun (s : Int) (hb : beginE m g l pl ph ps [from_] [s] = 0) (W : World) (hW : Ext w W) => arrive_ok m g l pl ph from_ s A n c ps hn W (hp.ext hW) hb)
  clear hp hn
  go_enter Try.func9, Try.ntmps9
  go_wp2_with fail
  refine (HF.out _ (by (repeat' (first | with_reducible assumption | with_reducible exact Ext.refl _ | with_reducible refine Ext.alloc ?_ _ | with_reducible refine Ext.set ?_ ?_ _ | with_reducible refine Ext.drew ?_ | with_reducible refine Ext.drewN ?_ _ | with_reducible refine Ext.trans ?_ (by assumption) | (dsimp only; omega))))).mono ?_
  rintro e w1 ⟨⟨B, rfl, hB⟩, hE⟩
  (first | (have hK := KC.step (n := w.heap.size + 3) (by with_reducible assumption) hE) | (have hK := KC.step (KC.step (n := w.heap.size + 3) (by with_reducible assumption) (ext_alloc1 _ _)) hE) | (have hK := KC.step (KC.refl (n := w.heap.size + 3) (by simp)) hE)); have hC := hK.cell; have hF := hK.fro; have hX := hK.ext
  have HB := hid hB
  have E1 : Ext w w1 := by (repeat' (first | with_reducible assumption | with_reducible exact Ext.refl _ | with_reducible refine Ext.alloc ?_ _ | with_reducible refine Ext.set ?_ ?_ _ | with_reducible refine Ext.drew ?_ | with_reducible refine Ext.drewN ?_ _ | with_reducible refine Ext.trans ?_ (by assumption) | (dsimp only; omega)))
  clear hB
  cases B
  case false =>
    go_wp2_with fail
    refine (works_any _).mono ?_
    rintro e w2 ⟨rfl, hE2⟩
    go_wp2
    go_ret
    exact ⟨rfl, E1.trans hE2⟩
  obtain ⟨hbd, hfacts⟩ := start_facts (HB.out rfl)
  obtain ⟨k1, k2, k3, k4, k5, k6⟩ := HB.out rfl
  have HL2 := hid (HL.out (begin_of k1 k2 (by simp [k3, k4]) (by simp [k6])))
  have HA2 := hid (fun (s : Int) (hs : minuteB s = true) => HA.out s (begin_of k1 k2 (by simp [k3]) (by simp [hs])))
  obtain ⟨hm1, hm2, hN⟩ := vNet_ok k1
  rw [placeB_iff] at k3 k4
  obtain ⟨mm, rfl⟩ : ∃ k : Nat, m = k := ⟨m.toNat, by omega⟩
  obtain ⟨tt, rfl⟩ : ∃ k : Nat, to_ = k := ⟨to_.toNat, by omega⟩
  have htm : tt < mm := by omega
  have HAF := hid (fun (s : Int) (h0 : 0 ≤ s) (h9 : s ≤ 2880) => arr_facts (from_ := from_) (s := s) k1 k2 htm h0 h9)
  have K5 := hid k5
  have K6 := hid (minuteB_iff.1 k6)
  have HFA := hid hfacts
  have HBD := hid hbd
  clear HL HA HF HB k1 k2 k5 k6 hbd hfacts hN hE
  go_wp2_with fail
  refine (HL2.out _ E1).mono ?_
  rintro e w2 ⟨⟨r, hL, rfl⟩, hE⟩
  (first | (have hK := KC.step (n := w.heap.size + 3) (by with_reducible assumption) hE) | (have hK := KC.step (KC.step (n := w.heap.size + 3) (by with_reducible assumption) (ext_alloc1 _ _)) hE) | (have hK := KC.step (KC.refl (n := w.heap.size + 3) (by simp)) hE)); have hC := hK.cell; have hF := hK.fro; have hX := hK.ext
  have E2 : Ext w w2 := E1.trans hE
  obtain ⟨hr1, hr2, hr3⟩ := HFA.out r hL
  clear hE hL HFA
  obtain ⟨hb1, hb2⟩ := HBD.out start (minuteB_iff.1 K5.out).1 (minuteB_iff.1 K5.out).2
  obtain ⟨hxl, hxt⟩ := HAF.out start (minuteB_iff.1 K5.out).1 (minuteB_iff.1 K5.out).2
  have HARR := hid (HA2.out start K5.out)
  obtain ⟨S, hS⟩ : ∃ S, sureAt g l pl ph ps (mm : Int) from_ (tt : Int) start = S := ⟨_, rfl⟩
  rw [hS] at hb1 hb2 hxt hr2 hr3
  obtain ⟨hD0, hD9⟩ := K6.out
  revert hxl HARR hxt
  generalize arrList selHi g l pl ph ps (mm : Int) from_ start = xs
  generalize arrList selLo g l pl ph ps (mm : Int) from_ start = ys
  intro hxl HARR hxt
  have HXL := hid hxl
  have HXT := hid hxt
  have hti0 : (0 : Int) ≤ (tt : Int) := by omega
  have hti1 : (tt : Int) < (mm : Int) := by omega
  clear hxl hxt hS
  by_cases hr : r = 0
  · rw [if_pos hr]
    have hlate := hr2 hr
    clear hr2 hr3
    go_wp2_with fail
    refine (HARR.out _ E2).mono ?_
    rintro e w3 ⟨g1, cc1, g2, cc2, rfl, row1, row2, hg1, hg2, hE⟩
    (first | (have hK := KC.step (n := w.heap.size + 3) (by with_reducible assumption) hE) | (have hK := KC.step (KC.step (n := w.heap.size + 3) (by with_reducible assumption) (ext_alloc1 _ _)) hE) | (have hK := KC.step (KC.refl (n := w.heap.size + 3) (by simp)) hE)); have hC := hK.cell; have hF := hK.fro; have hX := hK.ext
    rw [HXL.out]
    have hcell := row1.cell (k := tt) (by have := HXL.out; omega)
    rw [HXT.out] at hcell
    have E3 : Ext w w3 := E2.trans hE
    clear row1 row2 hE
    obtain ⟨Y, hY⟩ : ∃ Y, orN S = Y := ⟨_, rfl⟩
    rw [hY] at hcell
    unfold orN at hY
    have hYY : Y < 0 ∨ (0 ≤ Y ∧ D < Y) := by split at hY <;> omega
    clear hY
    rcases hYY with hY | ⟨hY0, hY⟩
    · have hd : decide (0 ≤ Y) = false := decide_eq_false (by omega)
      go_wp2_with fail
      go_quiet (fail)
      go_wp2_with fail
      refine (works_any _).mono ?_
      rintro e w4 ⟨rfl, hE4⟩
      have E4 : Ext w w4 := Ext.trans (by (repeat' (first | with_reducible assumption | with_reducible exact Ext.refl _ | with_reducible refine Ext.alloc ?_ _ | with_reducible refine Ext.set ?_ ?_ _ | with_reducible refine Ext.drew ?_ | with_reducible refine Ext.drewN ?_ _ | with_reducible refine Ext.trans ?_ (by assumption) | (dsimp only; omega)))) hE4
      go_wp2
      go_ret
      exact ⟨rfl, E4⟩
    · have hd : decide (0 ≤ Y) = true := decide_eq_true hY0
      have hd2 : decide (Y ≤ D) = false := decide_eq_false (by omega)
      go_wp2_with fail
      go_quiet (fail)
      go_wp2_with fail
      refine (works_any _).mono ?_
      rintro e w4 ⟨rfl, hE4⟩
      have E4 : Ext w w4 := Ext.trans (by (repeat' (first | with_reducible assumption | with_reducible exact Ext.refl _ | with_reducible refine Ext.alloc ?_ _ | with_reducible refine Ext.set ?_ ?_ _ | with_reducible refine Ext.drew ?_ | with_reducible refine Ext.drewN ?_ _ | with_reducible refine Ext.trans ?_ (by assumption) | (dsimp only; omega)))) hE4
      go_wp2
      go_ret
      exact ⟨rfl, E4⟩
  · rw [if_neg hr]
    obtain ⟨hcomes, hown⟩ := hr3 hr
    clear hr2 hr3
    have HOWN := hid hown
    go_wp2_with fail
    refine (HARR.out _ E2).mono ?_
    rintro e w3 ⟨g1, cc1, g2, cc2, rfl, row1, row2, hg1, hg2, hE⟩
    (first | (have hK := KC.step (n := w.heap.size + 3) (by with_reducible assumption) hE) | (have hK := KC.step (KC.step (n := w.heap.size + 3) (by with_reducible assumption) (ext_alloc1 _ _)) hE) | (have hK := KC.step (KC.refl (n := w.heap.size + 3) (by simp)) hE)); have hC := hK.cell; have hF := hK.fro; have hX := hK.ext
    rw [HXL.out]
    have hcell := row1.cell (k := tt) (by have := HXL.out; omega)
    rw [HXT.out] at hcell
    have E3 : Ext w w3 := E2.trans hE
    clear row1 row2 hE hown
    obtain ⟨L, hL⟩ : ∃ L, (r : Int) - 1 = L := ⟨_, rfl⟩
    rw [hL] at hcomes HOWN ⊢
    have hL0 : 0 ≤ L := by omega
    have hL1 : L ≤ D := by omega
    clear hL hr hr1
    obtain ⟨Y, hY⟩ : ∃ Y, orN S = Y := ⟨_, rfl⟩
    rw [hY] at hcell
    unfold orN at hY
    have hYY : (0 ≤ Y ∧ Y ≤ D ∧ start ≤ L) ∨ (0 ≤ Y ∧ D < Y ∧ L < start) ∨ (Y < 0 ∧ L < start) := by
      by_cases hc : start ≤ L
      · have := hcomes.2 hc
        split at hY <;> omega
      · have : ¬ S ≤ D := fun h => hc (hcomes.1 h)
        split at hY <;> omega
    clear hY hcomes
    obtain ⟨hxl2, hxt2⟩ := HAF.out L hL0 (by omega)
    have HARR2 := hid (HA2.out L (minuteB_iff.2 ⟨hL0, by omega⟩))
    have hbo := (HBD.out L hL0 (by omega)).1
    have hown := HOWN.out
    obtain ⟨Y2, hY2⟩ : ∃ Y2, orN (sureAt g l pl ph ps (mm : Int) from_ (tt : Int) L) = Y2 := ⟨_, rfl⟩
    rw [hY2] at hxt2
    have hYb : 0 ≤ Y2 ∧ Y2 ≤ D := by unfold orN at hY2; split at hY2 <;> omega
    obtain ⟨hYb0, hYb1⟩ := hYb
    clear hY2 HOWN hown hbo
    revert hxl2 hxt2 HARR2
    generalize arrList selHi g l pl ph ps (mm : Int) from_ L = xs2
    generalize arrList selLo g l pl ph ps (mm : Int) from_ L = ys2
    intro hxl2 HARR2 hxt2
    have HXL2 := hid hxl2
    have HXT2 := hid hxt2
    clear hxl2 hxt2
    rcases hYY with ⟨hY0, hY, hsl⟩ | ⟨hY0, hY, hsl⟩ | ⟨hY0, hsl⟩
    · have hd : decide (0 ≤ Y) = true := decide_eq_true hY0
      have hd2 : decide (Y ≤ D) = true := decide_eq_true hY
      have hd3 : decide (start ≤ L) = true := decide_eq_true hsl
      go_wp2_with fail
      go_quiet (fail)
      go_wp2_with fail
      refine (HARR2.out _ (by (repeat' (first | with_reducible assumption | with_reducible exact Ext.refl _ | with_reducible refine Ext.alloc ?_ _ | with_reducible refine Ext.set ?_ ?_ _ | with_reducible refine Ext.drew ?_ | with_reducible refine Ext.drewN ?_ _ | with_reducible refine Ext.trans ?_ (by assumption) | (dsimp only; omega))))).mono ?_
      rintro e w5 ⟨g3, cc3, g4, cc4, rfl, row3, row4, hg3, hg4, hE5⟩
      rw [HXL2.out]
      have hE := (Ext.drewN (Ext.refl w3) nq).trans hE5
      (first | (have hK := KC.step (n := w.heap.size + 3) (by with_reducible assumption) hE) | (have hK := KC.step (KC.step (n := w.heap.size + 3) (by with_reducible assumption) (ext_alloc1 _ _)) hE) | (have hK := KC.step (KC.refl (n := w.heap.size + 3) (by simp)) hE)); have hC := hK.cell; have hF := hK.fro; have hX := hK.ext
      have hcell2 := row3.cell (k := tt) (by have := HXL2.out; omega)
      rw [HXT2.out] at hcell2
      have E5 : Ext w w5 := E3.trans hE
      have q1 : w5.cell? ⟨w.heap.size, 0, none⟩ = some (.int .i64 (mm : Int)) := by rw [hC _ _ (by omega)]; go_simp
      have q2 : w5.cell? ⟨w.heap.size + 1 + 1, 1, none⟩ = some (.int .i64 (tt : Int)) := by rw [hC _ _ (by omega)]; go_simp
      have q3 : w5.cell? ⟨w.heap.size + 1 + 1, 3, none⟩ = some (.int .i64 D) := by rw [hC _ _ (by omega)]; go_simp
      have s5 := hK.size
      have sg : g3 < w5.heap.size := row3.lt
      have t1 : w.heap.size < w5.heap.size := by omega
      have t2 : w.heap.size + 1 + 1 < w5.heap.size := by omega
      clear row3 row4 hE hE5 hC hF hX hK hcell
      go_wp2_with fail
      refine wp_region_held_drew (S := fun w' => (∀ b o, b < w5.heap.size → w'.cell? ⟨b, o, none⟩ = w5.cell? ⟨b, o, none⟩) ∧ w5.heap.size ≤ w'.heap.size ∧ Ext w5 w') (by kernel_rfl) ?hS0 (fun hHeld => ?_)
      case hS0 => exact ⟨fun _ _ _ => rfl, Nat.le_refl _, Ext.drew (Ext.refl _)⟩
      refine wpAnyH_take (i := 0) (oi := _) (v := ?v0h) rfl (by kernel_rfl) (by kernel_rfl) (by kernel_rfl) (fun _ _ _ h => h) (Or.inl ⟨by rfl, ?y0h⟩) (by assumption) ?r0h
      case y0h => (intro w' hSw; (try dsimp only at hSw); go_simp; (try with_reducible rfl))
      try simp only [Act.put, List.getElem_toArray, List.getElem_cons_zero, List.getElem_cons_succ, List.setIfInBounds_toArray, List.set_cons_zero, List.set_cons_succ]
      refine wpAnyH_take (i := 1) (oi := _) (v := ?v1h) rfl (by kernel_rfl) (by kernel_rfl) (by kernel_rfl) (fun _ _ _ h => h) (Or.inl ⟨by rfl, ?y1h⟩) (by assumption) ?r1h
      case y1h => (intro w' hSw; (try dsimp only at hSw); go_simp; (try with_reducible rfl))
      try simp only [Act.put, List.getElem_toArray, List.getElem_cons_zero, List.getElem_cons_succ, List.setIfInBounds_toArray, List.set_cons_zero, List.set_cons_succ]
      refine wpAnyH_take (i := 2) (oi := _) (v := ?v2h) rfl (by kernel_rfl) (by kernel_rfl) (by kernel_rfl) (fun _ _ _ h => h) (Or.inl ⟨by rfl, ?y2h⟩) (by assumption) ?r2h
      case y2h => (intro w' hSw; (try dsimp only at hSw); go_simp; (try with_reducible rfl))
      try simp only [Act.put, List.getElem_toArray, List.getElem_cons_zero, List.getElem_cons_succ, List.setIfInBounds_toArray, List.set_cons_zero, List.set_cons_succ]
      refine wpAnyH_take (i := 3) (oi := _) (v := ?v3h) rfl (by kernel_rfl) (by kernel_rfl) (by kernel_rfl) (fun _ _ _ h => h) (Or.inl ⟨by rfl, ?y3h⟩) (by assumption) ?r3h
      case y3h => (intro w' hSw; (try dsimp only at hSw); go_simp; (try with_reducible rfl))
      try simp only [Act.put, List.getElem_toArray, List.getElem_cons_zero, List.getElem_cons_succ, List.setIfInBounds_toArray, List.set_cons_zero, List.set_cons_succ]
      refine wpAnyH_take (i := 4) (oi := _) (v := ?v4h) rfl (by kernel_rfl) (by kernel_rfl) (by kernel_rfl) (fun _ _ _ h => h) (Or.inl ⟨by rfl, ?y4h⟩) (by assumption) ?r4h
      case y4h => (intro w' hSw; (try dsimp only at hSw); go_simp; (try with_reducible rfl))
      try simp only [Act.put, List.getElem_toArray, List.getElem_cons_zero, List.getElem_cons_succ, List.setIfInBounds_toArray, List.set_cons_zero, List.set_cons_succ]
      refine wpAnyH_take (i := 5) (oi := _) (v := ?v5h) rfl (by kernel_rfl) (by kernel_rfl) (by kernel_rfl) (fun _ _ _ h => h) (Or.inl ⟨by rfl, ?y5h⟩) (by assumption) ?r5h
      case y5h => (intro w' hSw; (try dsimp only at hSw); go_simp; (try with_reducible rfl))
      try simp only [Act.put, List.getElem_toArray, List.getElem_cons_zero, List.getElem_cons_succ, List.setIfInBounds_toArray, List.set_cons_zero, List.set_cons_succ]
      refine wpAnyH_take (i := 6) (oi := _) (v := ?v6h) rfl (by kernel_rfl) (by kernel_rfl) (by kernel_rfl) (fun _ _ _ h => h) (Or.inl ⟨by rfl, ?y6h⟩) (by assumption) ?r6h
      case y6h => (intro w' hSw; (try dsimp only at hSw); go_simp; (try with_reducible rfl))
      try simp only [Act.put, List.getElem_toArray, List.getElem_cons_zero, List.getElem_cons_succ, List.setIfInBounds_toArray, List.set_cons_zero, List.set_cons_succ]
      refine wpAnyH_take (i := 7) (oi := _) (v := ?v7h) rfl (by kernel_rfl) (by kernel_rfl) (by kernel_rfl) (fun _ _ _ h => h) (Or.inl ⟨by rfl, ?y7h⟩) (by assumption) ?r7h
      case y7h => (intro w' hSw; (try dsimp only at hSw); go_simp; (try with_reducible rfl))
      try simp only [Act.put, List.getElem_toArray, List.getElem_cons_zero, List.getElem_cons_succ, List.setIfInBounds_toArray, List.set_cons_zero, List.set_cons_succ]
      refine wpAnyH_take (i := 8) (oi := _) (v := ?v8h) rfl (by kernel_rfl) (by kernel_rfl) (by kernel_rfl) (fun _ _ _ h => h) (Or.inl ⟨by rfl, ?y8h⟩) (by assumption) ?r8h
      case y8h => (intro w' hSw; (try dsimp only at hSw); go_simp; (try with_reducible rfl))
      try simp only [Act.put, List.getElem_toArray, List.getElem_cons_zero, List.getElem_cons_succ, List.setIfInBounds_toArray, List.set_cons_zero, List.set_cons_succ]
      refine wpAnyH_take (i := 9) (oi := _) (v := ?v9h) rfl (by kernel_rfl) (by kernel_rfl) (by kernel_rfl) (fun _ _ _ h => h) (Or.inl ⟨by rfl, ?y9h⟩) (by assumption) ?r9h
      case y9h => (intro w' hSw; (try dsimp only at hSw); go_simp; (try with_reducible rfl))
      try simp only [Act.put, List.getElem_toArray, List.getElem_cons_zero, List.getElem_cons_succ, List.setIfInBounds_toArray, List.set_cons_zero, List.set_cons_succ]
      refine wpAnyH_take (i := 10) (oi := _) (v := ?v10h) rfl (by kernel_rfl) (by kernel_rfl) (by kernel_rfl) (fun _ _ _ h => h) (Or.inl ⟨by rfl, ?y10h⟩) (by assumption) ?r10h
      case y10h => (intro w' hSw; (try dsimp only at hSw); go_simp; (try with_reducible rfl))
      try simp only [Act.put, List.getElem_toArray, List.getElem_cons_zero, List.getElem_cons_succ, List.setIfInBounds_toArray, List.set_cons_zero, List.set_cons_succ]
      refine wpAnyH_take (i := 11) (oi := _) (v := ?v11h) rfl (by kernel_rfl) (by kernel_rfl) (by kernel_rfl) (fun _ _ _ h => h) (Or.inl ⟨by rfl, ?y11h⟩) (by assumption) ?r11h
      case y11h => (intro w' hSw; (try dsimp only at hSw); go_simp; (try with_reducible rfl))
      try simp only [Act.put, List.getElem_toArray, List.getElem_cons_zero, List.getElem_cons_succ, List.setIfInBounds_toArray, List.set_cons_zero, List.set_cons_succ]
      refine wpAnyH_take (i := 12) (oi := _) (v := ?v12h) rfl (by kernel_rfl) (by kernel_rfl) (by kernel_rfl) (fun _ _ _ h => h) (Or.inl ⟨by rfl, ?y12h⟩) (by assumption) ?r12h
      case y12h => (intro w' hSw; (try dsimp only at hSw); go_simp; (try with_reducible rfl))
      try simp only [Act.put, List.getElem_toArray, List.getElem_cons_zero, List.getElem_cons_succ, List.setIfInBounds_toArray, List.set_cons_zero, List.set_cons_succ]
      refine wpAnyH_take (i := 13) (oi := _) (v := ?v13h) rfl (by kernel_rfl) (by kernel_rfl) (by kernel_rfl) (fun _ _ _ h => h) (Or.inl ⟨by rfl, ?y13h⟩) (by assumption) ?r13h
      case y13h => (intro w' hSw; (try dsimp only at hSw); go_simp; (try with_reducible rfl))
      try simp only [Act.put, List.getElem_toArray, List.getElem_cons_zero, List.getElem_cons_succ, List.setIfInBounds_toArray, List.set_cons_zero, List.set_cons_succ]
      refine wpAnyH_take (i := 14) (oi := _) (v := ?v14h) rfl (by kernel_rfl) (by kernel_rfl) (by kernel_rfl) (fun _ _ _ h => h) (Or.inl ⟨by rfl, ?y14h⟩) (by assumption) ?r14h
      case y14h => (intro w' hSw; (try dsimp only at hSw); go_simp; (try with_reducible rfl))
      try simp only [Act.put, List.getElem_toArray, List.getElem_cons_zero, List.getElem_cons_succ, List.setIfInBounds_toArray, List.set_cons_zero, List.set_cons_succ]
      refine wpAnyH_take (i := 15) (oi := _) (v := ?v15h) rfl (by kernel_rfl) (by kernel_rfl) (by kernel_rfl) (fun _ _ _ h => h) (Or.inl ⟨by rfl, ?y15h⟩) (by assumption) ?r15h
      case y15h => (intro w' hSw; (try dsimp only at hSw); go_simp; (try with_reducible rfl))
      try simp only [Act.put, List.getElem_toArray, List.getElem_cons_zero, List.getElem_cons_succ, List.setIfInBounds_toArray, List.set_cons_zero, List.set_cons_succ]
      refine wpAnyH_take (i := 16) (oi := _) (v := ?v16h) rfl (by kernel_rfl) (by kernel_rfl) (by kernel_rfl) (fun _ _ _ h => h) (Or.inl ⟨by rfl, ?y16h⟩) (by assumption) ?r16h
      case y16h => (intro w' hSw; (try dsimp only at hSw); go_simp; (try with_reducible rfl))
      try simp only [Act.put, List.getElem_toArray, List.getElem_cons_zero, List.getElem_cons_succ, List.setIfInBounds_toArray, List.set_cons_zero, List.set_cons_succ]
      refine wpAnyH_take (i := 17) (oi := _) (v := ?v17h) rfl (by kernel_rfl) (by kernel_rfl) (by kernel_rfl) (fun _ _ _ h => h) (Or.inl ⟨by rfl, ?y17h⟩) (by assumption) ?r17h
      case y17h => (intro w' hSw; (try dsimp only at hSw); go_simp; (try with_reducible rfl))
      try simp only [Act.put, List.getElem_toArray, List.getElem_cons_zero, List.getElem_cons_succ, List.setIfInBounds_toArray, List.set_cons_zero, List.set_cons_succ]
      refine wpAnyH_take (i := 18) (oi := _) (v := ?v18h) rfl (by kernel_rfl) (by kernel_rfl) (by kernel_rfl) (fun _ _ _ h => h) (Or.inl ⟨by rfl, ?y18h⟩) (by assumption) ?r18h
      case y18h => (intro w' hSw; (try dsimp only at hSw); go_simp; (try with_reducible rfl))
      try simp only [Act.put, List.getElem_toArray, List.getElem_cons_zero, List.getElem_cons_succ, List.setIfInBounds_toArray, List.set_cons_zero, List.set_cons_succ]
      refine wpAnyH_take (i := 19) (oi := _) (v := ?v19h) rfl (by kernel_rfl) (by kernel_rfl) (by kernel_rfl) (fun _ _ _ h => h) (Or.inl ⟨by rfl, ?y19h⟩) (by assumption) ?r19h
      case y19h => (intro w' hSw; (try dsimp only at hSw); go_simp; (try with_reducible rfl))
      try simp only [Act.put, List.getElem_toArray, List.getElem_cons_zero, List.getElem_cons_succ, List.setIfInBounds_toArray, List.set_cons_zero, List.set_cons_succ]
      refine wpAnyH_take (i := 20) (oi := _) (v := ?v20h) rfl (by kernel_rfl) (by kernel_rfl) (by kernel_rfl) (fun _ _ _ h => h) (Or.inl ⟨by rfl, ?y20h⟩) (by assumption) ?r20h
      case y20h => (intro w' hSw; (try dsimp only at hSw); go_simp; (try with_reducible rfl))
      try simp only [Act.put, List.getElem_toArray, List.getElem_cons_zero, List.getElem_cons_succ, List.setIfInBounds_toArray, List.set_cons_zero, List.set_cons_succ]
      refine wpAnyH_take (i := 21) (oi := _) (v := ?v21h) rfl (by kernel_rfl) (by kernel_rfl) (by kernel_rfl) (fun _ _ _ h => h) (Or.inl ⟨by rfl, ?y21h⟩) (by assumption) ?r21h
      case y21h => (intro w' hSw; (try dsimp only at hSw); go_simp; (try with_reducible rfl))
      try simp only [Act.put, List.getElem_toArray, List.getElem_cons_zero, List.getElem_cons_succ, List.setIfInBounds_toArray, List.set_cons_zero, List.set_cons_succ]
      refine wpAnyH_take (i := 22) (oi := _) (v := ?v22h) rfl (by kernel_rfl) (by kernel_rfl) (by kernel_rfl) (fun _ _ _ h => h) (Or.inl ⟨by rfl, ?y22h⟩) (by assumption) ?r22h
      case y22h => (intro w' hSw; (try dsimp only at hSw); go_simp; (try with_reducible rfl))
      try simp only [Act.put, List.getElem_toArray, List.getElem_cons_zero, List.getElem_cons_succ, List.setIfInBounds_toArray, List.set_cons_zero, List.set_cons_succ]
      refine wpAnyH_take (i := 23) (oi := _) (v := ?v23h) rfl (by kernel_rfl) (by kernel_rfl) (by kernel_rfl) (fun _ _ _ h => h) (Or.inl ⟨by rfl, ?y23h⟩) (by assumption) ?r23h
      case y23h => (intro w' hSw; (try dsimp only at hSw); go_simp; (try with_reducible rfl))
      try simp only [Act.put, List.getElem_toArray, List.getElem_cons_zero, List.getElem_cons_succ, List.setIfInBounds_toArray, List.set_cons_zero, List.set_cons_succ]
      refine wpAnyH_take (i := 24) (oi := _) (v := ?v24h) rfl (by kernel_rfl) (by kernel_rfl) (by kernel_rfl) (fun _ _ _ h => h) (Or.inl ⟨by rfl, ?y24h⟩) (by assumption) ?r24h
      case y24h => (intro w' hSw; (try dsimp only at hSw); go_simp; (try with_reducible rfl))
      try simp only [Act.put, List.getElem_toArray, List.getElem_cons_zero, List.getElem_cons_succ, List.setIfInBounds_toArray, List.set_cons_zero, List.set_cons_succ]
      refine wpAnyH_take (i := 25) (oi := _) (v := ?v25h) rfl (by kernel_rfl) (by kernel_rfl) (by kernel_rfl) (fun _ _ _ h => h) (Or.inl ⟨by rfl, ?y25h⟩) (by assumption) ?r25h
      case y25h => (intro w' hSw; (try dsimp only at hSw); go_simp; (try with_reducible rfl))
      try simp only [Act.put, List.getElem_toArray, List.getElem_cons_zero, List.getElem_cons_succ, List.setIfInBounds_toArray, List.set_cons_zero, List.set_cons_succ]
      refine wpAnyH_take (i := 26) (oi := _) (v := ?v26h) rfl (by kernel_rfl) (by kernel_rfl) (by kernel_rfl) (fun _ _ _ h => h) (Or.inl ⟨by rfl, ?y26h⟩) (by assumption) ?r26h
      case y26h => (intro w' hSw; (try dsimp only at hSw); go_simp; (try with_reducible rfl))
      try simp only [Act.put, List.getElem_toArray, List.getElem_cons_zero, List.getElem_cons_succ, List.setIfInBounds_toArray, List.set_cons_zero, List.set_cons_succ]
      refine wpAnyH_take (i := 27) (oi := _) (v := ?v27h) rfl (by kernel_rfl) (by kernel_rfl) (by kernel_rfl) (fun _ _ _ h => h) (Or.inl ⟨by rfl, ?y27h⟩) (by assumption) ?r27h
      case y27h => (intro w' hSw; (try dsimp only at hSw); go_simp; (try with_reducible rfl))
      try simp only [Act.put, List.getElem_toArray, List.getElem_cons_zero, List.getElem_cons_succ, List.setIfInBounds_toArray, List.set_cons_zero, List.set_cons_succ]
      refine wpAnyH_ready (rs := [28]) (by kernel_rfl) (by simp) ?_
      refine AllReadyH.cons (o := _) rfl (fun K hK => ?_) AllReadyH.nil
      go_simp
      refine (works_any _).mono ?_
      rintro e w6 ⟨rfl, hE6⟩
      dsimp only
      have hx : Ext w5 w6 := (Ext.drew (Ext.refl w5)).trans hE6
      clear hHeld
      refine hK.out _ _ ⟨kcell (w1 := w5.drew) (W := w5) (fun _ _ _ => rfl) (Nat.le_refl _) hE6, hx.size, hx⟩ (fun hHeld => ?_)
      clear hK K
      try simp only [Act.put, List.getElem_toArray, List.getElem_cons_zero, List.getElem_cons_succ, List.setIfInBounds_toArray, List.set_cons_zero, List.set_cons_succ]
      refine wpAnyH_take (i := 29) (oi := _) (v := ?v29h) rfl (by kernel_rfl) (by kernel_rfl) (by kernel_rfl) (fun _ _ _ h => h) (Or.inl ⟨by rfl, ?y29h⟩) (by assumption) ?r29h
      case y29h => (intro w' hSw; (try dsimp only at hSw); go_simp; (try with_reducible rfl))
      try simp only [Act.put, List.getElem_toArray, List.getElem_cons_zero, List.getElem_cons_succ, List.setIfInBounds_toArray, List.set_cons_zero, List.set_cons_succ]
      refine wpAnyH_take (i := 30) (oi := _) (v := ?v30h) rfl (by kernel_rfl) (by kernel_rfl) (by kernel_rfl) (fun _ _ _ h => h) (Or.inl ⟨by rfl, ?y30h⟩) (by assumption) ?r30h
      case y30h => (intro w' hSw; (try dsimp only at hSw); go_simp; (try with_reducible rfl))
      try simp only [Act.put, List.getElem_toArray, List.getElem_cons_zero, List.getElem_cons_succ, List.setIfInBounds_toArray, List.set_cons_zero, List.set_cons_succ]
      refine wpAnyH_done (by kernel_rfl) ?_ _
      go_wp2
      go_ret
      exact ⟨rfl, E5.trans hx⟩
    · have hd : decide (0 ≤ Y) = true := decide_eq_true hY0
      have hd2 : decide (Y ≤ D) = false := decide_eq_false (by omega)
      have hd3 : decide (start ≤ L) = false := decide_eq_false (by omega)
      go_wp2_with fail
      go_quiet (fail)
      go_wp2_with fail
      refine (HARR2.out _ (by (repeat' (first | with_reducible assumption | with_reducible exact Ext.refl _ | with_reducible refine Ext.alloc ?_ _ | with_reducible refine Ext.set ?_ ?_ _ | with_reducible refine Ext.drew ?_ | with_reducible refine Ext.drewN ?_ _ | with_reducible refine Ext.trans ?_ (by assumption) | (dsimp only; omega))))).mono ?_
      rintro e w5 ⟨g3, cc3, g4, cc4, rfl, row3, row4, hg3, hg4, hE5⟩
      rw [HXL2.out]
      have hE := (Ext.drewN (Ext.refl w3) nq).trans hE5
      (first | (have hK := KC.step (n := w.heap.size + 3) (by with_reducible assumption) hE) | (have hK := KC.step (KC.step (n := w.heap.size + 3) (by with_reducible assumption) (ext_alloc1 _ _)) hE) | (have hK := KC.step (KC.refl (n := w.heap.size + 3) (by simp)) hE)); have hC := hK.cell; have hF := hK.fro; have hX := hK.ext
      have hcell2 := row3.cell (k := tt) (by have := HXL2.out; omega)
      rw [HXT2.out] at hcell2
      have E5 : Ext w w5 := E3.trans hE
      have q1 : w5.cell? ⟨w.heap.size, 0, none⟩ = some (.int .i64 (mm : Int)) := by rw [hC _ _ (by omega)]; go_simp
      have q2 : w5.cell? ⟨w.heap.size + 1 + 1, 1, none⟩ = some (.int .i64 (tt : Int)) := by rw [hC _ _ (by omega)]; go_simp
      have q3 : w5.cell? ⟨w.heap.size + 1 + 1, 3, none⟩ = some (.int .i64 D) := by rw [hC _ _ (by omega)]; go_simp
      have s5 := hK.size
      have sg : g3 < w5.heap.size := row3.lt
      have t1 : w.heap.size < w5.heap.size := by omega
      have t2 : w.heap.size + 1 + 1 < w5.heap.size := by omega
      clear row3 row4 hE hE5 hC hF hX hK hcell
      go_wp2_with fail
      refine wp_region_held_drew (S := fun w' => (∀ b o, b < w5.heap.size → w'.cell? ⟨b, o, none⟩ = w5.cell? ⟨b, o, none⟩) ∧ w5.heap.size ≤ w'.heap.size ∧ Ext w5 w') (by kernel_rfl) ?hS0 (fun hHeld => ?_)
      case hS0 => exact ⟨fun _ _ _ => rfl, Nat.le_refl _, Ext.drew (Ext.refl _)⟩
      refine wpAnyH_take (i := 0) (oi := _) (v := ?v0i) rfl (by kernel_rfl) (by kernel_rfl) (by kernel_rfl) (fun _ _ _ h => h) (Or.inl ⟨by rfl, ?y0i⟩) (by assumption) ?r0i
      case y0i => (intro w' hSw; (try dsimp only at hSw); go_simp; (try with_reducible rfl))
      try simp only [Act.put, List.getElem_toArray, List.getElem_cons_zero, List.getElem_cons_succ, List.setIfInBounds_toArray, List.set_cons_zero, List.set_cons_succ]
      refine wpAnyH_take (i := 1) (oi := _) (v := ?v1i) rfl (by kernel_rfl) (by kernel_rfl) (by kernel_rfl) (fun _ _ _ h => h) (Or.inl ⟨by rfl, ?y1i⟩) (by assumption) ?r1i
      case y1i => (intro w' hSw; (try dsimp only at hSw); go_simp; (try with_reducible rfl))
      try simp only [Act.put, List.getElem_toArray, List.getElem_cons_zero, List.getElem_cons_succ, List.setIfInBounds_toArray, List.set_cons_zero, List.set_cons_succ]
      refine wpAnyH_take (i := 2) (oi := _) (v := ?v2i) rfl (by kernel_rfl) (by kernel_rfl) (by kernel_rfl) (fun _ _ _ h => h) (Or.inl ⟨by rfl, ?y2i⟩) (by assumption) ?r2i
      case y2i => (intro w' hSw; (try dsimp only at hSw); go_simp; (try with_reducible rfl))
      try simp only [Act.put, List.getElem_toArray, List.getElem_cons_zero, List.getElem_cons_succ, List.setIfInBounds_toArray, List.set_cons_zero, List.set_cons_succ]
      refine wpAnyH_take (i := 3) (oi := _) (v := ?v3i) rfl (by kernel_rfl) (by kernel_rfl) (by kernel_rfl) (fun _ _ _ h => h) (Or.inl ⟨by rfl, ?y3i⟩) (by assumption) ?r3i
      case y3i => (intro w' hSw; (try dsimp only at hSw); go_simp; (try with_reducible rfl))
      try simp only [Act.put, List.getElem_toArray, List.getElem_cons_zero, List.getElem_cons_succ, List.setIfInBounds_toArray, List.set_cons_zero, List.set_cons_succ]
      refine wpAnyH_take (i := 4) (oi := _) (v := ?v4i) rfl (by kernel_rfl) (by kernel_rfl) (by kernel_rfl) (fun _ _ _ h => h) (Or.inl ⟨by rfl, ?y4i⟩) (by assumption) ?r4i
      case y4i => (intro w' hSw; (try dsimp only at hSw); go_simp; (try with_reducible rfl))
      try simp only [Act.put, List.getElem_toArray, List.getElem_cons_zero, List.getElem_cons_succ, List.setIfInBounds_toArray, List.set_cons_zero, List.set_cons_succ]
      refine wpAnyH_take (i := 5) (oi := _) (v := ?v5i) rfl (by kernel_rfl) (by kernel_rfl) (by kernel_rfl) (fun _ _ _ h => h) (Or.inl ⟨by rfl, ?y5i⟩) (by assumption) ?r5i
      case y5i => (intro w' hSw; (try dsimp only at hSw); go_simp; (try with_reducible rfl))
      try simp only [Act.put, List.getElem_toArray, List.getElem_cons_zero, List.getElem_cons_succ, List.setIfInBounds_toArray, List.set_cons_zero, List.set_cons_succ]
      refine wpAnyH_take (i := 6) (oi := _) (v := ?v6i) rfl (by kernel_rfl) (by kernel_rfl) (by kernel_rfl) (fun _ _ _ h => h) (Or.inl ⟨by rfl, ?y6i⟩) (by assumption) ?r6i
      case y6i => (intro w' hSw; (try dsimp only at hSw); go_simp; (try with_reducible rfl))
      try simp only [Act.put, List.getElem_toArray, List.getElem_cons_zero, List.getElem_cons_succ, List.setIfInBounds_toArray, List.set_cons_zero, List.set_cons_succ]
      refine wpAnyH_take (i := 7) (oi := _) (v := ?v7i) rfl (by kernel_rfl) (by kernel_rfl) (by kernel_rfl) (fun _ _ _ h => h) (Or.inl ⟨by rfl, ?y7i⟩) (by assumption) ?r7i
      case y7i => (intro w' hSw; (try dsimp only at hSw); go_simp; (try with_reducible rfl))
      try simp only [Act.put, List.getElem_toArray, List.getElem_cons_zero, List.getElem_cons_succ, List.setIfInBounds_toArray, List.set_cons_zero, List.set_cons_succ]
      refine wpAnyH_take (i := 8) (oi := _) (v := ?v8i) rfl (by kernel_rfl) (by kernel_rfl) (by kernel_rfl) (fun _ _ _ h => h) (Or.inl ⟨by rfl, ?y8i⟩) (by assumption) ?r8i
      case y8i => (intro w' hSw; (try dsimp only at hSw); go_simp; (try with_reducible rfl))
      try simp only [Act.put, List.getElem_toArray, List.getElem_cons_zero, List.getElem_cons_succ, List.setIfInBounds_toArray, List.set_cons_zero, List.set_cons_succ]
      refine wpAnyH_take (i := 9) (oi := _) (v := ?v9i) rfl (by kernel_rfl) (by kernel_rfl) (by kernel_rfl) (fun _ _ _ h => h) (Or.inl ⟨by rfl, ?y9i⟩) (by assumption) ?r9i
      case y9i => (intro w' hSw; (try dsimp only at hSw); go_simp; (try with_reducible rfl))
      try simp only [Act.put, List.getElem_toArray, List.getElem_cons_zero, List.getElem_cons_succ, List.setIfInBounds_toArray, List.set_cons_zero, List.set_cons_succ]
      refine wpAnyH_take (i := 10) (oi := _) (v := ?v10i) rfl (by kernel_rfl) (by kernel_rfl) (by kernel_rfl) (fun _ _ _ h => h) (Or.inl ⟨by rfl, ?y10i⟩) (by assumption) ?r10i
      case y10i => (intro w' hSw; (try dsimp only at hSw); go_simp; (try with_reducible rfl))
      try simp only [Act.put, List.getElem_toArray, List.getElem_cons_zero, List.getElem_cons_succ, List.setIfInBounds_toArray, List.set_cons_zero, List.set_cons_succ]
      refine wpAnyH_take (i := 11) (oi := _) (v := ?v11i) rfl (by kernel_rfl) (by kernel_rfl) (by kernel_rfl) (fun _ _ _ h => h) (Or.inl ⟨by rfl, ?y11i⟩) (by assumption) ?r11i
      case y11i => (intro w' hSw; (try dsimp only at hSw); go_simp; (try with_reducible rfl))
      try simp only [Act.put, List.getElem_toArray, List.getElem_cons_zero, List.getElem_cons_succ, List.setIfInBounds_toArray, List.set_cons_zero, List.set_cons_succ]
      refine wpAnyH_take (i := 12) (oi := _) (v := ?v12i) rfl (by kernel_rfl) (by kernel_rfl) (by kernel_rfl) (fun _ _ _ h => h) (Or.inl ⟨by rfl, ?y12i⟩) (by assumption) ?r12i
      case y12i => (intro w' hSw; (try dsimp only at hSw); go_simp; (try with_reducible rfl))
      try simp only [Act.put, List.getElem_toArray, List.getElem_cons_zero, List.getElem_cons_succ, List.setIfInBounds_toArray, List.set_cons_zero, List.set_cons_succ]
      refine wpAnyH_take (i := 13) (oi := _) (v := ?v13i) rfl (by kernel_rfl) (by kernel_rfl) (by kernel_rfl) (fun _ _ _ h => h) (Or.inl ⟨by rfl, ?y13i⟩) (by assumption) ?r13i
      case y13i => (intro w' hSw; (try dsimp only at hSw); go_simp; (try with_reducible rfl))
      try simp only [Act.put, List.getElem_toArray, List.getElem_cons_zero, List.getElem_cons_succ, List.setIfInBounds_toArray, List.set_cons_zero, List.set_cons_succ]
      refine wpAnyH_take (i := 14) (oi := _) (v := ?v14i) rfl (by kernel_rfl) (by kernel_rfl) (by kernel_rfl) (fun _ _ _ h => h) (Or.inl ⟨by rfl, ?y14i⟩) (by assumption) ?r14i
      case y14i => (intro w' hSw; (try dsimp only at hSw); go_simp; (try with_reducible rfl))
      try simp only [Act.put, List.getElem_toArray, List.getElem_cons_zero, List.getElem_cons_succ, List.setIfInBounds_toArray, List.set_cons_zero, List.set_cons_succ]
      refine wpAnyH_take (i := 15) (oi := _) (v := ?v15i) rfl (by kernel_rfl) (by kernel_rfl) (by kernel_rfl) (fun _ _ _ h => h) (Or.inl ⟨by rfl, ?y15i⟩) (by assumption) ?r15i
      case y15i => (intro w' hSw; (try dsimp only at hSw); go_simp; (try with_reducible rfl))
      try simp only [Act.put, List.getElem_toArray, List.getElem_cons_zero, List.getElem_cons_succ, List.setIfInBounds_toArray, List.set_cons_zero, List.set_cons_succ]
      refine wpAnyH_take (i := 16) (oi := _) (v := ?v16i) rfl (by kernel_rfl) (by kernel_rfl) (by kernel_rfl) (fun _ _ _ h => h) (Or.inl ⟨by rfl, ?y16i⟩) (by assumption) ?r16i
      case y16i => (intro w' hSw; (try dsimp only at hSw); go_simp; (try with_reducible rfl))
      try simp only [Act.put, List.getElem_toArray, List.getElem_cons_zero, List.getElem_cons_succ, List.setIfInBounds_toArray, List.set_cons_zero, List.set_cons_succ]
      refine wpAnyH_take (i := 17) (oi := _) (v := ?v17i) rfl (by kernel_rfl) (by kernel_rfl) (by kernel_rfl) (fun _ _ _ h => h) (Or.inl ⟨by rfl, ?y17i⟩) (by assumption) ?r17i
      case y17i => (intro w' hSw; (try dsimp only at hSw); go_simp; (try with_reducible rfl))
      try simp only [Act.put, List.getElem_toArray, List.getElem_cons_zero, List.getElem_cons_succ, List.setIfInBounds_toArray, List.set_cons_zero, List.set_cons_succ]
      refine wpAnyH_take (i := 18) (oi := _) (v := ?v18i) rfl (by kernel_rfl) (by kernel_rfl) (by kernel_rfl) (fun _ _ _ h => h) (Or.inl ⟨by rfl, ?y18i⟩) (by assumption) ?r18i
      case y18i => (intro w' hSw; (try dsimp only at hSw); go_simp; (try with_reducible rfl))
      try simp only [Act.put, List.getElem_toArray, List.getElem_cons_zero, List.getElem_cons_succ, List.setIfInBounds_toArray, List.set_cons_zero, List.set_cons_succ]
      refine wpAnyH_take (i := 19) (oi := _) (v := ?v19i) rfl (by kernel_rfl) (by kernel_rfl) (by kernel_rfl) (fun _ _ _ h => h) (Or.inl ⟨by rfl, ?y19i⟩) (by assumption) ?r19i
      case y19i => (intro w' hSw; (try dsimp only at hSw); go_simp; (try with_reducible rfl))
      try simp only [Act.put, List.getElem_toArray, List.getElem_cons_zero, List.getElem_cons_succ, List.setIfInBounds_toArray, List.set_cons_zero, List.set_cons_succ]
      refine wpAnyH_take (i := 20) (oi := _) (v := ?v20i) rfl (by kernel_rfl) (by kernel_rfl) (by kernel_rfl) (fun _ _ _ h => h) (Or.inl ⟨by rfl, ?y20i⟩) (by assumption) ?r20i
      case y20i => (intro w' hSw; (try dsimp only at hSw); go_simp; (try with_reducible rfl))
      try simp only [Act.put, List.getElem_toArray, List.getElem_cons_zero, List.getElem_cons_succ, List.setIfInBounds_toArray, List.set_cons_zero, List.set_cons_succ]
      refine wpAnyH_take (i := 21) (oi := _) (v := ?v21i) rfl (by kernel_rfl) (by kernel_rfl) (by kernel_rfl) (fun _ _ _ h => h) (Or.inl ⟨by rfl, ?y21i⟩) (by assumption) ?r21i
      case y21i => (intro w' hSw; (try dsimp only at hSw); go_simp; (try with_reducible rfl))
      try simp only [Act.put, List.getElem_toArray, List.getElem_cons_zero, List.getElem_cons_succ, List.setIfInBounds_toArray, List.set_cons_zero, List.set_cons_succ]
      refine wpAnyH_take (i := 22) (oi := _) (v := ?v22i) rfl (by kernel_rfl) (by kernel_rfl) (by kernel_rfl) (fun _ _ _ h => h) (Or.inl ⟨by rfl, ?y22i⟩) (by assumption) ?r22i
      case y22i => (intro w' hSw; (try dsimp only at hSw); go_simp; (try with_reducible rfl))
      try simp only [Act.put, List.getElem_toArray, List.getElem_cons_zero, List.getElem_cons_succ, List.setIfInBounds_toArray, List.set_cons_zero, List.set_cons_succ]
      refine wpAnyH_take (i := 23) (oi := _) (v := ?v23i) rfl (by kernel_rfl) (by kernel_rfl) (by kernel_rfl) (fun _ _ _ h => h) (Or.inl ⟨by rfl, ?y23i⟩) (by assumption) ?r23i
      case y23i => (intro w' hSw; (try dsimp only at hSw); go_simp; (try with_reducible rfl))
      try simp only [Act.put, List.getElem_toArray, List.getElem_cons_zero, List.getElem_cons_succ, List.setIfInBounds_toArray, List.set_cons_zero, List.set_cons_succ]
      refine wpAnyH_take (i := 24) (oi := _) (v := ?v24i) rfl (by kernel_rfl) (by kernel_rfl) (by kernel_rfl) (fun _ _ _ h => h) (Or.inl ⟨by rfl, ?y24i⟩) (by assumption) ?r24i
      case y24i => (intro w' hSw; (try dsimp only at hSw); go_simp; (try with_reducible rfl))
      try simp only [Act.put, List.getElem_toArray, List.getElem_cons_zero, List.getElem_cons_succ, List.setIfInBounds_toArray, List.set_cons_zero, List.set_cons_succ]
      refine wpAnyH_take (i := 25) (oi := _) (v := ?v25i) rfl (by kernel_rfl) (by kernel_rfl) (by kernel_rfl) (fun _ _ _ h => h) (Or.inl ⟨by rfl, ?y25i⟩) (by assumption) ?r25i
      case y25i => (intro w' hSw; (try dsimp only at hSw); go_simp; (try with_reducible rfl))
      try simp only [Act.put, List.getElem_toArray, List.getElem_cons_zero, List.getElem_cons_succ, List.setIfInBounds_toArray, List.set_cons_zero, List.set_cons_succ]
      refine wpAnyH_take (i := 26) (oi := _) (v := ?v26i) rfl (by kernel_rfl) (by kernel_rfl) (by kernel_rfl) (fun _ _ _ h => h) (Or.inl ⟨by rfl, ?y26i⟩) (by assumption) ?r26i
      case y26i => (intro w' hSw; (try dsimp only at hSw); go_simp; (try with_reducible rfl))
      try simp only [Act.put, List.getElem_toArray, List.getElem_cons_zero, List.getElem_cons_succ, List.setIfInBounds_toArray, List.set_cons_zero, List.set_cons_succ]
      refine wpAnyH_take (i := 27) (oi := _) (v := ?v27i) rfl (by kernel_rfl) (by kernel_rfl) (by kernel_rfl) (fun _ _ _ h => h) (Or.inl ⟨by rfl, ?y27i⟩) (by assumption) ?r27i
      case y27i => (intro w' hSw; (try dsimp only at hSw); go_simp; (try with_reducible rfl))
      try simp only [Act.put, List.getElem_toArray, List.getElem_cons_zero, List.getElem_cons_succ, List.setIfInBounds_toArray, List.set_cons_zero, List.set_cons_succ]
      refine wpAnyH_ready (rs := [28]) (by kernel_rfl) (by simp) ?_
      refine AllReadyH.cons (o := _) rfl (fun K hK => ?_) AllReadyH.nil
      go_simp
      refine (works_any _).mono ?_
      rintro e w6 ⟨rfl, hE6⟩
      dsimp only
      have hx : Ext w5 w6 := (Ext.drew (Ext.refl w5)).trans hE6
      clear hHeld
      refine hK.out _ _ ⟨kcell (w1 := w5.drew) (W := w5) (fun _ _ _ => rfl) (Nat.le_refl _) hE6, hx.size, hx⟩ (fun hHeld => ?_)
      clear hK K
      try simp only [Act.put, List.getElem_toArray, List.getElem_cons_zero, List.getElem_cons_succ, List.setIfInBounds_toArray, List.set_cons_zero, List.set_cons_succ]
      refine wpAnyH_take (i := 29) (oi := _) (v := ?v29i) rfl (by kernel_rfl) (by kernel_rfl) (by kernel_rfl) (fun _ _ _ h => h) (Or.inl ⟨by rfl, ?y29i⟩) (by assumption) ?r29i
      case y29i => (intro w' hSw; (try dsimp only at hSw); go_simp; (try with_reducible rfl))
      try simp only [Act.put, List.getElem_toArray, List.getElem_cons_zero, List.getElem_cons_succ, List.setIfInBounds_toArray, List.set_cons_zero, List.set_cons_succ]
      refine wpAnyH_take (i := 30) (oi := _) (v := ?v30i) rfl (by kernel_rfl) (by kernel_rfl) (by kernel_rfl) (fun _ _ _ h => h) (Or.inl ⟨by rfl, ?y30i⟩) (by assumption) ?r30i
      case y30i => (intro w' hSw; (try dsimp only at hSw); go_simp; (try with_reducible rfl))
      try simp only [Act.put, List.getElem_toArray, List.getElem_cons_zero, List.getElem_cons_succ, List.setIfInBounds_toArray, List.set_cons_zero, List.set_cons_succ]
      refine wpAnyH_done (by kernel_rfl) ?_ _
      go_wp2
      go_ret
      exact ⟨rfl, E5.trans hx⟩
    · have hd : decide (0 ≤ Y) = false := decide_eq_false (by omega)
      have hd3 : decide (start ≤ L) = false := decide_eq_false (by omega)
      go_wp2_with fail
      go_quiet (fail)
      go_wp2_with fail
      refine (HARR2.out _ (by (repeat' (first | with_reducible assumption | with_reducible exact Ext.refl _ | with_reducible refine Ext.alloc ?_ _ | with_reducible refine Ext.set ?_ ?_ _ | with_reducible refine Ext.drew ?_ | with_reducible refine Ext.drewN ?_ _ | with_reducible refine Ext.trans ?_ (by assumption) | (dsimp only; omega))))).mono ?_
      rintro e w5 ⟨g3, cc3, g4, cc4, rfl, row3, row4, hg3, hg4, hE5⟩
      rw [HXL2.out]
      have hE := (Ext.drewN (Ext.refl w3) nq).trans hE5
      (first | (have hK := KC.step (n := w.heap.size + 3) (by with_reducible assumption) hE) | (have hK := KC.step (KC.step (n := w.heap.size + 3) (by with_reducible assumption) (ext_alloc1 _ _)) hE) | (have hK := KC.step (KC.refl (n := w.heap.size + 3) (by simp)) hE)); have hC := hK.cell; have hF := hK.fro; have hX := hK.ext
      have hcell2 := row3.cell (k := tt) (by have := HXL2.out; omega)
      rw [HXT2.out] at hcell2
      have E5 : Ext w w5 := E3.trans hE
      have q1 : w5.cell? ⟨w.heap.size, 0, none⟩ = some (.int .i64 (mm : Int)) := by rw [hC _ _ (by omega)]; go_simp
      have q2 : w5.cell? ⟨w.heap.size + 1 + 1, 1, none⟩ = some (.int .i64 (tt : Int)) := by rw [hC _ _ (by omega)]; go_simp
      have q3 : w5.cell? ⟨w.heap.size + 1 + 1, 3, none⟩ = some (.int .i64 D) := by rw [hC _ _ (by omega)]; go_simp
      have s5 := hK.size
      have sg : g3 < w5.heap.size := row3.lt
      have t1 : w.heap.size < w5.heap.size := by omega
      have t2 : w.heap.size + 1 + 1 < w5.heap.size := by omega
      clear row3 row4 hE hE5 hC hF hX hK hcell
      go_wp2_with fail
      refine wp_region_held_drew (S := fun w' => (∀ b o, b < w5.heap.size → w'.cell? ⟨b, o, none⟩ = w5.cell? ⟨b, o, none⟩) ∧ w5.heap.size ≤ w'.heap.size ∧ Ext w5 w') (by kernel_rfl) ?hS0 (fun hHeld => ?_)
      case hS0 => exact ⟨fun _ _ _ => rfl, Nat.le_refl _, Ext.drew (Ext.refl _)⟩
      refine wpAnyH_take (i := 0) (oi := _) (v := ?v0j) rfl (by kernel_rfl) (by kernel_rfl) (by kernel_rfl) (fun _ _ _ h => h) (Or.inl ⟨by rfl, ?y0j⟩) (by assumption) ?r0j
      case y0j => (intro w' hSw; (try dsimp only at hSw); go_simp; (try with_reducible rfl))
      try simp only [Act.put, List.getElem_toArray, List.getElem_cons_zero, List.getElem_cons_succ, List.setIfInBounds_toArray, List.set_cons_zero, List.set_cons_succ]
      refine wpAnyH_take (i := 1) (oi := _) (v := ?v1j) rfl (by kernel_rfl) (by kernel_rfl) (by kernel_rfl) (fun _ _ _ h => h) (Or.inl ⟨by rfl, ?y1j⟩) (by assumption) ?r1j
      case y1j => (intro w' hSw; (try dsimp only at hSw); go_simp; (try with_reducible rfl))
      try simp only [Act.put, List.getElem_toArray, List.getElem_cons_zero, List.getElem_cons_succ, List.setIfInBounds_toArray, List.set_cons_zero, List.set_cons_succ]
      refine wpAnyH_take (i := 2) (oi := _) (v := ?v2j) rfl (by kernel_rfl) (by kernel_rfl) (by kernel_rfl) (fun _ _ _ h => h) (Or.inl ⟨by rfl, ?y2j⟩) (by assumption) ?r2j
      case y2j => (intro w' hSw; (try dsimp only at hSw); go_simp; (try with_reducible rfl))
      try simp only [Act.put, List.getElem_toArray, List.getElem_cons_zero, List.getElem_cons_succ, List.setIfInBounds_toArray, List.set_cons_zero, List.set_cons_succ]
      refine wpAnyH_take (i := 3) (oi := _) (v := ?v3j) rfl (by kernel_rfl) (by kernel_rfl) (by kernel_rfl) (fun _ _ _ h => h) (Or.inl ⟨by rfl, ?y3j⟩) (by assumption) ?r3j
      case y3j => (intro w' hSw; (try dsimp only at hSw); go_simp; (try with_reducible rfl))
      try simp only [Act.put, List.getElem_toArray, List.getElem_cons_zero, List.getElem_cons_succ, List.setIfInBounds_toArray, List.set_cons_zero, List.set_cons_succ]
      refine wpAnyH_take (i := 4) (oi := _) (v := ?v4j) rfl (by kernel_rfl) (by kernel_rfl) (by kernel_rfl) (fun _ _ _ h => h) (Or.inl ⟨by rfl, ?y4j⟩) (by assumption) ?r4j
      case y4j => (intro w' hSw; (try dsimp only at hSw); go_simp; (try with_reducible rfl))
      try simp only [Act.put, List.getElem_toArray, List.getElem_cons_zero, List.getElem_cons_succ, List.setIfInBounds_toArray, List.set_cons_zero, List.set_cons_succ]
      refine wpAnyH_take (i := 5) (oi := _) (v := ?v5j) rfl (by kernel_rfl) (by kernel_rfl) (by kernel_rfl) (fun _ _ _ h => h) (Or.inl ⟨by rfl, ?y5j⟩) (by assumption) ?r5j
      case y5j => (intro w' hSw; (try dsimp only at hSw); go_simp; (try with_reducible rfl))
      try simp only [Act.put, List.getElem_toArray, List.getElem_cons_zero, List.getElem_cons_succ, List.setIfInBounds_toArray, List.set_cons_zero, List.set_cons_succ]
      refine wpAnyH_take (i := 6) (oi := _) (v := ?v6j) rfl (by kernel_rfl) (by kernel_rfl) (by kernel_rfl) (fun _ _ _ h => h) (Or.inl ⟨by rfl, ?y6j⟩) (by assumption) ?r6j
      case y6j => (intro w' hSw; (try dsimp only at hSw); go_simp; (try with_reducible rfl))
      try simp only [Act.put, List.getElem_toArray, List.getElem_cons_zero, List.getElem_cons_succ, List.setIfInBounds_toArray, List.set_cons_zero, List.set_cons_succ]
      refine wpAnyH_take (i := 7) (oi := _) (v := ?v7j) rfl (by kernel_rfl) (by kernel_rfl) (by kernel_rfl) (fun _ _ _ h => h) (Or.inl ⟨by rfl, ?y7j⟩) (by assumption) ?r7j
      case y7j => (intro w' hSw; (try dsimp only at hSw); go_simp; (try with_reducible rfl))
      try simp only [Act.put, List.getElem_toArray, List.getElem_cons_zero, List.getElem_cons_succ, List.setIfInBounds_toArray, List.set_cons_zero, List.set_cons_succ]
      refine wpAnyH_take (i := 8) (oi := _) (v := ?v8j) rfl (by kernel_rfl) (by kernel_rfl) (by kernel_rfl) (fun _ _ _ h => h) (Or.inl ⟨by rfl, ?y8j⟩) (by assumption) ?r8j
      case y8j => (intro w' hSw; (try dsimp only at hSw); go_simp; (try with_reducible rfl))
      try simp only [Act.put, List.getElem_toArray, List.getElem_cons_zero, List.getElem_cons_succ, List.setIfInBounds_toArray, List.set_cons_zero, List.set_cons_succ]
      refine wpAnyH_take (i := 9) (oi := _) (v := ?v9j) rfl (by kernel_rfl) (by kernel_rfl) (by kernel_rfl) (fun _ _ _ h => h) (Or.inl ⟨by rfl, ?y9j⟩) (by assumption) ?r9j
      case y9j => (intro w' hSw; (try dsimp only at hSw); go_simp; (try with_reducible rfl))
      try simp only [Act.put, List.getElem_toArray, List.getElem_cons_zero, List.getElem_cons_succ, List.setIfInBounds_toArray, List.set_cons_zero, List.set_cons_succ]
      refine wpAnyH_take (i := 10) (oi := _) (v := ?v10j) rfl (by kernel_rfl) (by kernel_rfl) (by kernel_rfl) (fun _ _ _ h => h) (Or.inl ⟨by rfl, ?y10j⟩) (by assumption) ?r10j
      case y10j => (intro w' hSw; (try dsimp only at hSw); go_simp; (try with_reducible rfl))
      try simp only [Act.put, List.getElem_toArray, List.getElem_cons_zero, List.getElem_cons_succ, List.setIfInBounds_toArray, List.set_cons_zero, List.set_cons_succ]
      refine wpAnyH_take (i := 11) (oi := _) (v := ?v11j) rfl (by kernel_rfl) (by kernel_rfl) (by kernel_rfl) (fun _ _ _ h => h) (Or.inl ⟨by rfl, ?y11j⟩) (by assumption) ?r11j
      case y11j => (intro w' hSw; (try dsimp only at hSw); go_simp; (try with_reducible rfl))
      try simp only [Act.put, List.getElem_toArray, List.getElem_cons_zero, List.getElem_cons_succ, List.setIfInBounds_toArray, List.set_cons_zero, List.set_cons_succ]
      refine wpAnyH_take (i := 12) (oi := _) (v := ?v12j) rfl (by kernel_rfl) (by kernel_rfl) (by kernel_rfl) (fun _ _ _ h => h) (Or.inl ⟨by rfl, ?y12j⟩) (by assumption) ?r12j
      case y12j => (intro w' hSw; (try dsimp only at hSw); go_simp; (try with_reducible rfl))
      try simp only [Act.put, List.getElem_toArray, List.getElem_cons_zero, List.getElem_cons_succ, List.setIfInBounds_toArray, List.set_cons_zero, List.set_cons_succ]
      refine wpAnyH_take (i := 13) (oi := _) (v := ?v13j) rfl (by kernel_rfl) (by kernel_rfl) (by kernel_rfl) (fun _ _ _ h => h) (Or.inl ⟨by rfl, ?y13j⟩) (by assumption) ?r13j
      case y13j => (intro w' hSw; (try dsimp only at hSw); go_simp; (try with_reducible rfl))
      try simp only [Act.put, List.getElem_toArray, List.getElem_cons_zero, List.getElem_cons_succ, List.setIfInBounds_toArray, List.set_cons_zero, List.set_cons_succ]
      refine wpAnyH_take (i := 14) (oi := _) (v := ?v14j) rfl (by kernel_rfl) (by kernel_rfl) (by kernel_rfl) (fun _ _ _ h => h) (Or.inl ⟨by rfl, ?y14j⟩) (by assumption) ?r14j
      case y14j => (intro w' hSw; (try dsimp only at hSw); go_simp; (try with_reducible rfl))
      try simp only [Act.put, List.getElem_toArray, List.getElem_cons_zero, List.getElem_cons_succ, List.setIfInBounds_toArray, List.set_cons_zero, List.set_cons_succ]
      refine wpAnyH_take (i := 15) (oi := _) (v := ?v15j) rfl (by kernel_rfl) (by kernel_rfl) (by kernel_rfl) (fun _ _ _ h => h) (Or.inl ⟨by rfl, ?y15j⟩) (by assumption) ?r15j
      case y15j => (intro w' hSw; (try dsimp only at hSw); go_simp; (try with_reducible rfl))
      try simp only [Act.put, List.getElem_toArray, List.getElem_cons_zero, List.getElem_cons_succ, List.setIfInBounds_toArray, List.set_cons_zero, List.set_cons_succ]
      refine wpAnyH_take (i := 16) (oi := _) (v := ?v16j) rfl (by kernel_rfl) (by kernel_rfl) (by kernel_rfl) (fun _ _ _ h => h) (Or.inl ⟨by rfl, ?y16j⟩) (by assumption) ?r16j
      case y16j => (intro w' hSw; (try dsimp only at hSw); go_simp; (try with_reducible rfl))
      try simp only [Act.put, List.getElem_toArray, List.getElem_cons_zero, List.getElem_cons_succ, List.setIfInBounds_toArray, List.set_cons_zero, List.set_cons_succ]
      refine wpAnyH_take (i := 17) (oi := _) (v := ?v17j) rfl (by kernel_rfl) (by kernel_rfl) (by kernel_rfl) (fun _ _ _ h => h) (Or.inl ⟨by rfl, ?y17j⟩) (by assumption) ?r17j
      case y17j => (intro w' hSw; (try dsimp only at hSw); go_simp; (try with_reducible rfl))
      try simp only [Act.put, List.getElem_toArray, List.getElem_cons_zero, List.getElem_cons_succ, List.setIfInBounds_toArray, List.set_cons_zero, List.set_cons_succ]
      refine wpAnyH_take (i := 18) (oi := _) (v := ?v18j) rfl (by kernel_rfl) (by kernel_rfl) (by kernel_rfl) (fun _ _ _ h => h) (Or.inl ⟨by rfl, ?y18j⟩) (by assumption) ?r18j
      case y18j => (intro w' hSw; (try dsimp only at hSw); go_simp; (try with_reducible rfl))
      try simp only [Act.put, List.getElem_toArray, List.getElem_cons_zero, List.getElem_cons_succ, List.setIfInBounds_toArray, List.set_cons_zero, List.set_cons_succ]
      refine wpAnyH_take (i := 19) (oi := _) (v := ?v19j) rfl (by kernel_rfl) (by kernel_rfl) (by kernel_rfl) (fun _ _ _ h => h) (Or.inl ⟨by rfl, ?y19j⟩) (by assumption) ?r19j
      case y19j => (intro w' hSw; (try dsimp only at hSw); go_simp; (try with_reducible rfl))
      try simp only [Act.put, List.getElem_toArray, List.getElem_cons_zero, List.getElem_cons_succ, List.setIfInBounds_toArray, List.set_cons_zero, List.set_cons_succ]
      refine wpAnyH_take (i := 20) (oi := _) (v := ?v20j) rfl (by kernel_rfl) (by kernel_rfl) (by kernel_rfl) (fun _ _ _ h => h) (Or.inl ⟨by rfl, ?y20j⟩) (by assumption) ?r20j
      case y20j => (intro w' hSw; (try dsimp only at hSw); go_simp; (try with_reducible rfl))
      try simp only [Act.put, List.getElem_toArray, List.getElem_cons_zero, List.getElem_cons_succ, List.setIfInBounds_toArray, List.set_cons_zero, List.set_cons_succ]
      refine wpAnyH_take (i := 21) (oi := _) (v := ?v21j) rfl (by kernel_rfl) (by kernel_rfl) (by kernel_rfl) (fun _ _ _ h => h) (Or.inl ⟨by rfl, ?y21j⟩) (by assumption) ?r21j
      case y21j => (intro w' hSw; (try dsimp only at hSw); go_simp; (try with_reducible rfl))
      try simp only [Act.put, List.getElem_toArray, List.getElem_cons_zero, List.getElem_cons_succ, List.setIfInBounds_toArray, List.set_cons_zero, List.set_cons_succ]
      refine wpAnyH_take (i := 22) (oi := _) (v := ?v22j) rfl (by kernel_rfl) (by kernel_rfl) (by kernel_rfl) (fun _ _ _ h => h) (Or.inl ⟨by rfl, ?y22j⟩) (by assumption) ?r22j
      case y22j => (intro w' hSw; (try dsimp only at hSw); go_simp; (try with_reducible rfl))
      try simp only [Act.put, List.getElem_toArray, List.getElem_cons_zero, List.getElem_cons_succ, List.setIfInBounds_toArray, List.set_cons_zero, List.set_cons_succ]
      refine wpAnyH_take (i := 23) (oi := _) (v := ?v23j) rfl (by kernel_rfl) (by kernel_rfl) (by kernel_rfl) (fun _ _ _ h => h) (Or.inl ⟨by rfl, ?y23j⟩) (by assumption) ?r23j
      case y23j => (intro w' hSw; (try dsimp only at hSw); go_simp; (try with_reducible rfl))
      try simp only [Act.put, List.getElem_toArray, List.getElem_cons_zero, List.getElem_cons_succ, List.setIfInBounds_toArray, List.set_cons_zero, List.set_cons_succ]
      refine wpAnyH_take (i := 24) (oi := _) (v := ?v24j) rfl (by kernel_rfl) (by kernel_rfl) (by kernel_rfl) (fun _ _ _ h => h) (Or.inl ⟨by rfl, ?y24j⟩) (by assumption) ?r24j
      case y24j => (intro w' hSw; (try dsimp only at hSw); go_simp; (try with_reducible rfl))
      try simp only [Act.put, List.getElem_toArray, List.getElem_cons_zero, List.getElem_cons_succ, List.setIfInBounds_toArray, List.set_cons_zero, List.set_cons_succ]
      refine wpAnyH_take (i := 25) (oi := _) (v := ?v25j) rfl (by kernel_rfl) (by kernel_rfl) (by kernel_rfl) (fun _ _ _ h => h) (Or.inl ⟨by rfl, ?y25j⟩) (by assumption) ?r25j
      case y25j => (intro w' hSw; (try dsimp only at hSw); go_simp; (try with_reducible rfl))
      try simp only [Act.put, List.getElem_toArray, List.getElem_cons_zero, List.getElem_cons_succ, List.setIfInBounds_toArray, List.set_cons_zero, List.set_cons_succ]
      refine wpAnyH_take (i := 26) (oi := _) (v := ?v26j) rfl (by kernel_rfl) (by kernel_rfl) (by kernel_rfl) (fun _ _ _ h => h) (Or.inl ⟨by rfl, ?y26j⟩) (by assumption) ?r26j
      case y26j => (intro w' hSw; (try dsimp only at hSw); go_simp; (try with_reducible rfl))
      try simp only [Act.put, List.getElem_toArray, List.getElem_cons_zero, List.getElem_cons_succ, List.setIfInBounds_toArray, List.set_cons_zero, List.set_cons_succ]
      refine wpAnyH_take (i := 27) (oi := _) (v := ?v27j) rfl (by kernel_rfl) (by kernel_rfl) (by kernel_rfl) (fun _ _ _ h => h) (Or.inl ⟨by rfl, ?y27j⟩) (by assumption) ?r27j
      case y27j => (intro w' hSw; (try dsimp only at hSw); go_simp; (try with_reducible rfl))
      try simp only [Act.put, List.getElem_toArray, List.getElem_cons_zero, List.getElem_cons_succ, List.setIfInBounds_toArray, List.set_cons_zero, List.set_cons_succ]
      refine wpAnyH_ready (rs := [28]) (by kernel_rfl) (by simp) ?_
      refine AllReadyH.cons (o := _) rfl (fun K hK => ?_) AllReadyH.nil
      go_simp
      refine (works_any _).mono ?_
      rintro e w6 ⟨rfl, hE6⟩
      dsimp only
      have hx : Ext w5 w6 := (Ext.drew (Ext.refl w5)).trans hE6
      clear hHeld
      refine hK.out _ _ ⟨kcell (w1 := w5.drew) (W := w5) (fun _ _ _ => rfl) (Nat.le_refl _) hE6, hx.size, hx⟩ (fun hHeld => ?_)
      clear hK K
      try simp only [Act.put, List.getElem_toArray, List.getElem_cons_zero, List.getElem_cons_succ, List.setIfInBounds_toArray, List.set_cons_zero, List.set_cons_succ]
      refine wpAnyH_take (i := 29) (oi := _) (v := ?v29j) rfl (by kernel_rfl) (by kernel_rfl) (by kernel_rfl) (fun _ _ _ h => h) (Or.inl ⟨by rfl, ?y29j⟩) (by assumption) ?r29j
      case y29j => (intro w' hSw; (try dsimp only at hSw); go_simp; (try with_reducible rfl))
      try simp only [Act.put, List.getElem_toArray, List.getElem_cons_zero, List.getElem_cons_succ, List.setIfInBounds_toArray, List.set_cons_zero, List.set_cons_succ]
      refine wpAnyH_take (i := 30) (oi := _) (v := ?v30j) rfl (by kernel_rfl) (by kernel_rfl) (by kernel_rfl) (fun _ _ _ h => h) (Or.inl ⟨by rfl, ?y30j⟩) (by assumption) ?r30j
      case y30j => (intro w' hSw; (try dsimp only at hSw); go_simp; (try with_reducible rfl))
      try simp only [Act.put, List.getElem_toArray, List.getElem_cons_zero, List.getElem_cons_succ, List.setIfInBounds_toArray, List.set_cons_zero, List.set_cons_succ]
      refine wpAnyH_done (by kernel_rfl) ?_ _
      go_wp2
      go_ret
      exact ⟨rfl, E5.trans hx⟩
end Go.Proofs.Ytndoghcglbpllaa
