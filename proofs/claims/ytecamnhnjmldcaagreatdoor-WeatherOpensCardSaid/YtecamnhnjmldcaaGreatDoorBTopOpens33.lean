/- Check of a net, as the chapter specifies it. -/
import Derived.Test.YtecamnhnjmldcaaGreatDoorB16
set_option linter.unusedSimpArgs false
set_option linter.unusedVariables false
namespace Go.Proofs.YtecamnhnjmldcaaGreatDoor
open Go.RowKit
set_option maxHeartbeats 400000 in
theorem within_any (a b c : Int) (w : World) :
    Calls Tryz.prog 74 #[.int .i64 a, .int .i64 b, .int .i64 c] w fun e w' => e = .returned (.bool (decide (b ≤ a) && decide (a ≤ c))) ∧ w' = w := by
  go_enter Tryz.func74, Tryz.ntmps74
  go_wp2
  all_goals (go_ret; exact ⟨ret_bool (by first | (simp [*]; done) | (simp [*]; omega)), rfl⟩)
set_option maxHeartbeats 400000 in
theorem isSpan_any (l h b c : Int) (w : World) :
    Calls Tryz.prog 75 #[.agg #[.int .i64 l, .int .i64 h], .int .i64 b, .int .i64 c] w fun e w' => e = .returned (.bool (decide (b ≤ l) && decide (l ≤ h) && decide (h ≤ c))) ∧ Ext w w' := by
  go_enter Tryz.func75, Tryz.ntmps75
  go_wp2
  all_goals (go_ret; exact ⟨ret_bool (by first | (simp [*]; done) | (simp [*]; omega)), by (repeat' (first | with_reducible assumption | with_reducible exact Ext.refl _ | with_reducible refine Ext.alloc ?_ _ | with_reducible refine Ext.set ?_ ?_ _ | with_reducible refine Ext.drew ?_ | with_reducible refine Ext.drewN ?_ _ | with_reducible refine Ext.trans ?_ (by assumption) | (dsimp only; omega)))⟩)
set_option maxHeartbeats 400000 in
theorem rIsPlace_any (m a : Int) (v : Value) (h1 : 0 ≤ m) (h2 : m ≤ 1000) (w : World) :
    Calls Tryz.prog 32 #[.agg #[.int .i64 m, v], .int .i64 a] w fun e w' => e = .returned (.bool (decide (0 ≤ a) && decide (a < m))) ∧ Ext w w' := by
  go_enter Tryz.func32, Tryz.ntmps32
  go_wp2_with (go_at_call 74; refine (within_any _ _ _ _).mono ?_; rintro e w' ⟨rfl, rfl⟩)
  go_ret
  exact ⟨ret_bool (by congr 1; simp; omega), by (repeat' (first | with_reducible assumption | with_reducible exact Ext.refl _ | with_reducible refine Ext.alloc ?_ _ | with_reducible refine Ext.set ?_ ?_ _ | with_reducible refine Ext.drew ?_ | with_reducible refine Ext.drewN ?_ _ | with_reducible refine Ext.trans ?_ (by assumption) | (dsimp only; omega)))⟩
set_option maxHeartbeats 400000 in
theorem rIsPath_any (a : Int) (v : Value) (A : Option Addr) (n c : Nat) (h2 : n ≤ 1000) (w : World) :
    Calls Tryz.prog 64 #[.agg #[v, .slice A n c], .int .i64 a] w fun e w' => e = .returned (.bool (decide (0 ≤ a) && decide (a < n))) ∧ Ext w w' := by
  go_enter Tryz.func64, Tryz.ntmps64
  go_wp2_with (go_at_call 74; refine (within_any _ _ _ _).mono ?_; rintro e w' ⟨rfl, rfl⟩)
  go_ret
  exact ⟨ret_bool (by congr 1; simp; omega), by (repeat' (first | with_reducible assumption | with_reducible exact Ext.refl _ | with_reducible refine Ext.alloc ?_ _ | with_reducible refine Ext.set ?_ ?_ _ | with_reducible refine Ext.drew ?_ | with_reducible refine Ext.drewN ?_ _ | with_reducible refine Ext.trans ?_ (by assumption) | (dsimp only; omega)))⟩
theorem rIsPlace_b (m a : Int) (v : Value) (h1 : 0 ≤ m) (h2 : m ≤ 1000) (w : World) : Calls Tryz.prog 32 #[.agg #[.int .i64 m, v], .int .i64 a] w fun e w' => e = .returned (.bool (placeB m a)) ∧ Ext w w' := rIsPlace_any m a v h1 h2 w
theorem gradeR_b (a : Int) (w : World) : Calls Tryz.prog 74 #[.int .i64 a, .int .i64 1, .int .i64 6] w fun e w' => e = .returned (.bool (gradeB a)) ∧ w' = w := within_any a 1 6 w
theorem isSpan_b (l h b c : Int) (w : World) : Calls Tryz.prog 75 #[.agg #[.int .i64 l, .int .i64 h], .int .i64 b, .int .i64 c] w fun e w' => e = .returned (.bool (spanB l h b c)) ∧ Ext w w' := isSpan_any l h b c w
def checkE (m : Int) (ps : List Pt) : Int := if vNet m ps = true then 0 else 10

theorem vNet_bad {m : Int} {ps : List Pt} (k : Nat) (hk : k < ps.length) (h : vPath m (ps.getD k zeroPt) = false) : checkE m ps = 10 := by
  unfold checkE
  rw [if_neg]
  intro hv
  unfold vNet at hv
  simp only [Bool.and_eq_true, List.all_eq_true] at hv
  have := hv.2.2.2 (ps.getD k zeroPt) (by rw [List.getD_eq_getElem?_getD, List.getElem?_eq_getElem hk]; exact List.getElem_mem hk)
  rw [h] at this
  cases this
theorem vNet_good {m : Int} {ps : List Pt} (h1 : 1 ≤ m) (h2 : m ≤ 12) (h3 : ps.length ≤ 24) (h : ∀ k, k < ps.length → vPath m (ps.getD k zeroPt) = true) : checkE m ps = 0 := by
  unfold checkE
  rw [if_pos]
  unfold vNet
  rw [decide_eq_true h1, decide_eq_true h2, decide_eq_true h3]
  simp only [Bool.true_and, List.all_eq_true]
  intro p hp
  obtain ⟨i, hi, rfl⟩ := List.getElem_of_mem hp
  have := h i hi
  rwa [List.getD_eq_getElem?_getD, List.getElem?_eq_getElem hi] at this

set_option maxRecDepth 100000 in
set_option maxHeartbeats 4000000 in
theorem rNetChk_any (m : Int) (A : Option Addr) (n c : Nat) (ps : List Pt) (hn : ps.length = n) (w : World) (hp : PathsAt w A ps) :
    Calls Tryz.prog 63 #[.agg #[.int .i64 m, .slice A n c]] w fun e w' => e = .returned (.int .i64 (checkE m ps)) ∧ Ext w w' := by
  have HP := hid hp
  have HN := hid hn
  clear hp
  by_cases h1 : 1 ≤ m
  case neg => have HBAD := hid (show checkE m ps = 10 by unfold checkE; rw [if_neg]; intro hv; unfold vNet at hv; simp only [Bool.and_eq_true, decide_eq_true_eq] at hv; omega)
              go_enter Tryz.func63, Tryz.ntmps63
              go_wp2_with (first
                | (go_at_call 74; refine (within_any _ _ _ _).mono ?_; rintro e w2 ⟨rfl, rfl⟩))
              go_ret
              exact ⟨ret_int (by rw [HBAD.out]), by (repeat' (first | with_reducible assumption | with_reducible exact Ext.refl _ | with_reducible refine Ext.alloc ?_ _ | with_reducible refine Ext.set ?_ ?_ _ | with_reducible refine Ext.drew ?_ | with_reducible refine Ext.drewN ?_ _ | with_reducible refine Ext.trans ?_ (by assumption) | (dsimp only; omega)))⟩
  by_cases h2 : m ≤ 12
  case neg => have HBAD := hid (show checkE m ps = 10 by unfold checkE; rw [if_neg]; intro hv; unfold vNet at hv; simp only [Bool.and_eq_true, decide_eq_true_eq] at hv; omega)
              go_enter Tryz.func63, Tryz.ntmps63
              go_wp2_with (first
                | (go_at_call 74; refine (within_any _ _ _ _).mono ?_; rintro e w2 ⟨rfl, rfl⟩))
              go_ret
              exact ⟨ret_int (by rw [HBAD.out]), by (repeat' (first | with_reducible assumption | with_reducible exact Ext.refl _ | with_reducible refine Ext.alloc ?_ _ | with_reducible refine Ext.set ?_ ?_ _ | with_reducible refine Ext.drew ?_ | with_reducible refine Ext.drewN ?_ _ | with_reducible refine Ext.trans ?_ (by assumption) | (dsimp only; omega)))⟩
  by_cases h3 : n ≤ 24
  case neg => have HBAD := hid (show checkE m ps = 10 by unfold checkE; rw [if_neg]; intro hv; unfold vNet at hv; simp only [Bool.and_eq_true, decide_eq_true_eq] at hv; omega)
              go_enter Tryz.func63, Tryz.ntmps63
              go_wp2_with (first
                | (go_at_call 74; refine (within_any _ _ _ _).mono ?_; rintro e w2 ⟨rfl, rfl⟩))
              go_ret
              exact ⟨ret_int (by rw [HBAD.out]), by (repeat' (first | with_reducible assumption | with_reducible exact Ext.refl _ | with_reducible refine Ext.alloc ?_ _ | with_reducible refine Ext.set ?_ ?_ _ | with_reducible refine Ext.drew ?_ | with_reducible refine Ext.drewN ?_ _ | with_reducible refine Ext.trans ?_ (by assumption) | (dsimp only; omega)))⟩
  have HGOOD := hid (vNet_good (m := m) (ps := ps) h1 h2 (by omega))
  have HBADK := hid (fun k hk h => vNet_bad (m := m) (ps := ps) k hk h)
  clear hn
  have hw1 : decide (1 ≤ m) && decide (m ≤ 12) = true := by simp [h1, h2]
  go_enter Tryz.func63, Tryz.ntmps63
  go_wp2_with (first
    | (go_at_call 74; refine (within_any _ _ _ _).mono ?_; rintro e w2 ⟨rfl, rfl⟩))
  have B0 := hid (heap_alloc_new w (.cells #[.int .i64 m, .slice A n c] 47))
  go_loopw [3] (fun i wr => Ext w wr ∧ Hid (wr.heap[w.heap.size]? = some (.cells #[.int .i64 m, .slice A n c] 47 (0, 0))) ∧ ∃ k : Nat, k ≤ n ∧ i = .int .i64 k ∧ Hid (∀ j, j < k → vPath m (ps.getD j zeroPt) = true)) (fun i _ => n - (intOf i).toNat)
  case atStart => exact ⟨by (repeat' (first | with_reducible assumption | with_reducible exact Ext.refl _ | with_reducible refine Ext.alloc ?_ _ | with_reducible refine Ext.set ?_ ?_ _ | with_reducible refine Ext.drew ?_ | with_reducible refine Ext.drewN ?_ _ | with_reducible refine Ext.trans ?_ (by assumption) | (dsimp only; omega))), B0, 0, Nat.zero_le _, rfl, hid (fun j hj => by omega)⟩
  case round =>
    clear B0
    obtain ⟨hE, HB, k, hk, rfl, HA⟩ := hrel
    have hEo := hE
    have c0 := blk_cell HB.out 0
    have c1 := blk_cell HB.out 1
    have hs := (Array.getElem?_eq_some_iff.1 HB.out).1
    simp only [List.getElem?_toArray, List.getElem?_cons_zero, List.getElem?_cons_succ] at c0 c1
    by_cases hlt : k < n
    · obtain ⟨b, off, rfl, hb, hc⟩ := (HP.out.ext hE) (by intro e; have := HN.out; rw [e] at this; simp at this; omega)
      obtain ⟨A', c', hpt⟩ := hc k (by have := HN.out; omega)
      have HBAD1 := hid (HBADK.out k (by have := HN.out; omega))
      have hk0 : (0 : Int) ≤ (k : Int) := by omega
      have hk1 : (k : Int) < (n : Int) := by omega
      clear hc
      obtain ⟨p, hpp⟩ : ∃ p, ps.getD k zeroPt = p := ⟨_, rfl⟩
      rw [hpp] at hpt HBAD1
      have HPP := hid hpp
      clear hpp
      obtain ⟨d0, d1, d2, d3, d4, d5, d6, d7, hcap, hop⟩ := hpt
      obtain ⟨f, d, g, tl, th, sl, sh, os⟩ := p
      dsimp only at d0 d1 d2 d3 d4 d5 d6 d7 hcap hop
      unfold vPath at HBAD1
      dsimp only at HBAD1
      have HOP := hid hop
      clear hop hcap
      cases h4 : placeB m f
      · have HBAD := hid (HBAD1.out (by rw [h4]; rfl))
        go_wp2_with (first
          | (go_at_call 32; refine (rIsPlace_b _ _ _ (by omega) (by omega) _).mono ?_; rintro e w2 ⟨rfl, hE⟩; (first | (have hK := KC.step (n := wr.heap.size + 1) (by with_reducible assumption) hE) | (have hK := KC.step (KC.step (n := wr.heap.size + 1) (by with_reducible assumption) (ext_alloc1 _ _)) hE) | (have hK := KC.step (KC.refl (n := wr.heap.size + 1) (by simp)) hE)); have hC := hK.cell; have hF := hK.fro; have hX := hK.ext)
          | (go_at_call 74; refine (gradeR_b _ _).mono ?_; rintro e w2 ⟨rfl, rfl⟩)
          | (go_at_call 75; refine (isSpan_b _ _ _ _ _).mono ?_; rintro e w2 ⟨rfl, hE⟩; (first | (have hK := KC.step (n := wr.heap.size + 1) (by with_reducible assumption) hE) | (have hK := KC.step (KC.step (n := wr.heap.size + 1) (by with_reducible assumption) (ext_alloc1 _ _)) hE) | (have hK := KC.step (KC.refl (n := wr.heap.size + 1) (by simp)) hE)); have hC := hK.cell; have hF := hK.fro; have hX := hK.ext))
        go_ret
        exact ⟨ret_int (by rw [HBAD.out]), by (repeat' (first | with_reducible assumption | with_reducible exact Ext.refl _ | with_reducible refine Ext.alloc ?_ _ | with_reducible refine Ext.set ?_ ?_ _ | with_reducible refine Ext.drew ?_ | with_reducible refine Ext.drewN ?_ _ | with_reducible refine Ext.trans ?_ (by assumption) | (dsimp only; omega)))⟩
      cases h5 : placeB m d
      · have HBAD := hid (HBAD1.out (by rw [h4, h5]; rfl))
        go_wp2_with (first
          | (go_at_call 32; refine (rIsPlace_b _ _ _ (by omega) (by omega) _).mono ?_; rintro e w2 ⟨rfl, hE⟩; (first | (have hK := KC.step (n := wr.heap.size + 1) (by with_reducible assumption) hE) | (have hK := KC.step (KC.step (n := wr.heap.size + 1) (by with_reducible assumption) (ext_alloc1 _ _)) hE) | (have hK := KC.step (KC.refl (n := wr.heap.size + 1) (by simp)) hE)); have hC := hK.cell; have hF := hK.fro; have hX := hK.ext)
          | (go_at_call 74; refine (gradeR_b _ _).mono ?_; rintro e w2 ⟨rfl, rfl⟩)
          | (go_at_call 75; refine (isSpan_b _ _ _ _ _).mono ?_; rintro e w2 ⟨rfl, hE⟩; (first | (have hK := KC.step (n := wr.heap.size + 1) (by with_reducible assumption) hE) | (have hK := KC.step (KC.step (n := wr.heap.size + 1) (by with_reducible assumption) (ext_alloc1 _ _)) hE) | (have hK := KC.step (KC.refl (n := wr.heap.size + 1) (by simp)) hE)); have hC := hK.cell; have hF := hK.fro; have hX := hK.ext))
        go_ret
        exact ⟨ret_int (by rw [HBAD.out]), by (repeat' (first | with_reducible assumption | with_reducible exact Ext.refl _ | with_reducible refine Ext.alloc ?_ _ | with_reducible refine Ext.set ?_ ?_ _ | with_reducible refine Ext.drew ?_ | with_reducible refine Ext.drewN ?_ _ | with_reducible refine Ext.trans ?_ (by assumption) | (dsimp only; omega)))⟩
      cases h6 : (f == d)
      case true =>
        have HBAD := hid (HBAD1.out (by rw [h4, h5, h6]; rfl))
        have h6' : f = d := eq_of_beq h6
        go_wp2_with (first
          | (go_at_call 32; refine (rIsPlace_b _ _ _ (by omega) (by omega) _).mono ?_; rintro e w2 ⟨rfl, hE⟩; (first | (have hK := KC.step (n := wr.heap.size + 1) (by with_reducible assumption) hE) | (have hK := KC.step (KC.step (n := wr.heap.size + 1) (by with_reducible assumption) (ext_alloc1 _ _)) hE) | (have hK := KC.step (KC.refl (n := wr.heap.size + 1) (by simp)) hE)); have hC := hK.cell; have hF := hK.fro; have hX := hK.ext)
          | (go_at_call 74; refine (gradeR_b _ _).mono ?_; rintro e w2 ⟨rfl, rfl⟩)
          | (go_at_call 75; refine (isSpan_b _ _ _ _ _).mono ?_; rintro e w2 ⟨rfl, hE⟩; (first | (have hK := KC.step (n := wr.heap.size + 1) (by with_reducible assumption) hE) | (have hK := KC.step (KC.step (n := wr.heap.size + 1) (by with_reducible assumption) (ext_alloc1 _ _)) hE) | (have hK := KC.step (KC.refl (n := wr.heap.size + 1) (by simp)) hE)); have hC := hK.cell; have hF := hK.fro; have hX := hK.ext))
        go_ret
        exact ⟨ret_int (by rw [HBAD.out]), by (repeat' (first | with_reducible assumption | with_reducible exact Ext.refl _ | with_reducible refine Ext.alloc ?_ _ | with_reducible refine Ext.set ?_ ?_ _ | with_reducible refine Ext.drew ?_ | with_reducible refine Ext.drewN ?_ _ | with_reducible refine Ext.trans ?_ (by assumption) | (dsimp only; omega)))⟩
      have h6' : decide (f = d) = false := decide_eq_false (by intro e; rw [e] at h6; simp at h6)
      cases h7 : gradeB g
      · have HBAD := hid (HBAD1.out (by rw [h4, h5, h6, h7]; rfl))
        go_wp2_with (first
          | (go_at_call 32; refine (rIsPlace_b _ _ _ (by omega) (by omega) _).mono ?_; rintro e w2 ⟨rfl, hE⟩; (first | (have hK := KC.step (n := wr.heap.size + 1) (by with_reducible assumption) hE) | (have hK := KC.step (KC.step (n := wr.heap.size + 1) (by with_reducible assumption) (ext_alloc1 _ _)) hE) | (have hK := KC.step (KC.refl (n := wr.heap.size + 1) (by simp)) hE)); have hC := hK.cell; have hF := hK.fro; have hX := hK.ext)
          | (go_at_call 74; refine (gradeR_b _ _).mono ?_; rintro e w2 ⟨rfl, rfl⟩)
          | (go_at_call 75; refine (isSpan_b _ _ _ _ _).mono ?_; rintro e w2 ⟨rfl, hE⟩; (first | (have hK := KC.step (n := wr.heap.size + 1) (by with_reducible assumption) hE) | (have hK := KC.step (KC.step (n := wr.heap.size + 1) (by with_reducible assumption) (ext_alloc1 _ _)) hE) | (have hK := KC.step (KC.refl (n := wr.heap.size + 1) (by simp)) hE)); have hC := hK.cell; have hF := hK.fro; have hX := hK.ext))
        go_ret
        exact ⟨ret_int (by rw [HBAD.out]), by (repeat' (first | with_reducible assumption | with_reducible exact Ext.refl _ | with_reducible refine Ext.alloc ?_ _ | with_reducible refine Ext.set ?_ ?_ _ | with_reducible refine Ext.drew ?_ | with_reducible refine Ext.drewN ?_ _ | with_reducible refine Ext.trans ?_ (by assumption) | (dsimp only; omega)))⟩
      cases h8 : spanB tl th 1 600
      · have HBAD := hid (HBAD1.out (by rw [h4, h5, h6, h7, h8]; simp))
        go_wp2_with (first
          | (go_at_call 32; refine (rIsPlace_b _ _ _ (by omega) (by omega) _).mono ?_; rintro e w2 ⟨rfl, hE⟩; (first | (have hK := KC.step (n := wr.heap.size + 1) (by with_reducible assumption) hE) | (have hK := KC.step (KC.step (n := wr.heap.size + 1) (by with_reducible assumption) (ext_alloc1 _ _)) hE) | (have hK := KC.step (KC.refl (n := wr.heap.size + 1) (by simp)) hE)); have hC := hK.cell; have hF := hK.fro; have hX := hK.ext)
          | (go_at_call 74; refine (gradeR_b _ _).mono ?_; rintro e w2 ⟨rfl, rfl⟩)
          | (go_at_call 75; refine (isSpan_b _ _ _ _ _).mono ?_; rintro e w2 ⟨rfl, hE⟩; (first | (have hK := KC.step (n := wr.heap.size + 1) (by with_reducible assumption) hE) | (have hK := KC.step (KC.step (n := wr.heap.size + 1) (by with_reducible assumption) (ext_alloc1 _ _)) hE) | (have hK := KC.step (KC.refl (n := wr.heap.size + 1) (by simp)) hE)); have hC := hK.cell; have hF := hK.fro; have hX := hK.ext))
        go_ret
        exact ⟨ret_int (by rw [HBAD.out]), by (repeat' (first | with_reducible assumption | with_reducible exact Ext.refl _ | with_reducible refine Ext.alloc ?_ _ | with_reducible refine Ext.set ?_ ?_ _ | with_reducible refine Ext.drew ?_ | with_reducible refine Ext.drewN ?_ _ | with_reducible refine Ext.trans ?_ (by assumption) | (dsimp only; omega)))⟩
      cases h9 : spanB sl sh 0 30
      · have HBAD := hid (HBAD1.out (by rw [h4, h5, h6, h7, h8, h9]; simp))
        go_wp2_with (first
          | (go_at_call 32; refine (rIsPlace_b _ _ _ (by omega) (by omega) _).mono ?_; rintro e w2 ⟨rfl, hE⟩; (first | (have hK := KC.step (n := wr.heap.size + 1) (by with_reducible assumption) hE) | (have hK := KC.step (KC.step (n := wr.heap.size + 1) (by with_reducible assumption) (ext_alloc1 _ _)) hE) | (have hK := KC.step (KC.refl (n := wr.heap.size + 1) (by simp)) hE)); have hC := hK.cell; have hF := hK.fro; have hX := hK.ext)
          | (go_at_call 74; refine (gradeR_b _ _).mono ?_; rintro e w2 ⟨rfl, rfl⟩)
          | (go_at_call 75; refine (isSpan_b _ _ _ _ _).mono ?_; rintro e w2 ⟨rfl, hE⟩; (first | (have hK := KC.step (n := wr.heap.size + 1) (by with_reducible assumption) hE) | (have hK := KC.step (KC.step (n := wr.heap.size + 1) (by with_reducible assumption) (ext_alloc1 _ _)) hE) | (have hK := KC.step (KC.refl (n := wr.heap.size + 1) (by simp)) hE)); have hC := hK.cell; have hF := hK.fro; have hX := hK.ext))
        go_ret
        exact ⟨ret_int (by rw [HBAD.out]), by (repeat' (first | with_reducible assumption | with_reducible exact Ext.refl _ | with_reducible refine Ext.alloc ?_ _ | with_reducible refine Ext.set ?_ ?_ _ | with_reducible refine Ext.drew ?_ | with_reducible refine Ext.drewN ?_ _ | with_reducible refine Ext.trans ?_ (by assumption) | (dsimp only; omega)))⟩
      by_cases h10 : os.length ≤ 6
      case neg =>
        have HBAD := hid (HBAD1.out (by rw [decide_eq_false h10]; simp))
        go_wp2_with (first
          | (go_at_call 32; refine (rIsPlace_b _ _ _ (by omega) (by omega) _).mono ?_; rintro e w2 ⟨rfl, hE⟩; (first | (have hK := KC.step (n := wr.heap.size + 1) (by with_reducible assumption) hE) | (have hK := KC.step (KC.step (n := wr.heap.size + 1) (by with_reducible assumption) (ext_alloc1 _ _)) hE) | (have hK := KC.step (KC.refl (n := wr.heap.size + 1) (by simp)) hE)); have hC := hK.cell; have hF := hK.fro; have hX := hK.ext)
          | (go_at_call 74; refine (gradeR_b _ _).mono ?_; rintro e w2 ⟨rfl, rfl⟩)
          | (go_at_call 75; refine (isSpan_b _ _ _ _ _).mono ?_; rintro e w2 ⟨rfl, hE⟩; (first | (have hK := KC.step (n := wr.heap.size + 1) (by with_reducible assumption) hE) | (have hK := KC.step (KC.step (n := wr.heap.size + 1) (by with_reducible assumption) (ext_alloc1 _ _)) hE) | (have hK := KC.step (KC.refl (n := wr.heap.size + 1) (by simp)) hE)); have hC := hK.cell; have hF := hK.fro; have hX := hK.ext))
        go_ret
        exact ⟨ret_int (by rw [HBAD.out]), by (repeat' (first | with_reducible assumption | with_reducible exact Ext.refl _ | with_reducible refine Ext.alloc ?_ _ | with_reducible refine Ext.set ?_ ?_ _ | with_reducible refine Ext.drew ?_ | with_reducible refine Ext.drewN ?_ _ | with_reducible refine Ext.trans ?_ (by assumption) | (dsimp only; omega)))⟩
      have HPT := hid (fun (h : os.all openB = true) => show vPath m (ps.getD k zeroPt) = true by
        rw [HPP.out]
        unfold vPath
        dsimp only
        rw [h4, h5, h6, h7, h8, h9, h, decide_eq_true h10]
        rfl)
      have HPF := hid (fun (h : os.all openB = false) => HBAD1.out (by rw [h]; simp))
      go_wp2_with (first
        | (go_at_call 32; refine (rIsPlace_b _ _ _ (by omega) (by omega) _).mono ?_; rintro e w2 ⟨rfl, hE⟩; (first | (have hK := KC.step (n := wr.heap.size + 1) (by with_reducible assumption) hE) | (have hK := KC.step (KC.step (n := wr.heap.size + 1) (by with_reducible assumption) (ext_alloc1 _ _)) hE) | (have hK := KC.step (KC.refl (n := wr.heap.size + 1) (by simp)) hE)); have hC := hK.cell; have hF := hK.fro; have hX := hK.ext)
        | (go_at_call 74; refine (gradeR_b _ _).mono ?_; rintro e w2 ⟨rfl, rfl⟩)
        | (go_at_call 75; refine (isSpan_b _ _ _ _ _).mono ?_; rintro e w2 ⟨rfl, hE⟩; (first | (have hK := KC.step (n := wr.heap.size + 1) (by with_reducible assumption) hE) | (have hK := KC.step (KC.step (n := wr.heap.size + 1) (by with_reducible assumption) (ext_alloc1 _ _)) hE) | (have hK := KC.step (KC.refl (n := wr.heap.size + 1) (by simp)) hE)); have hC := hK.cell; have hF := hK.fro; have hX := hK.ext))
      have XB := hid (blk_ext HB.out ((ext_alloc1 _ _).trans hX))
      have XP := hid (blk_ext (heap_alloc_new wr (.cells #[.int .i64 f, .int .i64 d, .int .i64 g, .int .i64 tl, .int .i64 th, .int .i64 sl, .int .i64 sh, .slice A' os.length c'] 64)) hX)
      have EX := (ext_alloc1 wr _).trans hX
      obtain ⟨wo, rfl⟩ : ∃ wo, wo = wr := ⟨_, rfl⟩
      clear hK hC hF hX c0 c1 d0 d1 d2 d3 d4 d5 d6 d7 h4 h5 h6 h6' h7 h8 h9 HBAD1 HB hb hs HPP
      go_loopw [5] (fun j W2 => Ext wo W2 ∧ Hid (W2.heap[w.heap.size]? = some (.cells #[.int .i64 m, .slice (some ⟨b, off, none⟩) n c] 47 (0, 0))) ∧ Hid (W2.heap[wo.heap.size]? = some (.cells #[.int .i64 f, .int .i64 d, .int .i64 g, .int .i64 tl, .int .i64 th, .int .i64 sl, .int .i64 sh, .slice A' os.length c'] 64 (0, 0))) ∧
        ∃ q : Nat, q ≤ os.length ∧ j = .int .i64 q ∧ Hid (∀ i, i < q → openB (os.getD i (0, 0)) = true)) (fun j _ => os.length - (intOf j).toNat)
      case atStart => exact ⟨EX, XB, XP, 0, Nat.zero_le _, rfl, hid (fun j hj => by omega)⟩
      case round =>
        clear XB XP EX
        obtain ⟨hE2, YB, YP, q, hq, rfl, HO⟩ := hrel
        have p7 := blk_cell YP.out 7
        have b0 := blk_cell YB.out 0
        have b1 := blk_cell YB.out 1
        have hs2 := (Array.getElem?_eq_some_iff.1 YP.out).1
        simp only [List.getElem?_toArray, List.getElem?_cons_zero, List.getElem?_cons_succ] at p7 b0 b1
        have hE3 := hEo.trans hE2
        by_cases hlq : q < os.length
        · obtain ⟨b2, off2, rfl, hb2, hc2⟩ := (HOP.out.ext hE2) (by intro e; rw [e] at hlq; simp at hlq)
          obtain ⟨x1, x2⟩ := hc2 q hlq
          have hq0 : (0 : Int) ≤ (q : Int) := by omega
          have hq1 : (q : Int) < (os.length : Int) := by omega
          have HPF2 := hid (fun (h : openB (os.getD q (0, 0)) = false) => HPF.out (by
            cases hall : os.all openB with
            | false => rfl
            | true =>
              have := List.all_eq_true.1 hall (os.getD q (0, 0)) (by rw [List.getD_eq_getElem?_getD, List.getElem?_eq_getElem hlq]; exact List.getElem_mem hlq)
              rw [h] at this
              cases this))
          have HSN := hid (fun (h : openB (os.getD q (0, 0)) = true) => show ∀ i, i < q + 1 → openB (os.getD i (0, 0)) = true from fun i hi => by
            rcases Nat.lt_succ_iff_lt_or_eq.1 hi with h' | rfl
            · exact HO.out i h'
            · exact h)
          obtain ⟨o, ho⟩ : ∃ o, os.getD q (0, 0) = o := ⟨_, rfl⟩
          rw [ho] at x1 x2 HPF2 HSN
          clear ho hc2
          obtain ⟨l1, r1⟩ := o
          dsimp only at x1 x2
          cases h11 : spanB l1 r1 0 2880
          · have HBAD := hid (HPF2.out h11)
            go_wp2_with (first
              | (go_at_call 75; refine (isSpan_b _ _ _ _ _).mono ?_; rintro e w2 ⟨rfl, hE5⟩))
            go_ret
            exact ⟨ret_int (by rw [HBAD.out]), hE3.trans hE5⟩
          · have HSN2 := hid (HSN.out h11)
            go_wp2_with (first
              | (go_at_call 75; refine (isSpan_b _ _ _ _ _).mono ?_; rintro e w2 ⟨rfl, hE5⟩))
            go_roundw
            case rel => exact ⟨hE2.trans hE5, hid (blk_ext YB.out hE5), hid (blk_ext YP.out hE5), q + 1, by omega, by go_num, HSN2⟩
            case measure => simp [intOf]; omega
        · have HAL := hid (HPT.out (by
            rw [List.all_eq_true]
            intro o ho
            obtain ⟨i, hi, rfl⟩ := List.getElem_of_mem ho
            have := HO.out i (by omega)
            rwa [List.getD_eq_getElem?_getD, List.getElem?_eq_getElem hi] at this))
          have HA2 := hid (show ∀ j, j < k + 1 → vPath m (ps.getD j zeroPt) = true from fun j hj => by
            rcases Nat.lt_succ_iff_lt_or_eq.1 hj with h | rfl
            · exact HA.out j h
            · exact HAL.out)
          go_wp2
          go_roundw
          case rel => exact ⟨hE3, YB, k + 1, by omega, by go_num, HA2⟩
          case measure => simp [intOf]; omega
    · have HD := hid (HGOOD.out (fun j hj => HA.out j (by have := HN.out; omega)))
      go_wp2
      go_ret
      exact ⟨ret_int (by rw [HD.out]), by (repeat' (first | with_reducible assumption | with_reducible exact Ext.refl _ | with_reducible refine Ext.alloc ?_ _ | with_reducible refine Ext.set ?_ ?_ _ | with_reducible refine Ext.drew ?_ | with_reducible refine Ext.drewN ?_ _ | with_reducible refine Ext.trans ?_ (by assumption) | (dsimp only; omega)))⟩
end Go.Proofs.YtecamnhnjmldcaaGreatDoor
