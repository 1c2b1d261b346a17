/- Which forecasts are valid: the specification. -/
import Derived.Test.YtecamnhnjmldcaaGreatDoorB22
import Derived.Test.YtecamnhnjmldcaaGreatDoorB10
set_option linter.unusedSimpArgs false
set_option linter.unusedVariables false
namespace Go.Proofs.YtecamnhnjmldcaaGreatDoor
open Go.RowKit
theorem spB_or (h : Hr) : (!hrB h) = (!spB h.wl h.wh 0 200 || (!spB h.rl h.rh 0 100 || !spB h.tl h.th (-50) 50)) := by
  unfold hrB
  cases spB h.wl h.wh 0 200 <;> cases spB h.rl h.rh 0 100 <;> cases spB h.tl h.th (-50) 50 <;> rfl
set_option maxHeartbeats 4000000 in
set_option maxRecDepth 100000 in
theorem rCheck_any (f : List (List Hr)) (A : Option Addr) (n c : Nat) (hn : f.length = n) (hm : n ≤ 1000) (hx : ∀ x ∈ f, x.length ≤ 1000) (w : World) (hf : ScsAt w A f) :
    Calls Tryz.prog 35 #[.agg #[.slice A n c]] w fun e w' => e = .returned (.int .i64 (fcE f)) ∧ Ext w w' := by
  have HW := hid (fun a b c W => rWithin_any a b c W)
  have HSP := hid (fun l h b c W => rSpan_any l h b c W)
  obtain ⟨b1, hb1⟩ : ∃ b, inI (n : Int) 1 6 = b := ⟨_, rfl⟩
  have hb1' := hb1
  rw [← hn] at hb1'
  cases b1
  case false =>
    have HR := hid (show fcE f = 50 by unfold fcE fcB; rw [hb1']; rfl)
    rw [HR.out]
    clear hb1' hf hx hn HR
    go_enter Tryz.func35, Tryz.ntmps35
    go_wp2_with (go_at_call 53; refine (HW.out _ _ _ _).mono ?_; rintro e w2 ⟨rfl, rfl⟩; simp only [hb1])
    go_ret
    exact ⟨rfl, by (repeat' (first | with_reducible assumption | with_reducible exact Ext.refl _ | with_reducible refine Ext.alloc ?_ _ | with_reducible refine Ext.set ?_ ?_ _ | with_reducible refine Ext.drew ?_ | with_reducible refine Ext.drewN ?_ _ | with_reducible refine Ext.trans ?_ (by assumption) | (dsimp only; omega)))⟩
  have hn0 : 0 < n := by
    unfold inI at hb1
    simp only [Bool.and_eq_true, decide_eq_true_eq] at hb1
    omega
  have HH := hid (fun (W : World) (hW : Ext w W) => rHours_any A n c f hn hn0 W (hf.ext hW))
  have HX := hid hf
  have HXL := hid hx
  have HN := hid hn
  obtain ⟨b2, hb2⟩ : ∃ b, inI (hoursN f : Int) 1 48 = b := ⟨_, rfl⟩
  cases b2
  case false =>
    have HR := hid (show fcE f = 50 by unfold fcE fcB; rw [hb2, hb1']; rfl)
    rw [HR.out]
    clear hb1' hf hx hn HR HX HXL HN
    generalize hoursN f = N at *
    go_enter Tryz.func35, Tryz.ntmps35
    go_wp2_with (first
      | (go_at_call 53; refine (HW.out _ _ _ _).mono ?_; rintro e w2 ⟨rfl, rfl⟩; simp only [hb1, hb2])
      | (go_at_call 30; refine (HH.out _ (by (repeat' (first | with_reducible assumption | with_reducible exact Ext.refl _ | with_reducible refine Ext.alloc ?_ _ | with_reducible refine Ext.set ?_ ?_ _ | with_reducible refine Ext.drew ?_ | with_reducible refine Ext.drewN ?_ _ | with_reducible refine Ext.trans ?_ (by assumption) | (dsimp only; omega))))).mono ?_; rintro e w2 ⟨rfl, hE⟩))
    go_ret
    exact ⟨rfl, by (repeat' (first | with_reducible assumption | with_reducible exact Ext.refl _ | with_reducible refine Ext.alloc ?_ _ | with_reducible refine Ext.set ?_ ?_ _ | with_reducible refine Ext.drew ?_ | with_reducible refine Ext.drewN ?_ _ | with_reducible refine Ext.trans ?_ (by assumption) | (dsimp only; omega)))⟩
  have HR1 := hid (fun (h : f.all (scB (hoursN f)) = true) => show fcE f = 0 by unfold fcE fcB; rw [hb2, hb1', h]; rfl)
  have HR0 := hid (fun (h : f.all (scB (hoursN f)) = false) => show fcE f = 50 by unfold fcE fcB; rw [hb2, hb1', h]; rfl)
  have hN : hoursN f ≤ 1000 := by
    unfold hoursN
    cases f with
    | nil => simp
    | cons x t => exact hx x (by simp)
  have HAT := hid (fun k hk => all_take_snoc f (scB (hoursN f)) [] k hk)
  have HAF := hid (fun k hk hp => all_of_at f (scB (hoursN f)) [] k hk hp)
  have HAE := hid (fun k (h : (f.take k).all (scB (hoursN f)) = true) hk => all_true_end h hk)
  clear hb1' hf hx hn
  obtain ⟨R, hR⟩ : ∃ R, fcE f = R := ⟨_, rfl⟩
  rw [hR] at HR1 HR0 ⊢
  have hHB : ∀ (x : List Hr), scB (hoursN f) x = (decide (x.length = hoursN f) && x.all hrB) := fun x => rfl
  have HSC := hid hHB
  have B0 := hid (show Blk _ _ _ _ from blk_last w (.cells #[.slice A n c] 24))
  clear hHB hR
  generalize scB (hoursN f) = SB at *
  generalize hoursN f = N at *
  go_enter Tryz.func35, Tryz.ntmps35
  go_wp2_with (first
    | (go_at_call 53; refine (HW.out _ _ _ _).mono ?_; rintro e w2 ⟨rfl, rfl⟩; simp only [hb1, hb2])
    | (go_at_call 30; refine (HH.out _ (by (repeat' (first | with_reducible assumption | with_reducible exact Ext.refl _ | with_reducible refine Ext.alloc ?_ _ | with_reducible refine Ext.set ?_ ?_ _ | with_reducible refine Ext.drew ?_ | with_reducible refine Ext.drewN ?_ _ | with_reducible refine Ext.trans ?_ (by assumption) | (dsimp only; omega))))).mono ?_; rintro e w1 ⟨rfl, hE⟩))
  have E1 : Ext w w2 := by (repeat' (first | with_reducible assumption | with_reducible exact Ext.refl _ | with_reducible refine Ext.alloc ?_ _ | with_reducible refine Ext.set ?_ ?_ _ | with_reducible refine Ext.drew ?_ | with_reducible refine Ext.drewN ?_ _ | with_reducible refine Ext.trans ?_ (by assumption) | (dsimp only; omega)))
  have K1 := hid (show Blk _ _ _ _ from B0.out.ext hE)
  clear hE B0
  go_wp2
  go_loopw [3] (fun i wr => Ext w wr ∧ Hid (Blk wr w.heap.size 24 #[.slice A n c]) ∧ ∃ k : Nat, k ≤ n ∧ i = .int .i64 k ∧ Hid ((f.take k).all SB = true)) (fun i _ => n - (intOf i).toNat)
  case atStart => exact ⟨E1, K1, 0, Nat.zero_le _, rfl, hid rfl⟩
  case round =>
    obtain ⟨hE, K0, k, hk, rfl, HA⟩ := hrel
    have a0 := K0.out.cell 0
    have z0 := K0.out.lt
    simp only [List.getElem?_toArray, List.getElem?_cons_zero, List.getElem?_cons_succ] at a0
    clear K1 E1
    by_cases hlt : k < n
    · obtain ⟨b, off, rfl, hb0, A', c', hc, hcap, hhr⟩ := HX.out.at_ HN.out hlt
      have HS := hid (HAT.out k (by rw [HN.out]; exact hlt))
      have HY := hid (HAF.out k (by rw [HN.out]; exact hlt))
      have HM := hid (HXL.out _ (mem_at f [] k (by rw [HN.out]; exact hlt)))
      have HSB := hid (HSC.out (f.getD k []))
      generalize f.getD k [] = y at *
      replace hc := (hE.cell (p := ⟨b, _, none⟩) hb0).trans hc
      have hbw := Nat.lt_of_lt_of_le hb0 hE.size
      have HHR := hid hhr
      have HYN := hid (show ∃ m, y.length = m from ⟨_, rfl⟩)
      have HF2 := hid (fun j (hj : j < y.length) hp => all_of_at y hrB zeroHr j hj hp)
      have HF1 := hid (fun j (hj : j < y.length) => all_take_snoc y hrB zeroHr j hj)
      have HF3 := hid (fun j (h : (y.take j).all hrB = true) hk => all_true_end h hk)
      obtain ⟨m, hym⟩ := HYN.out
      rw [hym] at hc hcap
      have hm1 : m ≤ 1000 := by rw [← hym]; exact HM.out
      have HYM := hid hym
      rw [hym] at HSB
      clear hhr hym HYN HAT HAF HSC HM
      go_wp2_with fail
      refine (HH.out _ (by (repeat' (first | with_reducible assumption | with_reducible exact Ext.refl _ | with_reducible refine Ext.alloc ?_ _ | with_reducible refine Ext.set ?_ ?_ _ | with_reducible refine Ext.drew ?_ | with_reducible refine Ext.drewN ?_ _ | with_reducible refine Ext.trans ?_ (by assumption) | (dsimp only; omega))))).mono ?_
      rintro e w3 ⟨rfl, hE3⟩
      have E3 := hid (hE.trans hE3)
      have J0 := hid (show Blk _ _ _ _ from K0.out.ext hE3)
      by_cases hmN : m = N
      case neg =>
        have hmN' : ((m : Int) != (N : Int)) = true := by simp; omega
        have HRR := hid (HR0.out (HY.out (by rw [HSB.out, decide_eq_false hmN]; rfl)))
        clear HR0 HR1 HY HSB HS HA HF1 HF2 HF3
        go_wp2
        go_ret
        exact ⟨ret_int HRR.out.symm, E3.out⟩
      rw [decide_eq_true hmN, Bool.true_and] at HSB
      have hmm : ((m : Int) != (N : Int)) = false := by simp; omega
      clear hmN
      clear hE3 K0 a0 z0 hE hc hbw
      go_wp2
      clear hmm
      go_loopw [5] (fun i wx => Ext w wx ∧ Hid (Blk wx w.heap.size 24 #[.slice (some ⟨b, off, none⟩) n c]) ∧ ∃ j : Nat, j ≤ m ∧ i = .int .i64 j ∧ Hid ((y.take j).all hrB = true)) (fun i _ => m - (intOf i).toNat)
      case atStart => exact ⟨E3.out, J0, 0, Nat.zero_le _, rfl, hid rfl⟩
      case round =>
        obtain ⟨hE, K0, j, hj, rfl, HAJ⟩ := hrel
        clear J0 E3
        by_cases hlt2 : j < m
        · obtain ⟨b', off', rfl, hb', d0, d1, d2, d3, d4, d5⟩ := HHR.out.at_ HYM.out hlt2
          have HG1 := hid (HF1.out j (by rw [HYM.out]; exact hlt2))
          have HG2 := hid (HF2.out j (by rw [HYM.out]; exact hlt2))
          have hor := spB_or (y.getD j zeroHr)
          generalize y.getD j zeroHr = h at *
          obtain ⟨wl, wh, rl, rh, tl, th⟩ := h
          dsimp only at *
          replace d0 := (hE.cell (p := ⟨b', _, none⟩) hb').trans d0
          replace d1 := (hE.cell (p := ⟨b', _, none⟩) hb').trans d1
          replace d2 := (hE.cell (p := ⟨b', _, none⟩) hb').trans d2
          replace d3 := (hE.cell (p := ⟨b', _, none⟩) hb').trans d3
          replace d4 := (hE.cell (p := ⟨b', _, none⟩) hb').trans d4
          replace d5 := (hE.cell (p := ⟨b', _, none⟩) hb').trans d5
          have hbw := Nat.lt_of_lt_of_le hb' hE.size
          generalize hrB ⟨wl, wh, rl, rh, tl, th⟩ = BH at *
          have S1 := hid (HSP.out wl wh 0 200)
          have S2 := hid (HSP.out rl rh 0 100)
          have S3 := hid (HSP.out tl th (-50) 50)
          generalize spB wl wh 0 200 = x1 at *
          generalize spB rl rh 0 100 = x2 at *
          generalize spB tl th (-50) 50 = x3 at *
          clear HF1 HF2 HF3
          cases x1
          case false => obtain rfl : BH = false := by simpa using hor
                        have HRR := hid (HR0.out (HY.out (by rw [HSB.out]; exact HG2.out rfl)))
                        clear HR0 HR1 HY HSB HS HA HG1 HG2 hor
                        go_wp2_with (first
                          | (go_at_call 80; refine (S1.out _).mono ?_; rintro e w5 ⟨rfl, hE5⟩; have hq5 := Nat.lt_of_lt_of_le hbw hE5.size; (try (replace d2 := (hE5.cell (p := ⟨b', _, none⟩) hbw).trans d2)); (try (replace d3 := (hE5.cell (p := ⟨b', _, none⟩) hbw).trans d3)); (try (replace d4 := (hE5.cell (p := ⟨b', _, none⟩) hbw).trans d4)); (try (replace d5 := (hE5.cell (p := ⟨b', _, none⟩) hbw).trans d5)); clear S1)
                          | (go_at_call 80; refine (S2.out _).mono ?_; rintro e w6 ⟨rfl, hE6⟩; have hq6 := Nat.lt_of_lt_of_le hq5 hE6.size; (try (replace d4 := (hE6.cell (p := ⟨b', _, none⟩) hq5).trans d4)); (try (replace d5 := (hE6.cell (p := ⟨b', _, none⟩) hq5).trans d5)); clear S2)
                          | (go_at_call 80; refine (S3.out _).mono ?_; rintro e w7 ⟨rfl, hE7⟩; clear S3))
                        go_ret
                        exact ⟨ret_int HRR.out.symm, by (repeat' (first | with_reducible assumption | with_reducible exact Ext.refl _ | with_reducible refine Ext.alloc ?_ _ | with_reducible refine Ext.set ?_ ?_ _ | with_reducible refine Ext.drew ?_ | with_reducible refine Ext.drewN ?_ _ | with_reducible refine Ext.trans ?_ (by assumption) | (dsimp only; omega)))⟩
          cases x2
          case false => obtain rfl : BH = false := by simpa using hor
                        have HRR := hid (HR0.out (HY.out (by rw [HSB.out]; exact HG2.out rfl)))
                        clear HR0 HR1 HY HSB HS HA HG1 HG2 hor
                        go_wp2_with (first
                          | (go_at_call 80; refine (S1.out _).mono ?_; rintro e w5 ⟨rfl, hE5⟩; have hq5 := Nat.lt_of_lt_of_le hbw hE5.size; (try (replace d2 := (hE5.cell (p := ⟨b', _, none⟩) hbw).trans d2)); (try (replace d3 := (hE5.cell (p := ⟨b', _, none⟩) hbw).trans d3)); (try (replace d4 := (hE5.cell (p := ⟨b', _, none⟩) hbw).trans d4)); (try (replace d5 := (hE5.cell (p := ⟨b', _, none⟩) hbw).trans d5)); clear S1)
                          | (go_at_call 80; refine (S2.out _).mono ?_; rintro e w6 ⟨rfl, hE6⟩; have hq6 := Nat.lt_of_lt_of_le hq5 hE6.size; (try (replace d4 := (hE6.cell (p := ⟨b', _, none⟩) hq5).trans d4)); (try (replace d5 := (hE6.cell (p := ⟨b', _, none⟩) hq5).trans d5)); clear S2)
                          | (go_at_call 80; refine (S3.out _).mono ?_; rintro e w7 ⟨rfl, hE7⟩; clear S3))
                        go_ret
                        exact ⟨ret_int HRR.out.symm, by (repeat' (first | with_reducible assumption | with_reducible exact Ext.refl _ | with_reducible refine Ext.alloc ?_ _ | with_reducible refine Ext.set ?_ ?_ _ | with_reducible refine Ext.drew ?_ | with_reducible refine Ext.drewN ?_ _ | with_reducible refine Ext.trans ?_ (by assumption) | (dsimp only; omega)))⟩
          cases x3
          case false => obtain rfl : BH = false := by simpa using hor
                        have HRR := hid (HR0.out (HY.out (by rw [HSB.out]; exact HG2.out rfl)))
                        clear HR0 HR1 HY HSB HS HA HG1 HG2 hor
                        go_wp2_with (first
                          | (go_at_call 80; refine (S1.out _).mono ?_; rintro e w5 ⟨rfl, hE5⟩; have hq5 := Nat.lt_of_lt_of_le hbw hE5.size; (try (replace d2 := (hE5.cell (p := ⟨b', _, none⟩) hbw).trans d2)); (try (replace d3 := (hE5.cell (p := ⟨b', _, none⟩) hbw).trans d3)); (try (replace d4 := (hE5.cell (p := ⟨b', _, none⟩) hbw).trans d4)); (try (replace d5 := (hE5.cell (p := ⟨b', _, none⟩) hbw).trans d5)); clear S1)
                          | (go_at_call 80; refine (S2.out _).mono ?_; rintro e w6 ⟨rfl, hE6⟩; have hq6 := Nat.lt_of_lt_of_le hq5 hE6.size; (try (replace d4 := (hE6.cell (p := ⟨b', _, none⟩) hq5).trans d4)); (try (replace d5 := (hE6.cell (p := ⟨b', _, none⟩) hq5).trans d5)); clear S2)
                          | (go_at_call 80; refine (S3.out _).mono ?_; rintro e w7 ⟨rfl, hE7⟩; clear S3))
                        go_ret
                        exact ⟨ret_int HRR.out.symm, by (repeat' (first | with_reducible assumption | with_reducible exact Ext.refl _ | with_reducible refine Ext.alloc ?_ _ | with_reducible refine Ext.set ?_ ?_ _ | with_reducible refine Ext.drew ?_ | with_reducible refine Ext.drewN ?_ _ | with_reducible refine Ext.trans ?_ (by assumption) | (dsimp only; omega)))⟩
          obtain rfl : BH = true := by simpa using hor
          have HN2 := hid (HG1.out.trans (by rw [HAJ.out]))
          clear hor HG1 HG2 HR0 HR1 HY HSB HS
          go_wp2_with (first
            | (go_at_call 80; refine (S1.out _).mono ?_; rintro e w5 ⟨rfl, hE5⟩; have hq5 := Nat.lt_of_lt_of_le hbw hE5.size; (try (replace d2 := (hE5.cell (p := ⟨b', _, none⟩) hbw).trans d2)); (try (replace d3 := (hE5.cell (p := ⟨b', _, none⟩) hbw).trans d3)); (try (replace d4 := (hE5.cell (p := ⟨b', _, none⟩) hbw).trans d4)); (try (replace d5 := (hE5.cell (p := ⟨b', _, none⟩) hbw).trans d5)); clear S1)
            | (go_at_call 80; refine (S2.out _).mono ?_; rintro e w6 ⟨rfl, hE6⟩; have hq6 := Nat.lt_of_lt_of_le hq5 hE6.size; (try (replace d4 := (hE6.cell (p := ⟨b', _, none⟩) hq5).trans d4)); (try (replace d5 := (hE6.cell (p := ⟨b', _, none⟩) hq5).trans d5)); clear S2)
            | (go_at_call 80; refine (S3.out _).mono ?_; rintro e w7 ⟨rfl, hE7⟩; clear S3))
          go_roundw
          case rel => exact ⟨by (repeat' (first | with_reducible assumption | with_reducible exact Ext.refl _ | with_reducible refine Ext.alloc ?_ _ | with_reducible refine Ext.set ?_ ?_ _ | with_reducible refine Ext.drew ?_ | with_reducible refine Ext.drewN ?_ _ | with_reducible refine Ext.trans ?_ (by assumption) | (dsimp only; omega))), hid (K0.out.ext (by (repeat' (first | with_reducible assumption | with_reducible exact Ext.refl _ | with_reducible refine Ext.alloc ?_ _ | with_reducible refine Ext.set ?_ ?_ _ | with_reducible refine Ext.drew ?_ | with_reducible refine Ext.drewN ?_ _ | with_reducible refine Ext.trans ?_ (by assumption) | (dsimp only; omega))))), j + 1, by omega, by go_num, HN2⟩
          case measure => simp [intOf]; omega
        · obtain rfl : j = m := by omega
          have HN2 := hid (HS.out.trans (by rw [HA.out, HSB.out, HF3.out j HAJ.out (by rw [HYM.out]; exact Nat.le_refl _)]))
          clear HS HA HSB HF1 HF2 HF3
          go_wp2
          go_roundw
          case rel => exact ⟨hE, K0, k + 1, by omega, by go_num, HN2⟩
          case measure => simp [intOf]; omega
    · obtain rfl : k = n := by omega
      have HRR := hid (HR1.out (HAE.out k HA.out (by rw [HN.out]; exact Nat.le_refl _)))
      clear HR0 HR1 HA
      go_wp2
      go_ret
      exact ⟨ret_int HRR.out.symm, hE⟩
end Go.Proofs.YtecamnhnjmldcaaGreatDoor
