/- valid, contains, and Possible at any number. -/
import Derived.Test.YtcfijidlbimckaaDoorWrk
import Derived.Test.YtcfijidlbimckaaDoorRPos
set_option linter.unusedSimpArgs false
set_option linter.unusedVariables false
namespace Go.Proofs.YtcfijidlbimckaaDoor
open Go.RowKit
def validB (d : Wat) : Bool := !farB d && watB d
set_option maxHeartbeats 2000000 in
theorem valid_any (d : Wat) (A : WA) (w : World) (hW : WIn w d A) :
    Calls Tryd.prog 12 #[wval d A] w fun e w' => e = .returned (.bool (validB d)) ∧ Ext w w' := by
  have HF := hid (fun W => far_any d A W)
  have BN := hid (Blk.new w 25 (wcells d A))
  cases hf : farB d
  case true =>
    have HV := hid (show validB d = false by unfold validB; rw [hf]; rfl)
    rw [HV.out]
    rw [hf] at HF
    clear hW hf HV
    unfold wval wcells at *
    obtain ⟨spr, most, miss, al, smp⟩ := d
    obtain ⟨SA, sc, MA, mc⟩ := A
    dsimp only at *
    generalize spr.length = n at *
    generalize smp.length = m at *
    go_enter Tryd.func12, Tryd.ntmps12
    go_wp2_with fail
    refine (HF.out _).mono ?_
    rintro e w2 ⟨rfl, hE⟩
    have E2 : Ext w w2 := by (repeat' (first | with_reducible assumption | with_reducible exact Ext.refl _ | with_reducible refine Ext.alloc ?_ _ | with_reducible refine Ext.set ?_ ?_ _ | with_reducible refine Ext.drew ?_ | with_reducible refine Ext.drewN ?_ _ | with_reducible refine Ext.trans ?_ (by assumption) | (dsimp only; omega)))
    go_wp2
    go_ret
    exact ⟨rfl, E2⟩
  have hb : d.spr.length ≤ 30 ∧ d.smp.length ≤ 60 := by
    unfold farB at hf
    simp only [Bool.or_eq_false_iff, Bool.and_eq_false_iff, decide_eq_false_iff_not] at hf
    omega
  have HC := hid (fun W (hE : Ext w W) => rCheck_any d A hb.1 (by omega) W (hW.ext hE))
  have HV := hid (show validB d = watB d by unfold validB; rw [hf]; rfl)
  rw [HV.out]
  rw [hf] at HF
  clear hW hf HV hb
  generalize watB d = b at *
  unfold wval wcells at *
  obtain ⟨spr, most, miss, al, smp⟩ := d
  obtain ⟨SA, sc, MA, mc⟩ := A
  dsimp only at *
  generalize spr.length = n at *
  generalize smp.length = m at *
  cases b
  all_goals
    simp only [Bool.false_eq_true, if_false, if_true] at HC
    go_enter Tryd.func12, Tryd.ntmps12
    go_wp2_with fail
    refine (HF.out _).mono ?_
    rintro e w2 ⟨rfl, hE⟩
    have E2 : Ext w w2 := by (repeat' (first | with_reducible assumption | with_reducible exact Ext.refl _ | with_reducible refine Ext.alloc ?_ _ | with_reducible refine Ext.set ?_ ?_ _ | with_reducible refine Ext.drew ?_ | with_reducible refine Ext.drewN ?_ _ | with_reducible refine Ext.trans ?_ (by assumption) | (dsimp only; omega)))
    have HQ := hid (BN.out.ext hE)
    have d0 := HQ.out.cell 0
    have d1 := HQ.out.cell 1
    have d2 := HQ.out.cell 2
    have d3 := HQ.out.cell 3
    have d4 := HQ.out.cell 4
    simp only [List.getElem?_toArray, List.getElem?_cons_zero, List.getElem?_cons_succ] at d0 d1 d2 d3 d4
    have dz := HQ.out.lt
    clear hE BN
    go_wp2_with fail
    refine (HC.out _ E2).mono ?_
    rintro e w3 ⟨rfl, hE⟩
    have E3 := E2.trans hE
    go_wp2
    go_ret
    exact ⟨rfl, E3⟩
set_option maxHeartbeats 2000000 in
theorem contains_any (A : Option Addr) (c n : Nat) (xs : List Int) (hn : xs.length = n) (hm : n ≤ 1000) (x : Int) (w : World) (hx : IntsAt w A xs) :
    Calls Tryd.prog 18 #[.slice A n c, .int .i64 x] w fun e w' => e = .returned (.bool (xs.any fun y => y == x)) ∧ w' = w := by
  have HX := hid hx
  have HN := hid hn
  have HAT := hid (fun k => any_take_snoc xs (fun y => y == x) 0 k)
  have HAY := hid (fun k => any_of_at xs (fun y => y == x) 0 k)
  clear hx hn
  go_enter Tryd.func18, Tryd.ntmps18
  go_wp2
  go_loop [5] (fun i => ∃ k : Nat, k ≤ n ∧ i = .int .i64 k ∧ (xs.take k).any (fun y => y == x) = false) (fun i => n - (intOf i).toNat)
  case atStart => exact ⟨0, Nat.zero_le _, rfl, rfl⟩
  case round =>
    obtain ⟨k, hk, rfl, ha⟩ := hrel
    have HA := hid ha
    clear ha
    by_cases hlt : k < n
    · obtain ⟨b, off, rfl, hb, c0⟩ := HX.out (by intro e; have := HN.out; rw [e] at this; simp at this; omega)
      have c1 := c0 k (by rw [HN.out]; exact hlt)
      have HSK := hid (HAT.out k (by rw [HN.out]; exact hlt))
      have HYK := hid (HAY.out k (by rw [HN.out]; exact hlt))
      generalize xs.getD k 0 = y at *
      clear c0 HAT HAY
      by_cases hxy : y = x
      · subst hxy
        have HP := hid (HYK.out (by simp))
        go_wp2
        go_ret
        exact ⟨ret_bool (by rw [HP.out]), rfl⟩
      · have HP := hid (show (xs.take (k + 1)).any (fun y => y == x) = false by rw [HSK.out, HA.out]; simp [hxy])
        go_wp2
        go_round
        case rel => exact ⟨k + 1, by omega, by go_num, HP.out⟩
        case measure => simp [intOf]; omega
    · have HP := hid (any_false_end HA.out (by rw [HN.out]; omega))
      go_wp2
      go_ret
      exact ⟨ret_bool (by rw [HP.out]), rfl⟩
end Go.Proofs.YtcfijidlbimckaaDoor
