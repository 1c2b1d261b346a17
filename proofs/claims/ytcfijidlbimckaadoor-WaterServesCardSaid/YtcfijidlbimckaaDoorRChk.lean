/- Which water is valid: the specification. -/
import Derived.Test.YtcfijidlbimckaaDoorWOk
set_option linter.unusedSimpArgs false
set_option linter.unusedVariables false
namespace Go.Proofs.YtcfijidlbimckaaDoor
open Go.RowKit
set_option maxHeartbeats 400000 in
theorem rwithin_any (a b c : Int) (w : World) :
    Calls Tryd.prog 40 #[.int .i64 a, .int .i64 b, .int .i64 c] w fun e w' => e = .returned (.bool (wB a b c)) ∧ w' = w := by
  unfold wB
  go_enter Tryd.func40, Tryd.ntmps40
  go_wp2
  all_goals (go_ret; exact ⟨ret_bool (by first | (simp [*]; done) | (simp [*]; omega)), rfl⟩)
set_option maxHeartbeats 1000000 in
theorem rAll_any (d : Wat) (A : WA) (hn : d.spr.length ≤ 30) (w : World) :
    Calls Tryd.prog 19 #[wval d A] w fun e w' => e = .returned (.int .i64 ((2 ^ d.spr.length - 1 : Nat) : Int)) ∧ Ext w w' := by
  obtain ⟨spr, most, miss, al, smp⟩ := d
  obtain ⟨SA, sc, MA, mc⟩ := A
  unfold wval wcells
  dsimp only at hn ⊢
  generalize spr.length = n at *
  generalize smp.length = m at *
  have h1 : 2 ^ n ≤ 2 ^ 30 := Nat.pow_le_pow_right (n := 2) (by decide) hn
  have h2 : 0 < 2 ^ n := Nat.two_pow_pos n
  have h3 : (2 : Int) ^ n = ((2 ^ n : Nat) : Int) := by simp
  have HV := hid (show wrap64 (wrap64 ((2 : Int) ^ n) - 1) = ((2 ^ n - 1 : Nat) : Int) by
    rw [h3]
    generalize 2 ^ n = z at *
    unfold wrap64
    omega)
  clear h1 h2 h3
  go_enter Tryd.func19, Tryd.ntmps19
  go_wp2
  go_ret
  exact ⟨ret_int HV.out, by (repeat' (first | with_reducible assumption | with_reducible exact Ext.refl _ | with_reducible refine Ext.alloc ?_ _ | with_reducible refine Ext.set ?_ ?_ _ | with_reducible refine Ext.drew ?_ | with_reducible refine Ext.drewN ?_ _ | with_reducible refine Ext.trans ?_ (by assumption) | (dsimp only; omega)))⟩
set_option maxHeartbeats 1000000 in
theorem rIsMix_any (d : Wat) (A : WA) (x : Int) (hn : d.spr.length ≤ 30) (w : World) :
    Calls Tryd.prog 25 #[wval d A, .int .i64 x] w fun e w' => e = .returned (.bool (mixB d.spr.length x)) ∧ Ext w w' := by
  have HA := hid (fun W => rAll_any d A hn W)
  unfold wval mixB at *
  obtain ⟨spr, most, miss, al, smp⟩ := d
  obtain ⟨SA, sc, MA, mc⟩ := A
  unfold wcells at *
  dsimp only at *
  generalize spr.length = n at *
  generalize smp.length = m at *
  have h1 : 2 ^ n ≤ 2 ^ 30 := Nat.pow_le_pow_right (n := 2) (by decide) hn
  have h2 : 2 ^ n - 1 < 1073741824 := by omega
  generalize 2 ^ n - 1 = z at *
  have HW := hid (fun W => rwithin_any x 1 (z : Int) W)
  generalize wB x 1 (z : Int) = b at *
  clear h1
  go_enter Tryd.func25, Tryd.ntmps25
  go_wp2_with (first
    | (go_at_call 19; refine (HA.out _).mono ?_; rintro e w2 ⟨rfl, hE⟩)
    | (go_at_call 40; refine (HW.out _).mono ?_; rintro e w2 ⟨rfl, rfl⟩))
  go_ret
  exact ⟨rfl, by (repeat' (first | with_reducible assumption | with_reducible exact Ext.refl _ | with_reducible refine Ext.alloc ?_ _ | with_reducible refine Ext.set ?_ ?_ _ | with_reducible refine Ext.drew ?_ | with_reducible refine Ext.drewN ?_ _ | with_reducible refine Ext.trans ?_ (by assumption) | (dsimp only; omega)))⟩
theorem watB_eq (d : Wat) : watB d = (wB d.spr.length 1 8 && (wB d.most 0 8 && (wB d.miss 0 4 && (wB d.al 0 4 && (decide ((d.smp.length : Int) ≤ 20) && (!(d.spr.any fun s => !sprB s) && !(d.smp.any fun s => !mixB d.spr.length s.mix))))))) := by
  unfold watB smpsB
  cases wB d.spr.length 1 8 <;> cases wB d.most 0 8 <;> cases wB d.miss 0 4 <;> cases wB d.al 0 4 <;> cases (d.spr.any fun s => !sprB s) <;> simp
theorem sprB_eq (s : Spr) : (!sprB s) = (!wB s.low 0 s.high || (decide (1000 < s.high) || !wB s.fuel 0 1000)) := by
  unfold sprB wB
  rw [Bool.eq_iff_iff]
  simp
  omega
set_option maxHeartbeats 4000000 in
theorem rCheck_bad (d : Wat) (A : WA) (hbad : (wB d.spr.length 1 8 && (wB d.most 0 8 && (wB d.miss 0 4 && (wB d.al 0 4 && decide ((d.smp.length : Int) ≤ 20))))) = false) (w : World) :
    Calls Tryd.prog 22 #[wval d A] w fun e w' => e = .returned (.int .i64 40) ∧ Ext w w' := by
  have HWB := hid (fun a b c W => rwithin_any a b c W)
  unfold wval at *
  obtain ⟨spr, most, miss, al, smp⟩ := d
  obtain ⟨SA, sc, MA, mc⟩ := A
  unfold wcells at *
  dsimp only at *
  generalize spr.length = n at *
  generalize smp.length = m at *
  obtain ⟨b1, hb1⟩ : ∃ b, wB n 1 8 = b := ⟨_, rfl⟩
  obtain ⟨b2, hb2⟩ : ∃ b, wB most 0 8 = b := ⟨_, rfl⟩
  obtain ⟨b3, hb3⟩ : ∃ b, wB miss 0 4 = b := ⟨_, rfl⟩
  obtain ⟨b4, hb4⟩ : ∃ b, wB al 0 4 = b := ⟨_, rfl⟩
  rw [hb1, hb2, hb3, hb4] at hbad
  go_enter Tryd.func22, Tryd.ntmps22
  cases b1
  case false => go_wp2_with (go_at_call 40; refine (HWB.out _ _ _ _).mono ?_; rintro e w2 ⟨rfl, rfl⟩; simp only [hb1, hb2, hb3, hb4])
                go_ret
                exact ⟨rfl, by (repeat' (first | with_reducible assumption | with_reducible exact Ext.refl _ | with_reducible refine Ext.alloc ?_ _ | with_reducible refine Ext.set ?_ ?_ _ | with_reducible refine Ext.drew ?_ | with_reducible refine Ext.drewN ?_ _ | with_reducible refine Ext.trans ?_ (by assumption) | (dsimp only; omega)))⟩
  cases b2
  case false => go_wp2_with (go_at_call 40; refine (HWB.out _ _ _ _).mono ?_; rintro e w2 ⟨rfl, rfl⟩; simp only [hb1, hb2, hb3, hb4])
                go_ret
                exact ⟨rfl, by (repeat' (first | with_reducible assumption | with_reducible exact Ext.refl _ | with_reducible refine Ext.alloc ?_ _ | with_reducible refine Ext.set ?_ ?_ _ | with_reducible refine Ext.drew ?_ | with_reducible refine Ext.drewN ?_ _ | with_reducible refine Ext.trans ?_ (by assumption) | (dsimp only; omega)))⟩
  cases b3
  case false => go_wp2_with (go_at_call 40; refine (HWB.out _ _ _ _).mono ?_; rintro e w2 ⟨rfl, rfl⟩; simp only [hb1, hb2, hb3, hb4])
                go_ret
                exact ⟨rfl, by (repeat' (first | with_reducible assumption | with_reducible exact Ext.refl _ | with_reducible refine Ext.alloc ?_ _ | with_reducible refine Ext.set ?_ ?_ _ | with_reducible refine Ext.drew ?_ | with_reducible refine Ext.drewN ?_ _ | with_reducible refine Ext.trans ?_ (by assumption) | (dsimp only; omega)))⟩
  cases b4
  case false => go_wp2_with (go_at_call 40; refine (HWB.out _ _ _ _).mono ?_; rintro e w2 ⟨rfl, rfl⟩; simp only [hb1, hb2, hb3, hb4])
                go_ret
                exact ⟨rfl, by (repeat' (first | with_reducible assumption | with_reducible exact Ext.refl _ | with_reducible refine Ext.alloc ?_ _ | with_reducible refine Ext.set ?_ ?_ _ | with_reducible refine Ext.drew ?_ | with_reducible refine Ext.drewN ?_ _ | with_reducible refine Ext.trans ?_ (by assumption) | (dsimp only; omega)))⟩
  have h20 : ¬ (m : Int) ≤ 20 := by simpa using hbad
  go_wp2_with (go_at_call 40; refine (HWB.out _ _ _ _).mono ?_; rintro e w2 ⟨rfl, rfl⟩; simp only [hb1, hb2, hb3, hb4])
  go_ret
  exact ⟨rfl, by (repeat' (first | with_reducible assumption | with_reducible exact Ext.refl _ | with_reducible refine Ext.alloc ?_ _ | with_reducible refine Ext.set ?_ ?_ _ | with_reducible refine Ext.drew ?_ | with_reducible refine Ext.drewN ?_ _ | with_reducible refine Ext.trans ?_ (by assumption) | (dsimp only; omega)))⟩
set_option maxHeartbeats 4000000 in
theorem rCheck_good (d : Wat) (A : WA) (hn : d.spr.length ≤ 30) (hm : d.smp.length ≤ 1000) (w : World) (hW : WIn w d A) (hb1 : wB d.spr.length 1 8 = true) (hb2 : wB d.most 0 8 = true) (hb3 : wB d.miss 0 4 = true) (hb4 : wB d.al 0 4 = true) (h20 : (d.smp.length : Int) ≤ 20) :
    Calls Tryd.prog 22 #[wval d A] w fun e w' => e = .returned (.int .i64 (if (!(d.spr.any fun s => !sprB s) && !(d.smp.any fun s => !mixB d.spr.length s.mix)) = true then 0 else 40)) ∧ Ext w w' := by
  have HWB := hid (fun a b c W => rwithin_any a b c W)
  have HMX := hid (fun x W => rIsMix_any d A x hn W)
  have HS := hid hW.spr
  have HM := hid hW.smp
  have HSA := hid (fun k => any_take_snoc d.spr (fun s => !sprB s) zeroSpr k)
  have HSY := hid (fun k => any_of_at d.spr (fun s => !sprB s) zeroSpr k)
  have HMA := hid (fun k => any_take_snoc d.smp (fun s => !mixB d.spr.length s.mix) zeroSmp k)
  have HMY := hid (fun k => any_of_at d.smp (fun s => !mixB d.spr.length s.mix) zeroSmp k)
  clear hW
  unfold wval at *
  obtain ⟨spr, most, miss, al, smp⟩ := d
  obtain ⟨SA, sc, MA, mc⟩ := A
  unfold wcells at *
  dsimp only at *
  obtain ⟨n, hn'⟩ : ∃ n, spr.length = n := ⟨_, rfl⟩
  obtain ⟨m, hm'⟩ : ∃ n, smp.length = n := ⟨_, rfl⟩
  rw [hn'] at hn hb1 HMX HSA HSY HMA HMY ⊢
  rw [hm'] at hm h20 HMX HMA HMY ⊢
  have HN := hid hn'
  have HN2 := hid hm'
  clear hn' hm'
  obtain ⟨res, hres⟩ : ∃ r : Int, (if (!(spr.any fun s => !sprB s) && !(smp.any fun s => !mixB n s.mix)) = true then 0 else 40) = r := ⟨_, rfl⟩
  rw [hres]
  have HR := hid hres
  clear hres
  go_enter Tryd.func22, Tryd.ntmps22
  go_wp2_with (go_at_call 40; refine (HWB.out _ _ _ _).mono ?_; rintro e w2 ⟨rfl, rfl⟩; simp only [hb1, hb2, hb3, hb4])
  have HQ0 := hid (Blk.new w 25 #[.slice SA n sc, .int .i64 most, .int .i64 miss, .int .i64 al, .slice MA m mc])
  have HE0 := hid (ext_alloc1 w (.cells #[.slice SA n sc, .int .i64 most, .int .i64 miss, .int .i64 al, .slice MA m mc] 25))
  clear hb1 hb2 hb3 hb4
  go_loopw [3] (fun i wr => Ext w wr ∧ Blk wr w.heap.size 25 #[.slice SA n sc, .int .i64 most, .int .i64 miss, .int .i64 al, .slice MA m mc] ∧ ∃ k : Nat, k ≤ n ∧ i = .int .i64 k ∧ (spr.take k).any (fun s => !sprB s) = false) (fun i _ => n - (intOf i).toNat)
  case atStart => exact ⟨HE0.out, HQ0.out, 0, Nat.zero_le _, rfl, rfl⟩
  case round =>
    obtain ⟨hE, hQ, k, hk, rfl, ha⟩ := hrel
    have HQ := hid hQ
    have HE := hid hE
    have HA := hid ha
    have c0 := hQ.cell 0
    have c1 := hQ.cell 1
    have c2 := hQ.cell 2
    have c3 := hQ.cell 3
    have c4 := hQ.cell 4
    simp only [List.getElem?_toArray, List.getElem?_cons_zero, List.getElem?_cons_succ] at c0 c1 c2 c3 c4
    have z0 := hQ.lt
    clear ha hQ hE
    by_cases hlt : k < n
    · obtain ⟨b, off, rfl, hb, y0, y1, y2⟩ := (HS.out.ext HE.out).at_ HN.out hlt
      have HSK := hid (HSA.out k hlt)
      have HYK := hid (HSY.out k hlt)
      generalize spr.getD k zeroSpr = s at *
      rw [sprB_eq] at HSK HYK
      obtain ⟨lo, hi, fu⟩ := s
      dsimp only at *
      obtain ⟨x1, hx1⟩ : ∃ b, wB lo 0 hi = b := ⟨_, rfl⟩
      obtain ⟨x2, hx2⟩ : ∃ b, wB fu 0 1000 = b := ⟨_, rfl⟩
      rw [hx1, hx2] at HSK HYK
      cases x1
      case false => go_wp2_with (go_at_call 40; refine (HWB.out _ _ _ _).mono ?_; rintro e w2 ⟨rfl, rfl⟩; simp only [hx1, hx2])
                    go_ret
                    exact ⟨ret_int (by rw [← HR.out, HYK.out (by simp [*])]; simp), HE.out.trans (by (repeat' (first | with_reducible assumption | with_reducible exact Ext.refl _ | with_reducible refine Ext.alloc ?_ _ | with_reducible refine Ext.set ?_ ?_ _ | with_reducible refine Ext.drew ?_ | with_reducible refine Ext.drewN ?_ _ | with_reducible refine Ext.trans ?_ (by assumption) | (dsimp only; omega))))⟩
      by_cases h10 : 1000 < hi
      case pos => go_wp2_with (go_at_call 40; refine (HWB.out _ _ _ _).mono ?_; rintro e w2 ⟨rfl, rfl⟩; simp only [hx1, hx2])
                  go_ret
                  exact ⟨ret_int (by rw [← HR.out, HYK.out (by simp [*])]; simp), HE.out.trans (by (repeat' (first | with_reducible assumption | with_reducible exact Ext.refl _ | with_reducible refine Ext.alloc ?_ _ | with_reducible refine Ext.set ?_ ?_ _ | with_reducible refine Ext.drew ?_ | with_reducible refine Ext.drewN ?_ _ | with_reducible refine Ext.trans ?_ (by assumption) | (dsimp only; omega))))⟩
      rw [decide_eq_false h10] at HSK HYK
      cases x2
      case false => go_wp2_with (go_at_call 40; refine (HWB.out _ _ _ _).mono ?_; rintro e w2 ⟨rfl, rfl⟩; simp only [hx1, hx2])
                    go_ret
                    exact ⟨ret_int (by rw [← HR.out, HYK.out (by simp [*])]; simp), HE.out.trans (by (repeat' (first | with_reducible assumption | with_reducible exact Ext.refl _ | with_reducible refine Ext.alloc ?_ _ | with_reducible refine Ext.set ?_ ?_ _ | with_reducible refine Ext.drew ?_ | with_reducible refine Ext.drewN ?_ _ | with_reducible refine Ext.trans ?_ (by assumption) | (dsimp only; omega))))⟩
      go_wp2_with (go_at_call 40; refine (HWB.out _ _ _ _).mono ?_; rintro e w2 ⟨rfl, rfl⟩; simp only [hx1, hx2])
      go_roundw
      case rel => exact ⟨HE.out.alloc _, HQ.out.ext (by (repeat' (first | with_reducible assumption | with_reducible exact Ext.refl _ | with_reducible refine Ext.alloc ?_ _ | with_reducible refine Ext.set ?_ ?_ _ | with_reducible refine Ext.drew ?_ | with_reducible refine Ext.drewN ?_ _ | with_reducible refine Ext.trans ?_ (by assumption) | (dsimp only; omega)))), k + 1, by omega, by go_num, by rw [HSK.out, HA.out]; rfl⟩
      case measure => simp [intOf]; omega
    · have HP := hid (any_false_end HA.out (by rw [HN.out]; omega))
      rw [HP.out] at HR
      clear HS HSA HSY HA HP HQ0 HE0
      go_wp2
      obtain ⟨kk, hkk⟩ : ∃ kk, Value.int IntKind.i64 (k : Int) = kk := ⟨_, rfl⟩
      rw [hkk]
      clear hkk c0 c1 c2 c3 c4 z0 hlt hk
      go_loopw [5] (fun i wx => Ext w wx ∧ Blk wx w.heap.size 25 #[.slice SA n sc, .int .i64 most, .int .i64 miss, .int .i64 al, .slice MA m mc] ∧ ∃ k : Nat, k ≤ m ∧ i = .int .i64 k ∧ (smp.take k).any (fun s => !mixB n s.mix) = false) (fun i _ => m - (intOf i).toNat)
      case atStart => exact ⟨HE.out, HQ.out, 0, Nat.zero_le _, rfl, rfl⟩
      case round =>
        obtain ⟨hE2, hQ2, k2, hk2, rfl, ha2⟩ := hrel
        have HQ2 := hid hQ2
        have HE2 := hid hE2
        have HA2 := hid ha2
        have c0 := hQ2.cell 0
        have c1 := hQ2.cell 1
        have c2 := hQ2.cell 2
        have c3 := hQ2.cell 3
        have c4 := hQ2.cell 4
        simp only [List.getElem?_toArray, List.getElem?_cons_zero, List.getElem?_cons_succ] at c0 c1 c2 c3 c4
        have z0 := hQ2.lt
        clear ha2 hQ2 hE2 HQ HE
        by_cases hlt : k2 < m
        · obtain ⟨b, off, rfl, hb, y0, y1⟩ := (HM.out.ext HE2.out).at_ HN2.out hlt
          have HSK := hid (HMA.out k2 hlt)
          have HYK := hid (HMY.out k2 hlt)
          generalize smp.getD k2 zeroSmp = s at *
          obtain ⟨mx, fo⟩ := s
          dsimp only at *
          have HMX1 := hid (fun W => HMX.out mx W)
          clear HMX
          obtain ⟨x1, hx1⟩ : ∃ b, mixB n mx = b := ⟨_, rfl⟩
          rw [hx1] at HSK HYK HMX1
          clear hx1
          go_wp2_with fail
          refine wp_region_held_drew (S := fun w' => (∀ b o, b < wr.heap.size → w'.cell? ⟨b, o, none⟩ = wr.cell? ⟨b, o, none⟩) ∧ wr.heap.size ≤ w'.heap.size ∧ Ext wr w') (by kernel_rfl) ?hS0 (fun hHeld => ?_)
          case hS0 => exact ⟨fun _ _ _ => rfl, Nat.le_refl _, Ext.drew (Ext.refl _)⟩
          refine wpAnyH_take (i := 0) (oi := _) (v := ?v0a) rfl (by kernel_rfl) (by kernel_rfl) (by kernel_rfl) (fun _ _ _ h => h) (Or.inl ⟨by rfl, ?y0a⟩) (by assumption) ?r0a
          case y0a => (intro w' hSw; (try dsimp only at hSw); go_simp; (try with_reducible rfl))
          try simp only [Act.put, List.getElem_toArray, List.getElem_cons_zero, List.getElem_cons_succ, List.setIfInBounds_toArray, List.set_cons_zero, List.set_cons_succ]
          refine wpAnyH_take (i := 1) (oi := _) (v := ?v1a) rfl (by kernel_rfl) (by kernel_rfl) (by kernel_rfl) (fun _ _ _ h => h) (Or.inl ⟨by rfl, ?y1a⟩) (by assumption) ?r1a
          case y1a => (intro w' hSw; (try dsimp only at hSw); go_simp; (try with_reducible rfl))
          try simp only [Act.put, List.getElem_toArray, List.getElem_cons_zero, List.getElem_cons_succ, List.setIfInBounds_toArray, List.set_cons_zero, List.set_cons_succ]
          refine wpAnyH_take (i := 2) (oi := _) (v := ?v2a) rfl (by kernel_rfl) (by kernel_rfl) (by kernel_rfl) (fun _ _ _ h => h) (Or.inl ⟨by rfl, ?y2a⟩) (by assumption) ?r2a
          case y2a => (intro w' hSw; (try dsimp only at hSw); go_simp; (try with_reducible rfl))
          try simp only [Act.put, List.getElem_toArray, List.getElem_cons_zero, List.getElem_cons_succ, List.setIfInBounds_toArray, List.set_cons_zero, List.set_cons_succ]
          refine wpAnyH_take (i := 3) (oi := _) (v := ?v3a) rfl (by kernel_rfl) (by kernel_rfl) (by kernel_rfl) (fun _ _ _ h => h) (Or.inl ⟨by rfl, ?y3a⟩) (by assumption) ?r3a
          case y3a => (intro w' hSw; (try dsimp only at hSw); go_simp; (try with_reducible rfl))
          try simp only [Act.put, List.getElem_toArray, List.getElem_cons_zero, List.getElem_cons_succ, List.setIfInBounds_toArray, List.set_cons_zero, List.set_cons_succ]
          refine wpAnyH_take (i := 4) (oi := _) (v := ?v4a) rfl (by kernel_rfl) (by kernel_rfl) (by kernel_rfl) (fun _ _ _ h => h) (Or.inl ⟨by rfl, ?y4a⟩) (by assumption) ?r4a
          case y4a => (intro w' hSw; (try dsimp only at hSw); go_simp; (try with_reducible rfl))
          try simp only [Act.put, List.getElem_toArray, List.getElem_cons_zero, List.getElem_cons_succ, List.setIfInBounds_toArray, List.set_cons_zero, List.set_cons_succ]
          refine wpAnyH_take (i := 5) (oi := _) (v := ?v5a) rfl (by kernel_rfl) (by kernel_rfl) (by kernel_rfl) (fun _ _ _ h => h) (Or.inl ⟨by rfl, ?y5a⟩) (by assumption) ?r5a
          case y5a => (intro w' hSw; (try dsimp only at hSw); go_simp; (try with_reducible rfl))
          try simp only [Act.put, List.getElem_toArray, List.getElem_cons_zero, List.getElem_cons_succ, List.setIfInBounds_toArray, List.set_cons_zero, List.set_cons_succ]
          refine wpAnyH_take (i := 6) (oi := _) (v := ?v6a) rfl (by kernel_rfl) (by kernel_rfl) (by kernel_rfl) (fun _ _ _ h => h) (Or.inl ⟨by rfl, ?y6a⟩) (by assumption) ?r6a
          case y6a => (intro w' hSw; (try dsimp only at hSw); go_simp; (try with_reducible rfl))
          try simp only [Act.put, List.getElem_toArray, List.getElem_cons_zero, List.getElem_cons_succ, List.setIfInBounds_toArray, List.set_cons_zero, List.set_cons_succ]
          refine wpAnyH_ready (rs := [7]) (by kernel_rfl) (by simp) ?_
          refine AllReadyH.cons (o := _) rfl (fun K hK => ?_) AllReadyH.nil
          go_simp
          refine (HMX1.out _).mono ?_
          rintro e w2 ⟨rfl, hE3⟩
          dsimp only
          have X3 : Ext wr w2 := (Ext.drew (Ext.refl wr)).trans hE3
          refine hK.out _ _ (sK X3) (fun hHeld2 => ?_)
          clear hK K
          try simp only [Act.put, List.getElem_toArray, List.getElem_cons_zero, List.getElem_cons_succ, List.setIfInBounds_toArray, List.set_cons_zero, List.set_cons_succ]
          refine wpAnyH_take (i := 8) (oi := _) (v := ?v8b) rfl (by kernel_rfl) (by kernel_rfl) (by kernel_rfl) (fun _ _ _ h => h) (Or.inl ⟨by rfl, ?y8b⟩) (by assumption) ?r8b
          case y8b => (intro w' hSw; (try dsimp only at hSw); go_simp; (try with_reducible rfl))
          try simp only [Act.put, List.getElem_toArray, List.getElem_cons_zero, List.getElem_cons_succ, List.setIfInBounds_toArray, List.set_cons_zero, List.set_cons_succ]
          clear hHeld hHeld2
          refine wpAnyH_done (by kernel_rfl) ?_ _
          have HE3 := hid (HE2.out.trans X3)
          have HQ3 := hid (HQ2.out.ext X3)
          cases x1
          · go_wp2
            go_ret
            exact ⟨ret_int (by rw [← HR.out, HYK.out rfl]; rfl), HE3.out⟩
          · go_wp2
            go_roundw
            case rel => exact ⟨HE3.out, HQ3.out, k2 + 1, by omega, by go_num, by rw [HSK.out, HA2.out]; rfl⟩
            case measure => simp [intOf]; omega
        · have HP2 := hid (any_false_end HA2.out (by rw [HN2.out]; omega))
          rw [HP2.out] at HR
          have HRR := hid (show (0 : Int) = res from HR.out)
          clear HR HA2 HMA HMY HMX HM
          go_wp2
          go_ret
          exact ⟨ret_int HRR.out, HE2.out⟩
theorem rCheck_any (d : Wat) (A : WA) (hn : d.spr.length ≤ 30) (hm : d.smp.length ≤ 1000) (w : World) (hW : WIn w d A) :
    Calls Tryd.prog 22 #[wval d A] w fun e w' => e = .returned (.int .i64 (if watB d = true then 0 else 40)) ∧ Ext w w' := by
  rw [watB_eq]
  by_cases h : (wB d.spr.length 1 8 && (wB d.most 0 8 && (wB d.miss 0 4 && (wB d.al 0 4 && decide ((d.smp.length : Int) ≤ 20))))) = true
  · simp only [Bool.and_eq_true, decide_eq_true_eq] at h
    obtain ⟨h1, h2, h3, h4, h5⟩ := h
    have := rCheck_good d A hn hm w hW h1 h2 h3 h4 h5
    rw [h1, h2, h3, h4, decide_eq_true h5]
    simpa only [Bool.true_and] using this
  · have h' := Bool.not_eq_true _ ▸ h
    have := rCheck_bad d A h' w
    rw [if_neg]
    · exact this
    · intro hh
      apply h
      simp only [Bool.and_eq_true] at hh ⊢
      exact ⟨hh.1, hh.2.1, hh.2.2.1, hh.2.2.2.1, hh.2.2.2.2.1⟩
set_option maxHeartbeats 1000000 in
/-- Too far: too many springs or samples. -/
def farB (d : Wat) : Bool := (decide (4 < d.spr.length) && decide (d.spr.length ≤ 8)) || (decide (30 < d.spr.length) || decide (60 < d.smp.length))
set_option maxHeartbeats 1000000 in
theorem far_any (d : Wat) (A : WA) (w : World) :
    Calls Tryd.prog 30 #[wval d A] w fun e w' => e = .returned (.bool (farB d)) ∧ Ext w w' := by
  unfold farB wval wcells
  obtain ⟨spr, most, miss, al, smp⟩ := d
  dsimp only
  generalize spr.length = n at *
  generalize smp.length = m at *
  by_cases h1 : 4 < n <;> by_cases h2 : n ≤ 8 <;> by_cases h3 : 30 < n <;> first | omega | skip
  all_goals
    go_enter Tryd.func30, Tryd.ntmps30
    go_wp2
    all_goals (go_ret; exact ⟨ret_bool (by first | (simp [*]; done) | (simp [*]; omega) | (rw [Bool.eq_iff_iff]; simp; omega) | rfl), by (repeat' (first | with_reducible assumption | with_reducible exact Ext.refl _ | with_reducible refine Ext.alloc ?_ _ | with_reducible refine Ext.set ?_ ?_ _ | with_reducible refine Ext.drew ?_ | with_reducible refine Ext.drewN ?_ _ | with_reducible refine Ext.trans ?_ (by assumption) | (dsimp only; omega)))⟩)
end Go.Proofs.YtcfijidlbimckaaDoor
