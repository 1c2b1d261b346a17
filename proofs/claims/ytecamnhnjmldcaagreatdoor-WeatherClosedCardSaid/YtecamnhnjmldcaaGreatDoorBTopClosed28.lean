/- IsOpen of the specification. -/
import Derived.Test.YtecamnhnjmldcaaGreatDoorB15
import Derived.Test.YtecamnhnjmldcaaGreatDoorB16
import Derived.Test.YtecamnhnjmldcaaGreatDoorB19
import Derived.Test.YtecamnhnjmldcaaGreatDoorB14
import Derived.Test.YtecamnhnjmldcaaGreatDoorBTopClosed23
set_option linter.unusedSimpArgs false
set_option linter.unusedVariables false
namespace Go.Proofs.YtecamnhnjmldcaaGreatDoor
open Go.RowKit
/-- What a rule asks of an hour is kept in a weather. -/
def ioP (sk : List Sk) (op : Nat) (r : Rl) (j : Nat) : Bool := !decide ((op : Int) - r.after ≤ (j : Int)) || keptB (sk.getD j zeroSk) r.lim
def ioR (sk : List Sk) (path : Int) (op : Nat) (r : Rl) : Bool := !decide (r.path = path) || (List.range (op + 1)).all (ioP sk op r)
def isOpB (rs : List Rl) (sk : List Sk) (path : Int) (op : Nat) : Bool := rs.all (ioR sk path op)
set_option maxHeartbeats 4000000 in
set_option maxRecDepth 100000 in
theorem risOpen_any (rs : List Rl) (RA : Option Addr) (rn rc : Nat) (hrn : rs.length = rn) (hrm : rn ≤ 1000) (haft : ∀ r ∈ rs, 0 ≤ r.after ∧ r.after ≤ 1000) (sk : List Sk) (KA : Option Addr) (kn kc : Nat) (hkn : sk.length = kn) (hkm : kn ≤ 1000) (path : Int) (op : Nat) (hop : op < kn) (w : World) (hr : RlsAt w RA rs) (hk : SksAt w KA sk) :
    Calls Tryz.prog 26 #[.slice RA rn rc, .slice KA kn kc, .int .i64 path, .int .i64 (op : Int)] w fun e w' => e = .returned (.bool (isOpB rs sk path op)) ∧ Ext w w' := by
  have HX := hid hr
  have HN := hid hrn
  have HS := hid hk
  have HM := hid hkn
  have HKP := hid (fun s l W => rKept_any s l W)
  have HST := hid (all_take_snoc rs (ioR sk path op) zeroRl)
  have HBD := hid (fun k (hk : k < rs.length) (h : ioR sk path op (rs.getD k zeroRl) = false) => show isOpB rs sk path op = false from all_of_at rs (ioR sk path op) zeroRl k hk h)
  have HEN := hid (fun (h : (rs.take rn).all (ioR sk path op) = true) => show isOpB rs sk path op = true from all_true_end h (by rw [hrn]; exact Nat.le_refl _))
  have HNO := hid (fun (r : Rl) (h : ¬ r.path = path) => show ioR sk path op r = true by unfold ioR; rw [decide_eq_false h]; rfl)
  have HYE := hid (fun (r : Rl) (h : r.path = path) => show ioR sk path op r = (List.range (op + 1)).all (ioP sk op r) by unfold ioR; rw [decide_eq_true h]; rfl)
  have HAF := hid (fun k (hk : k < rs.length) => haft _ (mem_at rs zeroRl k hk))
  have HP1 := hid (fun (r : Rl) (j : Nat) (h : ¬ (op : Int) - r.after ≤ (j : Int)) => show ioP sk op r j = true by unfold ioP; rw [decide_eq_false h]; rfl)
  have HP2 := hid (fun (r : Rl) (j : Nat) (h : (op : Int) - r.after ≤ (j : Int)) => show ioP sk op r j = keptB (sk.getD j zeroSk) r.lim by unfold ioP; rw [decide_eq_true h]; rfl)
  clear hr hrn hk hkn haft
  generalize isOpB rs sk path op = R at *
  generalize ioR sk path op = IR at *
  generalize ioP sk op = IP at *
  go_enter Tryz.func26, Tryz.ntmps26
  go_wp2
  go_loopw [9] (fun i wr => Ext w wr ∧ ∃ k : Nat, k ≤ rn ∧ i = .int .i64 k ∧ Hid ((rs.take k).all IR = true)) (fun i _ => rn - (intOf i).toNat)
  case atStart => exact ⟨by (repeat' (first | with_reducible assumption | with_reducible exact Ext.refl _ | with_reducible refine Ext.alloc ?_ _ | with_reducible refine Ext.set ?_ ?_ _ | with_reducible refine Ext.drew ?_ | with_reducible refine Ext.drewN ?_ _ | with_reducible refine Ext.trans ?_ (by assumption) | (dsimp only; omega))), 0, Nat.zero_le _, rfl, hid rfl⟩
  case round =>
    obtain ⟨E, k, hk, rfl, HA⟩ := hrel
    obtain ⟨wo, rfl⟩ : ∃ wo, wo = wr := ⟨_, rfl⟩
    by_cases hlt : k < rn
    · have hkl : k < rs.length := by rw [HN.out]; exact hlt
      obtain ⟨b, off, rfl, hb0, d0, d1, d2, d3, d4, d5⟩ := (HX.out.ext E).at_ HN.out hlt
      have HST1 := hid (HST.out k hkl)
      have HBD1 := hid (HBD.out k hkl)
      obtain ⟨ha0, ha1⟩ := HAF.out k hkl
      obtain ⟨r, hre⟩ : ∃ r, rs.getD k zeroRl = r := ⟨_, rfl⟩
      rw [hre] at d0 d1 d2 d3 d4 d5 HST1 HBD1 ha0 ha1
      clear hre hkl HST HBD HAF
      have HNO1 := hid (HNO.out r)
      have HYE1 := hid (HYE.out r)
      have HP11 := hid (HP1.out r)
      have HP21 := hid (HP2.out r)
      generalize IP r = P at *
      generalize IR r = x at *
      obtain ⟨pa, af, lm⟩ := r
      obtain ⟨wi, ra, tl, th⟩ := lm
      dsimp only at d0 d1 d2 d3 d4 d5 ha0 ha1 HNO1 HYE1 HP11 HP21
      have hk0 : (0 : Int) ≤ (k : Int) := by omega
      have hk1 : (k : Int) < (rn : Int) := by omega
      by_cases hpa : pa = path
      case neg =>
        have HRR := hid (HST1.out.trans (by rw [HA.out, HNO1.out hpa] <;> rfl))
        clear HST1 HBD1 HNO1 HYE1 HP11 HP21 HA
        go_wp2
        go_roundw
        case rel => exact ⟨E, k + 1, by omega, by go_num, HRR⟩
        case measure => simp [intOf]; omega
      subst hpa
      have HX9 := hid (HYE1.out rfl)
      clear HNO1 HYE1
      clear HNO HYE HP1 HP2
      have HLO := hid (fun (n : Nat) (h : (n : Int) ≤ (op : Int) - af ∨ n = 0) => show (List.range n).all P = true from List.all_eq_true.2 fun j hj => HP11.out j (by have := List.mem_range.1 hj; omega))
      go_wp2
      case inl => have HL0 := hid (HLO.out (((op : Int) - af).toNat) (by omega))
                  clear HLO HP11
                  go_loopw [10] (fun i wr => Ext wo wr ∧ ∃ y : Nat, (op : Int) - af ≤ (y : Int) ∧ y ≤ op + 1 ∧ i = .int .i64 y ∧ Hid ((List.range y).all P = true)) (fun i _ => op + 1 - (intOf i).toNat)
                  case atStart => exact ⟨Ext.refl _, ((op : Int) - af).toNat, by omega, by omega, by congr 1 <;> omega, HL0⟩
                  case round =>
                    clear HL0
                    obtain ⟨E2, y, hy1, hy2, rfl, HY⟩ := hrel
                    by_cases hly : y ≤ op
                    · obtain ⟨b2, off2, rfl, hb2, e0, e1, e2⟩ := (HS.out.ext (E.trans E2)).at_ HM.out (show y < kn by omega)
                      have HPY := hid (HP21.out y hy1)
                      have HSN := hid (range_all_snoc P y)
                      have HMI := hid (fun h => range_all_miss (p := P) (n := op + 1) (k := y) (by omega) h)
                      generalize sk.getD y zeroSk = s at *
                      have HK1 := hid (HKP.out s ⟨wi, ra, tl, th⟩)
                      unfold Sk.val Lm.val at HK1
                      obtain ⟨sw, sr, st⟩ := s
                      dsimp only at e0 e1 e2 HK1
                      generalize keptB ⟨sw, sr, st⟩ ⟨wi, ra, tl, th⟩ = kb at *
                      replace d2 := (E2.cell (p := ⟨b, _, none⟩) hb0).trans d2
                      replace d3 := (E2.cell (p := ⟨b, _, none⟩) hb0).trans d3
                      replace d4 := (E2.cell (p := ⟨b, _, none⟩) hb0).trans d4
                      replace d5 := (E2.cell (p := ⟨b, _, none⟩) hb0).trans d5
                      have hbw := Nat.lt_of_lt_of_le hb0 E2.size
                      have hy3 : (0 : Int) ≤ (y : Int) := by omega
                      have hy4 : (y : Int) < (kn : Int) := by omega
                      clear HKP HP21 d0 d1
                      go_wp2_with fail
                      refine wp_region_held_drew (S := fun w' => (∀ b o, b < wr.heap.size → w'.cell? ⟨b, o, none⟩ = wr.cell? ⟨b, o, none⟩) ∧ wr.heap.size ≤ w'.heap.size ∧ Ext wr w') (by kernel_rfl) ?hS0 (fun hHeld => ?_)
                      case hS0 => exact sK (Ext.drew (Ext.refl _))
                      have X0 : Ext wr wr.drew := Ext.drew (Ext.refl wr)
                      have EX := X0
                      obtain ⟨X, hX⟩ : ∃ X, wr.drew = X := ⟨_, rfl⟩
                      rw [hX] at EX hHeld ⊢
                      clear hX X0
                      refine wpAnyH_take (i := 0) (oi := _) (v := ?v0au) rfl (by kernel_rfl) (by kernel_rfl) (by kernel_rfl) (fun _ _ _ h => h) (Or.inl ⟨by rfl, ?y0au⟩) (by assumption) ?r0au
                      case y0au => (intro w' hSw; (try dsimp only at hSw); go_simp; (try with_reducible rfl))
                      try simp only [Act.put, List.getElem_toArray, List.getElem_cons_zero, List.getElem_cons_succ, List.setIfInBounds_toArray, List.set_cons_zero, List.set_cons_succ]
                      refine wpAnyH_take (i := 1) (oi := _) (v := ?v1au) rfl (by kernel_rfl) (by kernel_rfl) (by kernel_rfl) (fun _ _ _ h => h) (Or.inl ⟨by rfl, ?y1au⟩) (by assumption) ?r1au
                      case y1au => (intro w' hSw; (try dsimp only at hSw); go_simp; (try with_reducible rfl))
                      try simp only [Act.put, List.getElem_toArray, List.getElem_cons_zero, List.getElem_cons_succ, List.setIfInBounds_toArray, List.set_cons_zero, List.set_cons_succ]
                      refine wpAnyH_take (i := 2) (oi := _) (v := ?v2au) rfl (by kernel_rfl) (by kernel_rfl) (by kernel_rfl) (fun _ _ _ h => h) (Or.inl ⟨by rfl, ?y2au⟩) (by assumption) ?r2au
                      case y2au => (intro w' hSw; (try dsimp only at hSw); go_simp; (try with_reducible rfl))
                      try simp only [Act.put, List.getElem_toArray, List.getElem_cons_zero, List.getElem_cons_succ, List.setIfInBounds_toArray, List.set_cons_zero, List.set_cons_succ]
                      refine wpAnyH_take (i := 3) (oi := _) (v := ?v3au) rfl (by kernel_rfl) (by kernel_rfl) (by kernel_rfl) (fun _ _ _ h => h) (Or.inl ⟨by rfl, ?y3au⟩) (by assumption) ?r3au
                      case y3au => (intro w' hSw; (try dsimp only at hSw); go_simp; (try with_reducible rfl))
                      try simp only [Act.put, List.getElem_toArray, List.getElem_cons_zero, List.getElem_cons_succ, List.setIfInBounds_toArray, List.set_cons_zero, List.set_cons_succ]
                      refine wpAnyH_take (i := 4) (oi := _) (v := ?v4au) rfl (by kernel_rfl) (by kernel_rfl) (by kernel_rfl) (fun _ _ _ h => h) (Or.inl ⟨by rfl, ?y4au⟩) (by assumption) ?r4au
                      case y4au => (intro w' hSw; (try dsimp only at hSw); go_simp; (try with_reducible rfl))
                      try simp only [Act.put, List.getElem_toArray, List.getElem_cons_zero, List.getElem_cons_succ, List.setIfInBounds_toArray, List.set_cons_zero, List.set_cons_succ]
                      refine wpAnyH_take (i := 5) (oi := _) (v := ?v5au) rfl (by kernel_rfl) (by kernel_rfl) (by kernel_rfl) (fun _ _ _ h => h) (Or.inl ⟨by rfl, ?y5au⟩) (by assumption) ?r5au
                      case y5au => (intro w' hSw; (try dsimp only at hSw); go_simp; (try with_reducible rfl))
                      try simp only [Act.put, List.getElem_toArray, List.getElem_cons_zero, List.getElem_cons_succ, List.setIfInBounds_toArray, List.set_cons_zero, List.set_cons_succ]
                      refine wpAnyH_take (i := 6) (oi := _) (v := ?v6au) rfl (by kernel_rfl) (by kernel_rfl) (by kernel_rfl) (fun _ _ _ h => h) (Or.inl ⟨by rfl, ?y6au⟩) (by assumption) ?r6au
                      case y6au => (intro w' hSw; (try dsimp only at hSw); go_simp; (try with_reducible rfl))
                      try simp only [Act.put, List.getElem_toArray, List.getElem_cons_zero, List.getElem_cons_succ, List.setIfInBounds_toArray, List.set_cons_zero, List.set_cons_succ]
                      refine wpAnyH_take (i := 7) (oi := _) (v := ?v7au) rfl (by kernel_rfl) (by kernel_rfl) (by kernel_rfl) (fun _ _ _ h => h) (Or.inl ⟨by rfl, ?y7au⟩) (by assumption) ?r7au
                      case y7au => (intro w' hSw; (try dsimp only at hSw); go_simp; (try with_reducible rfl))
                      try simp only [Act.put, List.getElem_toArray, List.getElem_cons_zero, List.getElem_cons_succ, List.setIfInBounds_toArray, List.set_cons_zero, List.set_cons_succ]
                      refine wpAnyH_take (i := 8) (oi := _) (v := ?v8au) rfl (by kernel_rfl) (by kernel_rfl) (by kernel_rfl) (fun _ _ _ h => h) (Or.inl ⟨by rfl, ?y8au⟩) (by assumption) ?r8au
                      case y8au => (intro w' hSw; (try dsimp only at hSw); go_simp; (try with_reducible rfl))
                      try simp only [Act.put, List.getElem_toArray, List.getElem_cons_zero, List.getElem_cons_succ, List.setIfInBounds_toArray, List.set_cons_zero, List.set_cons_succ]
                      refine wpAnyH_ready (rs := [9]) (by kernel_rfl) (by simp) ?_
                      refine AllReadyH.cons (o := _) rfl (fun K hK => ?_) AllReadyH.nil
                      go_simp
                      refine Calls.mono (HK1.out _) ?_
                      rintro e X ⟨rfl, hEX⟩
                      dsimp only
                      replace EX := EX.trans hEX
                      (try replace OB := hid (OB.out.ext hEX))
                      (try replace IS := hid (IS.out.ext hEX))
                      clear hHeld hEX
                      refine hK.out _ _ (sK EX) (fun hHeld => ?_)
                      clear hK K
                      try simp only [Act.put, List.getElem_toArray, List.getElem_cons_zero, List.getElem_cons_succ, List.setIfInBounds_toArray, List.set_cons_zero, List.set_cons_succ]
                      refine wpAnyH_take (i := 10) (oi := _) (v := ?v10bu) rfl (by kernel_rfl) (by kernel_rfl) (by kernel_rfl) (fun _ _ _ h => h) (Or.inl ⟨by rfl, ?y10bu⟩) (by assumption) ?r10bu
                      case y10bu => (intro w' hSw; (try dsimp only at hSw); go_simp; (try with_reducible rfl))
                      try simp only [Act.put, List.getElem_toArray, List.getElem_cons_zero, List.getElem_cons_succ, List.setIfInBounds_toArray, List.set_cons_zero, List.set_cons_succ]
                      refine wpAnyH_done (by kernel_rfl) ?_ _
                      have E3 := hid (E2.trans EX)
                      have E4 := hid (E.trans (E2.trans EX))
                      clear hHeld EX HK1
                      cases kb
                      · have HRR := hid (HBD1.out (HX9.out.trans (HMI.out HPY.out)))
                        clear HSN HMI HPY HY HBD1 HST1 HX9 HA
                        go_wp2
                        go_ret
                        exact ⟨ret_bool HRR.out.symm, E4.out⟩
                      · have HRR := hid (HSN.out.trans (by rw [HY.out, HPY.out] <;> rfl))
                        clear HSN HMI HPY HY
                        go_wp2
                        go_roundw
                        case rel => exact ⟨E3.out, y + 1, by omega, by omega, by go_num, HRR⟩
                        case measure => simp [intOf]; omega
                    · obtain rfl : y = op + 1 := by omega
                      have HRR := hid (HST1.out.trans (by rw [HA.out, HX9.out, HY.out] <;> rfl))
                      clear HST1 HBD1 HX9 HA HY HP21
                      have E3 := hid (E.trans E2)
                      go_wp2
                      go_roundw
                      case rel => exact ⟨E3.out, k + 1, by omega, by go_num, HRR⟩
                      case measure => simp [intOf]; omega
      case inr => have HL0 := hid (HLO.out (0) (by omega))
                  clear HLO HP11
                  go_loopw [10] (fun i wr => Ext wo wr ∧ ∃ y : Nat, (op : Int) - af ≤ (y : Int) ∧ y ≤ op + 1 ∧ i = .int .i64 y ∧ Hid ((List.range y).all P = true)) (fun i _ => op + 1 - (intOf i).toNat)
                  case atStart => exact ⟨Ext.refl _, 0, by omega, by omega, by congr 1 <;> omega, HL0⟩
                  case round =>
                    clear HL0
                    obtain ⟨E2, y, hy1, hy2, rfl, HY⟩ := hrel
                    by_cases hly : y ≤ op
                    · obtain ⟨b2, off2, rfl, hb2, e0, e1, e2⟩ := (HS.out.ext (E.trans E2)).at_ HM.out (show y < kn by omega)
                      have HPY := hid (HP21.out y hy1)
                      have HSN := hid (range_all_snoc P y)
                      have HMI := hid (fun h => range_all_miss (p := P) (n := op + 1) (k := y) (by omega) h)
                      generalize sk.getD y zeroSk = s at *
                      have HK1 := hid (HKP.out s ⟨wi, ra, tl, th⟩)
                      unfold Sk.val Lm.val at HK1
                      obtain ⟨sw, sr, st⟩ := s
                      dsimp only at e0 e1 e2 HK1
                      generalize keptB ⟨sw, sr, st⟩ ⟨wi, ra, tl, th⟩ = kb at *
                      replace d2 := (E2.cell (p := ⟨b, _, none⟩) hb0).trans d2
                      replace d3 := (E2.cell (p := ⟨b, _, none⟩) hb0).trans d3
                      replace d4 := (E2.cell (p := ⟨b, _, none⟩) hb0).trans d4
                      replace d5 := (E2.cell (p := ⟨b, _, none⟩) hb0).trans d5
                      have hbw := Nat.lt_of_lt_of_le hb0 E2.size
                      have hy3 : (0 : Int) ≤ (y : Int) := by omega
                      have hy4 : (y : Int) < (kn : Int) := by omega
                      clear HKP HP21 d0 d1
                      go_wp2_with fail
                      refine wp_region_held_drew (S := fun w' => (∀ b o, b < wr.heap.size → w'.cell? ⟨b, o, none⟩ = wr.cell? ⟨b, o, none⟩) ∧ wr.heap.size ≤ w'.heap.size ∧ Ext wr w') (by kernel_rfl) ?hS0 (fun hHeld => ?_)
                      case hS0 => exact sK (Ext.drew (Ext.refl _))
                      have X0 : Ext wr wr.drew := Ext.drew (Ext.refl wr)
                      have EX := X0
                      obtain ⟨X, hX⟩ : ∃ X, wr.drew = X := ⟨_, rfl⟩
                      rw [hX] at EX hHeld ⊢
                      clear hX X0
                      refine wpAnyH_take (i := 0) (oi := _) (v := ?v0av) rfl (by kernel_rfl) (by kernel_rfl) (by kernel_rfl) (fun _ _ _ h => h) (Or.inl ⟨by rfl, ?y0av⟩) (by assumption) ?r0av
                      case y0av => (intro w' hSw; (try dsimp only at hSw); go_simp; (try with_reducible rfl))
                      try simp only [Act.put, List.getElem_toArray, List.getElem_cons_zero, List.getElem_cons_succ, List.setIfInBounds_toArray, List.set_cons_zero, List.set_cons_succ]
                      refine wpAnyH_take (i := 1) (oi := _) (v := ?v1av) rfl (by kernel_rfl) (by kernel_rfl) (by kernel_rfl) (fun _ _ _ h => h) (Or.inl ⟨by rfl, ?y1av⟩) (by assumption) ?r1av
                      case y1av => (intro w' hSw; (try dsimp only at hSw); go_simp; (try with_reducible rfl))
                      try simp only [Act.put, List.getElem_toArray, List.getElem_cons_zero, List.getElem_cons_succ, List.setIfInBounds_toArray, List.set_cons_zero, List.set_cons_succ]
                      refine wpAnyH_take (i := 2) (oi := _) (v := ?v2av) rfl (by kernel_rfl) (by kernel_rfl) (by kernel_rfl) (fun _ _ _ h => h) (Or.inl ⟨by rfl, ?y2av⟩) (by assumption) ?r2av
                      case y2av => (intro w' hSw; (try dsimp only at hSw); go_simp; (try with_reducible rfl))
                      try simp only [Act.put, List.getElem_toArray, List.getElem_cons_zero, List.getElem_cons_succ, List.setIfInBounds_toArray, List.set_cons_zero, List.set_cons_succ]
                      refine wpAnyH_take (i := 3) (oi := _) (v := ?v3av) rfl (by kernel_rfl) (by kernel_rfl) (by kernel_rfl) (fun _ _ _ h => h) (Or.inl ⟨by rfl, ?y3av⟩) (by assumption) ?r3av
                      case y3av => (intro w' hSw; (try dsimp only at hSw); go_simp; (try with_reducible rfl))
                      try simp only [Act.put, List.getElem_toArray, List.getElem_cons_zero, List.getElem_cons_succ, List.setIfInBounds_toArray, List.set_cons_zero, List.set_cons_succ]
                      refine wpAnyH_take (i := 4) (oi := _) (v := ?v4av) rfl (by kernel_rfl) (by kernel_rfl) (by kernel_rfl) (fun _ _ _ h => h) (Or.inl ⟨by rfl, ?y4av⟩) (by assumption) ?r4av
                      case y4av => (intro w' hSw; (try dsimp only at hSw); go_simp; (try with_reducible rfl))
                      try simp only [Act.put, List.getElem_toArray, List.getElem_cons_zero, List.getElem_cons_succ, List.setIfInBounds_toArray, List.set_cons_zero, List.set_cons_succ]
                      refine wpAnyH_take (i := 5) (oi := _) (v := ?v5av) rfl (by kernel_rfl) (by kernel_rfl) (by kernel_rfl) (fun _ _ _ h => h) (Or.inl ⟨by rfl, ?y5av⟩) (by assumption) ?r5av
                      case y5av => (intro w' hSw; (try dsimp only at hSw); go_simp; (try with_reducible rfl))
                      try simp only [Act.put, List.getElem_toArray, List.getElem_cons_zero, List.getElem_cons_succ, List.setIfInBounds_toArray, List.set_cons_zero, List.set_cons_succ]
                      refine wpAnyH_take (i := 6) (oi := _) (v := ?v6av) rfl (by kernel_rfl) (by kernel_rfl) (by kernel_rfl) (fun _ _ _ h => h) (Or.inl ⟨by rfl, ?y6av⟩) (by assumption) ?r6av
                      case y6av => (intro w' hSw; (try dsimp only at hSw); go_simp; (try with_reducible rfl))
                      try simp only [Act.put, List.getElem_toArray, List.getElem_cons_zero, List.getElem_cons_succ, List.setIfInBounds_toArray, List.set_cons_zero, List.set_cons_succ]
                      refine wpAnyH_take (i := 7) (oi := _) (v := ?v7av) rfl (by kernel_rfl) (by kernel_rfl) (by kernel_rfl) (fun _ _ _ h => h) (Or.inl ⟨by rfl, ?y7av⟩) (by assumption) ?r7av
                      case y7av => (intro w' hSw; (try dsimp only at hSw); go_simp; (try with_reducible rfl))
                      try simp only [Act.put, List.getElem_toArray, List.getElem_cons_zero, List.getElem_cons_succ, List.setIfInBounds_toArray, List.set_cons_zero, List.set_cons_succ]
                      refine wpAnyH_take (i := 8) (oi := _) (v := ?v8av) rfl (by kernel_rfl) (by kernel_rfl) (by kernel_rfl) (fun _ _ _ h => h) (Or.inl ⟨by rfl, ?y8av⟩) (by assumption) ?r8av
                      case y8av => (intro w' hSw; (try dsimp only at hSw); go_simp; (try with_reducible rfl))
                      try simp only [Act.put, List.getElem_toArray, List.getElem_cons_zero, List.getElem_cons_succ, List.setIfInBounds_toArray, List.set_cons_zero, List.set_cons_succ]
                      refine wpAnyH_ready (rs := [9]) (by kernel_rfl) (by simp) ?_
                      refine AllReadyH.cons (o := _) rfl (fun K hK => ?_) AllReadyH.nil
                      go_simp
                      refine Calls.mono (HK1.out _) ?_
                      rintro e X ⟨rfl, hEX⟩
                      dsimp only
                      replace EX := EX.trans hEX
                      (try replace OB := hid (OB.out.ext hEX))
                      (try replace IS := hid (IS.out.ext hEX))
                      clear hHeld hEX
                      refine hK.out _ _ (sK EX) (fun hHeld => ?_)
                      clear hK K
                      try simp only [Act.put, List.getElem_toArray, List.getElem_cons_zero, List.getElem_cons_succ, List.setIfInBounds_toArray, List.set_cons_zero, List.set_cons_succ]
                      refine wpAnyH_take (i := 10) (oi := _) (v := ?v10bv) rfl (by kernel_rfl) (by kernel_rfl) (by kernel_rfl) (fun _ _ _ h => h) (Or.inl ⟨by rfl, ?y10bv⟩) (by assumption) ?r10bv
                      case y10bv => (intro w' hSw; (try dsimp only at hSw); go_simp; (try with_reducible rfl))
                      try simp only [Act.put, List.getElem_toArray, List.getElem_cons_zero, List.getElem_cons_succ, List.setIfInBounds_toArray, List.set_cons_zero, List.set_cons_succ]
                      refine wpAnyH_done (by kernel_rfl) ?_ _
                      have E3 := hid (E2.trans EX)
                      have E4 := hid (E.trans (E2.trans EX))
                      clear hHeld EX HK1
                      cases kb
                      · have HRR := hid (HBD1.out (HX9.out.trans (HMI.out HPY.out)))
                        clear HSN HMI HPY HY HBD1 HST1 HX9 HA
                        go_wp2
                        go_ret
                        exact ⟨ret_bool HRR.out.symm, E4.out⟩
                      · have HRR := hid (HSN.out.trans (by rw [HY.out, HPY.out] <;> rfl))
                        clear HSN HMI HPY HY
                        go_wp2
                        go_roundw
                        case rel => exact ⟨E3.out, y + 1, by omega, by omega, by go_num, HRR⟩
                        case measure => simp [intOf]; omega
                    · obtain rfl : y = op + 1 := by omega
                      have HRR := hid (HST1.out.trans (by rw [HA.out, HX9.out, HY.out] <;> rfl))
                      clear HST1 HBD1 HX9 HA HY HP21
                      have E3 := hid (E.trans E2)
                      go_wp2
                      go_roundw
                      case rel => exact ⟨E3.out, k + 1, by omega, by go_num, HRR⟩
                      case measure => simp [intOf]; omega
    · obtain rfl : k = rn := by omega
      have HD := hid (HEN.out HA.out)
      clear HST HBD HEN HA HNO HYE HAF HP1 HP2
      go_wp2
      go_ret
      exact ⟨ret_bool HD.out.symm, by (repeat' (first | with_reducible assumption | with_reducible exact Ext.refl _ | with_reducible refine Ext.alloc ?_ _ | with_reducible refine Ext.set ?_ ?_ _ | with_reducible refine Ext.drew ?_ | with_reducible refine Ext.drewN ?_ _ | with_reducible refine Ext.trans ?_ (by assumption) | (dsimp only; omega)))⟩
end Go.Proofs.YtecamnhnjmldcaaGreatDoor
/- Windows, rows and scenarios: what their first ones and longest stretches are (no program). -/
set_option linter.unusedSimpArgs false
set_option linter.unusedVariables false
namespace Go.Proofs.YtecamnhnjmldcaaGreatDoor
open Go.RowKit
theorem all_part {α : Type} (xs : List α) (d : α) (p : α → Bool) (i len : Nat) (h : i + len ≤ xs.length) : ((xs.drop i).take len).all p = true ↔ ∀ j, j < len → p (xs.getD (i + j) d) = true := by
  rw [List.all_eq_true]
  constructor
  · intro ha j hj
    refine ha _ ?_
    have hlt : j < ((xs.drop i).take len).length := by rw [List.length_take, List.length_drop]; omega
    have e : ((xs.drop i).take len)[j] = xs.getD (i + j) d := by
      rw [List.getElem_take, List.getElem_drop]
      simp [List.getD, List.getElem?_eq_getElem (show i + j < xs.length by omega)]
    rw [← e]
    exact List.getElem_mem hlt
  · intro ha x hx
    obtain ⟨j, hj, rfl⟩ := List.getElem_of_mem hx
    have hj2 : j < len := by rw [List.length_take] at hj; omega
    rw [List.getElem_take, List.getElem_drop]
    have := ha j hj2
    simpa [List.getD, List.getElem?_eq_getElem (show i + j < xs.length by omega)] using this
/-- A window of hours begins. -/
def WinAt (p : Nat → Bool) (len x : Nat) : Prop := ∀ j, j < len → p (x + j) = true
theorem nextM_spec (kept : Hr → Bool) (len n : Nat) (hs : List Hr) (hlen : 1 ≤ len) (hn : hs.length = n) : ∀ k h, n + 1 ≤ k + h →
    (nextM kept len n hs k h = n ∧ ∀ x, h ≤ x → x + len ≤ n → ¬ WinAt (fun i => kept (hs.getD i zeroHr)) len x) ∨
    (h ≤ nextM kept len n hs k h ∧ nextM kept len n hs k h + len ≤ n ∧ WinAt (fun i => kept (hs.getD i zeroHr)) len (nextM kept len n hs k h) ∧ ∀ x, h ≤ x → x < nextM kept len n hs k h → ¬ WinAt (fun i => kept (hs.getD i zeroHr)) len x)
  | 0, h, hk => .inl ⟨rfl, fun x h1 h2 => by omega⟩
  | k + 1, h, hk => by
    by_cases hlt : n < h + len
    · rw [nextM_out hlt]
      exact .inl ⟨rfl, fun x h1 h2 => by omega⟩
    · have hap := all_part hs zeroHr kept h len (by omega)
      cases ha : ((hs.drop h).take len).all kept
      · rw [nextM_miss hlt ha]
        have hnw : ¬ WinAt (fun i => kept (hs.getD i zeroHr)) len h := fun hw => by
          have := hap.2 hw
          rw [ha] at this; cases this
        rcases nextM_spec kept len n hs hlen hn k (h + 1) (by omega) with ⟨h1, h2⟩ | ⟨h1, h2, h3, h4⟩
        · refine .inl ⟨h1, fun x hx hx2 => ?_⟩
          by_cases hxe : x = h
          · rw [hxe]; exact hnw
          · exact h2 x (by omega) hx2
        · refine .inr ⟨by omega, h2, h3, fun x hx hx2 => ?_⟩
          by_cases hxe : x = h
          · rw [hxe]; exact hnw
          · exact h4 x (by omega) hx2
      · rw [nextM_hit hlt ha]
        exact .inr ⟨Nat.le_refl _, by omega, hap.1 ha, fun x hx hx2 => by omega⟩
theorem nxtM_spec (kept : Hr → Bool) (len n : Nat) (hs : List Hr) (hlen : 1 ≤ len) (hn : hs.length = n) (h : Nat) :
    (nxtM kept len n hs h = n ∧ ∀ x, h ≤ x → x + len ≤ n → ¬ WinAt (fun i => kept (hs.getD i zeroHr)) len x) ∨
    (h ≤ nxtM kept len n hs h ∧ nxtM kept len n hs h + len ≤ n ∧ WinAt (fun i => kept (hs.getD i zeroHr)) len (nxtM kept len n hs h) ∧ ∀ x, h ≤ x → x < nxtM kept len n hs h → ¬ WinAt (fun i => kept (hs.getD i zeroHr)) len x) :=
  nextM_spec kept len n hs hlen hn (n + 1 - h) h (by omega)
theorem begF_spec (l : List Bool) (len : Nat) (hlen : 1 ≤ len) : ∀ k h, l.length + 1 ≤ k + h →
    (begF l len k h = -1 ∧ ∀ x, h ≤ x → x + len ≤ l.length → ¬ WinAt (fun i => l.getD i false) len x) ∨
    (∃ b : Nat, begF l len k h = (b : Int) ∧ h ≤ b ∧ b + len ≤ l.length ∧ WinAt (fun i => l.getD i false) len b ∧ ∀ x, h ≤ x → x < b → ¬ WinAt (fun i => l.getD i false) len x)
  | 0, h, hk => .inl ⟨rfl, fun x h1 h2 => by omega⟩
  | k + 1, h, hk => by
    by_cases hlt : l.length < h + len
    · rw [begF_out hlt]
      exact .inl ⟨rfl, fun x h1 h2 => by omega⟩
    · have hap := all_part l false id h len (by omega)
      cases ha : ((l.drop h).take len).all id
      · rw [begF_miss hlt ha]
        have hnw : ¬ WinAt (fun i => l.getD i false) len h := fun hw => by
          have := hap.2 hw
          rw [ha] at this; cases this
        rcases begF_spec l len hlen k (h + 1) (by omega) with ⟨h1, h2⟩ | ⟨b, h0, h1, h2, h3, h4⟩
        · refine .inl ⟨h1, fun x hx hx2 => ?_⟩
          by_cases hxe : x = h
          · rw [hxe]; exact hnw
          · exact h2 x (by omega) hx2
        · refine .inr ⟨b, h0, by omega, h2, h3, fun x hx hx2 => ?_⟩
          by_cases hxe : x = h
          · rw [hxe]; exact hnw
          · exact h4 x (by omega) hx2
      · rw [begF_hit hlt ha]
        exact .inr ⟨h, rfl, Nat.le_refl _, by omega, hap.1 ha, fun x hx hx2 => by omega⟩
theorem begV_spec (l : List Bool) (len : Nat) (hlen : 1 ≤ len) :
    (begV l len = -1 ∧ ∀ x, x + len ≤ l.length → ¬ WinAt (fun i => l.getD i false) len x) ∨
    (∃ b : Nat, begV l len = (b : Int) ∧ b + len ≤ l.length ∧ WinAt (fun i => l.getD i false) len b ∧ ∀ x, x < b → ¬ WinAt (fun i => l.getD i false) len x) := by
  rcases begF_spec l len hlen (l.length + 1) 0 (by omega) with ⟨h1, h2⟩ | ⟨b, h0, h1, h2, h3, h4⟩
  · exact .inl ⟨h1, fun x hx => h2 x (Nat.zero_le _) hx⟩
  · exact .inr ⟨b, h0, h2, h3, fun x hx => h4 x (Nat.zero_le _) hx⟩
theorem sur_kept {s : Sk} {h : Hr} {l : Lm} (hi : insB s h = true) (hs : surB l h = true) : keptB s l = true := by
  unfold insB inI at hi
  unfold surB spB at hs
  unfold keptB inI
  simp only [Bool.and_eq_true, decide_eq_true_eq] at *
  omega
theorem kept_may {s : Sk} {h : Hr} {l : Lm} (hi : insB s h = true) (hk : keptB s l = true) : mayB l h = true := by
  unfold insB inI at hi
  unfold mayB
  unfold keptB inI at hk
  simp only [Bool.and_eq_true, decide_eq_true_eq] at *
  omega
theorem just_ins (s : Sg) : insB s.sky (justM s) = true := by
  unfold insB justM inI Sg.sky
  simp
theorem obsM_ins (sk : Nat → Sk) : ∀ (seen : List Sg) (hs : List Hr), (∀ h, h < hs.length → insB (sk h) (hs.getD h zeroHr) = true) → (∀ s ∈ seen, s.hour.toNat < hs.length → insB (sk s.hour.toNat) (justM s) = true) → ∀ h, h < hs.length → insB (sk h) ((obsM seen hs).getD h zeroHr) = true
  | [], hs, h1, _, h, hh => h1 h hh
  | s :: ss, hs, h1, h2, h, hh => by
    have e : obsM (s :: ss) hs = obsM ss (hs.set s.hour.toNat (justM s)) := rfl
    rw [e]
    refine obsM_ins sk ss _ (fun i hi => ?_) (fun t ht hl => h2 t (by simp [ht]) (by rw [List.length_set] at hl; exact hl)) h (by rw [List.length_set]; exact hh)
    rw [List.length_set] at hi
    by_cases hie : i = s.hour.toNat
    · subst hie
      have e2 : (hs.set s.hour.toNat (justM s)).getD s.hour.toNat zeroHr = justM s := by
        simp [List.getD, List.getElem?_set_self hi]
      rw [e2]
      exact h2 s (by simp) hi
    · have e2 : (hs.set s.hour.toNat (justM s)).getD i zeroHr = hs.getD i zeroHr := by
        have hne : s.hour.toNat ≠ i := fun h => hie h.symm
        simp [List.getD, List.getElem?_set_ne hne]
      rw [e2]
      exact h1 i hi
/-- A possible weather is one of a scenario. -/
theorem wea_scen {f : List (List Hr)} {seen : List Sg} {skies : List Sk} (hfc : fcB f = true) (h : weaB f seen skies = true) :
    skies.length = hoursN f ∧ ∃ hs ∈ scsM seen f, hs.length = hoursN f ∧ ∀ i, i < hoursN f → insB (skies.getD i zeroSk) (hs.getD i zeroHr) = true := by
  unfold weaB at h
  simp only [Bool.and_eq_true, decide_eq_true_eq] at h
  obtain ⟨h1, h2, h3⟩ := h
  refine ⟨h1, ?_⟩
  obtain ⟨i, hi, h4⟩ := List.any_eq_true.1 h3
  obtain ⟨hi1, hi2⟩ := List.mem_filter.1 hi
  have hil := List.mem_range.1 hi1
  have hm : f.getD i [] ∈ f := mem_at f [] i hil
  have hl : (f.getD i []).length = hoursN f := ((fc_ok hfc).2.2.2.2 _ hm).1
  refine ⟨obsM seen (f.getD i []), ?_, by rw [obsM_len]; exact hl, ?_⟩
  · unfold scsM
    exact List.mem_map.2 ⟨_, List.mem_filter.2 ⟨hm, hi2⟩, rfl⟩
  · intro j hj
    refine obsM_ins (fun k => skies.getD k zeroSk) seen _ (fun k hk => ?_) (fun s hs hl2 => ?_) j (by rw [hl]; exact hj)
    · exact List.all_eq_true.1 h4 k (List.mem_range.2 (by rw [h1, ← hl]; exact hk))
    · have := List.all_eq_true.1 h2 s hs
      rw [decide_eq_true_eq] at this
      rw [this]
      exact just_ins s
theorem foldl_min_le {α : Type} (g : α → Nat) : ∀ (xs : List α) (m : Nat), xs.foldl (fun a x => min a (g x)) m ≤ m ∧ ∀ x ∈ xs, xs.foldl (fun a x => min a (g x)) m ≤ g x
  | [], m => ⟨Nat.le_refl _, fun x h => by simp at h⟩
  | y :: ys, m => by
    have ih := foldl_min_le g ys (min m (g y))
    rw [List.foldl_cons]
    refine ⟨by omega, fun x hx => ?_⟩
    rcases List.mem_cons.1 hx with rfl | hx
    · omega
    · exact ih.2 x hx
theorem foldl_max_ge {α : Type} (g : α → Nat) : ∀ (xs : List α) (m : Nat), m ≤ xs.foldl (fun a x => max a (g x)) m ∧ ∀ x ∈ xs, g x ≤ xs.foldl (fun a x => max a (g x)) m
  | [], m => ⟨Nat.le_refl _, fun x h => by simp at h⟩
  | y :: ys, m => by
    have ih := foldl_max_ge g ys (max m (g y))
    rw [List.foldl_cons]
    refine ⟨by omega, fun x hx => ?_⟩
    rcases List.mem_cons.1 hx with rfl | hx
    · omega
    · exact ih.2 x hx
theorem gap1M_ge (kept : Hr → Bool) (len n : Nat) (hs : List Hr) (m : Nat) : m ≤ gap1M kept len n hs m ∧ ∀ h, h < n → min (nxtM kept len n hs h + len - 1) n - h ≤ gap1M kept len n hs m := by
  have := foldl_max_ge (fun h => min (nxtM kept len n hs h + len - 1) n - h) (List.range n) m
  exact ⟨this.1, fun h hh => this.2 h (List.mem_range.2 hh)⟩
theorem gapM_ge (kept : Hr → Bool) (len n : Nat) : ∀ (ss : List (List Hr)) (m : Nat), m ≤ ss.foldl (fun m hs => gap1M kept len n hs m) m ∧ ∀ hs ∈ ss, ∀ h, h < n → min (nxtM kept len n hs h + len - 1) n - h ≤ ss.foldl (fun m hs => gap1M kept len n hs m) m
  | [], m => ⟨Nat.le_refl _, fun x h => by simp at h⟩
  | y :: ys, m => by
    have ih := gapM_ge kept len n ys (gap1M kept len n y m)
    have h1 := gap1M_ge kept len n y m
    rw [List.foldl_cons]
    refine ⟨by omega, fun x hx h hh => ?_⟩
    rcases List.mem_cons.1 hx with rfl | hx
    · have := h1.2 h hh; omega
    · exact ih.2 x hx h hh
theorem lack1_bd {l : List Bool} {len a G : Nat} : ∀ k m, m ≤ G → (∀ d, d < k → begV ((l.drop a).take (d + 1)) len < 0 → d + 1 ≤ G) → lack1 l len a k m ≤ G
  | 0, m, hm, _ => hm
  | k + 1, m, hm, h => by
    rw [lack1_step]
    have ih := lack1_bd k m hm (fun d hd => h d (by omega))
    split
    · rename_i hb
      have := h k (by omega) hb
      omega
    · exact ih
theorem lackK_bd {l : List Bool} {len G : Nat} : ∀ k, k ≤ l.length → (∀ a, a < k → ∀ d, a + d < l.length → begV ((l.drop a).take (d + 1)) len < 0 → d + 1 ≤ G) → lackK l len k ≤ G
  | 0, _, _ => Nat.zero_le _
  | k + 1, hk, h => by
    rw [lackK_step]
    exact lack1_bd _ _ (lackK_bd k (by omega) (fun a ha => h a (by omega))) (fun d hd hb => h k (by omega) d (by omega) hb)
end Go.Proofs.YtecamnhnjmldcaaGreatDoor
/- What holds in each hour of a possible weather (no program). -/
set_option linter.unusedSimpArgs false
set_option linter.unusedVariables false
namespace Go.Proofs.YtecamnhnjmldcaaGreatDoor
open Go.RowKit
/-- All hours of the scenarios of an outlook are valid. -/
theorem scs_hr {f : List (List Hr)} {seen : List Sg} (hfc : fcB f = true) (hsg : sgsB (hoursN f) seen = true) {hs : List Hr} (hm : hs ∈ scsM seen f) : ∀ i, i < hoursN f → hrB (hs.getD i zeroHr) = true := by
  unfold scsM at hm
  obtain ⟨y, hy, rfl⟩ := List.mem_map.1 hm
  have hy1 := (List.mem_filter.1 hy).1
  obtain ⟨hl, ha⟩ := (fc_ok hfc).2.2.2.2 y hy1
  intro i hi
  refine obsM_all (fun _ h => hrB h = true) seen y (fun h hh => ?_) (fun s hs _ => ?_) i (by rw [hl]; exact hi)
  · exact List.all_eq_true.1 ha _ (mem_at y zeroHr h hh)
  · unfold sgsB at hsg
    rw [Bool.and_eq_true, List.all_eq_true] at hsg
    have := hsg.2 s hs
    unfold sgB at this
    simp only [Bool.and_eq_true] at this
    exact this.2.2
/-- The spans of what is so: which numbers are in them. -/
theorem spans_in (p : Nat → Bool) : ∀ k, (∀ s ∈ spansM p k, 0 ≤ s.1 ∧ s.1 ≤ s.2 ∧ s.2 < (k : Int)) ∧ ∀ i : Nat, isInM i (spansM p k) = (decide (i < k) && p i)
  | 0 => by
    refine ⟨fun s hs => by simp [spansM] at hs, fun i => ?_⟩
    simp [spansM, isInM]
  | k + 1 => by
    obtain ⟨h1, h2⟩ := spans_in p k
    rw [spansM_step]
    by_cases hp : p k = true
    · rw [if_pos hp]
      have hall : ∀ i : Nat, (decide (i < k + 1) && p i) = (isInM i (spansM p k) || decide (i = k)) := fun i => by
        rw [h2 i]
        by_cases hik : i = k
        · subst hik; simp [hp]
        · rw [decide_eq_false hik, Bool.or_false, show decide (i < k + 1) = decide (i < k) from decide_eq_decide.2 (by omega)]
      generalize spansM p k = acc at *
      unfold spStep
      cases hl : acc.getLast? with
      | none =>
        have hnil : acc = [] := List.getLast?_eq_none_iff.1 hl
        subst hnil
        refine ⟨fun s hs => ?_, fun i => ?_⟩
        · simp at hs; subst hs; dsimp only; omega
        · rw [hall i]
          unfold isInM inI
          rw [Bool.eq_iff_iff]
          simp
          omega
      | some s =>
        obtain ⟨lo, hi⟩ := s
        dsimp only
        obtain ⟨pre, hpre⟩ := List.getLast?_eq_some_iff.1 hl
        subst hpre
        have hlast := h1 (lo, hi) (by simp)
        dsimp only at hlast
        by_cases hj : hi = (k : Int) - 1
        · rw [if_pos hj, List.dropLast_concat]
          refine ⟨fun s hs => ?_, fun i => ?_⟩
          · rcases List.mem_append.1 hs with h | h
            · have := h1 s (List.mem_append_left _ h); omega
            · simp at h; subst h; dsimp only; omega
          · rw [hall i]
            unfold isInM inI
            rw [List.any_append, List.any_append, Bool.eq_iff_iff]
            generalize (pre.any fun s => decide (s.1 ≤ (i : Int)) && decide ((i : Int) ≤ s.2)) = B
            simp only [List.any_cons, List.any_nil, Bool.or_false, Bool.or_eq_true, Bool.and_eq_true, decide_eq_true_eq]
            cases B
            · simp only [Bool.false_eq_true, false_or]; omega
            · simp
        · rw [if_neg hj]
          refine ⟨fun s hs => ?_, fun i => ?_⟩
          · rcases List.mem_append.1 hs with h | h
            · have := h1 s h; omega
            · simp at h; subst h; dsimp only; omega
          · rw [hall i]
            unfold isInM inI
            rw [List.any_append, Bool.eq_iff_iff]
            generalize ((pre ++ [(lo, hi)]).any fun s => decide (s.1 ≤ (i : Int)) && decide ((i : Int) ≤ s.2)) = B
            simp only [List.any_cons, List.any_nil, Bool.or_false, Bool.or_eq_true, Bool.and_eq_true, decide_eq_true_eq]
            cases B
            · simp only [Bool.false_eq_true, false_or]; omega
            · simp
    · rw [if_neg hp]
      refine ⟨fun s hs => by have := h1 s hs; omega, fun i => ?_⟩
      rw [h2 i]
      have hpf : p k = false := by simpa using hp
      by_cases hik : i = k
      · subst hik; simp [hpf]
      · rw [show decide (i < k + 1) = decide (i < k) from decide_eq_decide.2 (by omega)]
theorem spans_at (p : Nat → Bool) (n i : Nat) (hi : i < n) : isInM i (spansM p n) = p i := by
  rw [(spans_in p n).2 i, decide_eq_true hi, Bool.true_and]
theorem ask_one (l : Lm) (hour op : Nat) : askM [⟨0, 0, l⟩] hour op = if op ≤ hour then andL wideL l else wideL := by
  show (if (op : Int) - 0 ≤ (hour : Int) then andL wideL l else wideL) = _
  by_cases h : op ≤ hour
  · rw [if_pos h, if_pos (by omega)]
  · rw [if_neg h, if_neg (by omega)]
theorem sur_and {l : Lm} {h : Hr} (hs : surB (andL wideL l) h = true) : surB l h = true := by
  unfold surB spB andL wideL at hs
  unfold surB spB
  simp only [Bool.and_eq_true, decide_eq_true_eq] at *
  omega
theorem may_wide {h : Hr} (hv : hrB h = true) : mayB wideL h = true := by
  unfold hrB spB at hv
  unfold mayB wideL
  simp only [Bool.and_eq_true, decide_eq_true_eq] at *
  omega
theorem may_and {l : Lm} {h : Hr} (hv : hrB h = true) (hl : lmB l = true) (hm : mayB l h = true) : mayB (andL wideL l) h = true := by
  unfold hrB spB at hv
  unfold lmB inI spB at hl
  unfold mayB at hm
  unfold mayB andL wideL
  simp only [Bool.and_eq_true, decide_eq_true_eq] at *
  omega
theorem sure_one {l : Lm} {ss : List (List Hr)} {n i : Nat} (hi : i < n) (h : isInM i (sureM [⟨0, 0, l⟩] ss n) = true) {hs : List Hr} (hm : hs ∈ ss) : surB l (hs.getD i zeroHr) = true := by
  unfold sureM at h
  rw [spans_at _ _ _ hi] at h
  have h1 := List.all_eq_true.1 h hs hm
  unfold isOpenM at h1
  have h2 := List.all_eq_true.1 h1 i (List.mem_range.2 (by omega))
  rw [ask_one, if_pos (Nat.le_refl _)] at h2
  exact sur_and h2
theorem may_one {l : Lm} {ss : List (List Hr)} {n i : Nat} (hi : i < n) (hl : lmB l = true) {hs : List Hr} (hm : hs ∈ ss) (hv : ∀ j, j < n → hrB (hs.getD j zeroHr) = true) (hk : mayB l (hs.getD i zeroHr) = true) : isInM i (mayM [⟨0, 0, l⟩] ss n) = true := by
  unfold mayM
  rw [spans_at _ _ _ hi]
  refine List.any_eq_true.2 ⟨hs, hm, ?_⟩
  unfold isOpenM
  refine List.all_eq_true.2 fun j hj => ?_
  have hj := List.mem_range.1 hj
  rw [ask_one]
  by_cases h : i ≤ j
  · obtain rfl : j = i := by omega
    rw [if_pos (Nat.le_refl _)]
    exact may_and (hv _ hi) hl hk
  · rw [if_neg h]
    exact may_wide (hv _ (by omega))
/-- All that is in an hour is in another one. -/
def SubH (a b : Hr) : Prop := b.wl ≤ a.wl ∧ a.wh ≤ b.wh ∧ b.rl ≤ a.rl ∧ a.rh ≤ b.rh ∧ b.tl ≤ a.tl ∧ a.th ≤ b.th
end Go.Proofs.YtecamnhnjmldcaaGreatDoor
