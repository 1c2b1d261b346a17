/- What the statements' proofs share. -/
import Derived.Test.YtecamnhnjmldcaaGreatDoorB23
import Derived.Test.YtecamnhnjmldcaaGreatDoorTie
import Derived.Test.YtecamnhnjmldcaaGreatDoorCards
import Derived.ProofKit
import Derived.LaidMore
import Derived.OpenShut
import Derived.ChangeOld
import Derived.Below
import Derived.Stop.Joined
import Derived.Stop.LaidErr
import Derived.SevenTiedAt
import Derived.Test.YtecamnhnjmldcaaGreatDoorB22
import Derived.Test.YtecamnhnjmldcaaGreatDoorB10
import Derived.Test.YtecamnhnjmldcaaGreatDoorB13
set_option linter.unusedSimpArgs false
set_option linter.unusedVariables false
namespace Go.Proofs.YtecamnhnjmldcaaGreatDoor
open Go.RowKit
open Go.ChangeShapes Go.WideShapes Go.ChangeAt Go.Joins
theorem own : ownKnob Tryz.prog.godebug = none := by kernel_rfl
theorem laidOut : laidOutB Tryz.prog = true := by kernel_rfl
/-- The door's own heap meets the condition. -/
theorem door_met (os : Os) (args : Array Value) : laidMetH Tryz.prog laid1 ((World.doorLaid Tryz.prog 400 os).forCall (fun _ _ => 0) ⟨#[], args, []⟩).memory := by
  refine laidMetH_of_parts3 (fuel := 8) (laidMet_of_run' 8 (by kernel_rfl) (by kernel_rfl)) (by kernel_rfl) (by kernel_rfl)
end Go.Proofs.YtecamnhnjmldcaaGreatDoor
/- Which scenarios are possible: the specification. -/
set_option linter.unusedSimpArgs false
set_option linter.unusedVariables false
namespace Go.Proofs.YtecamnhnjmldcaaGreatDoor
open Go.RowKit
theorem infoIn : (Tryz.prog.info? 3).map (fun i => (i.zero, i.size, i.bytes)) = some (some (.int .i64 0), 1, 8) := by kernel_rfl
theorem oneIn : ∀ y : Int, ∀ u ∈ gInt y, u.oneCell' = true := by
  intro y u hu
  simp only [gInt, List.mem_cons, List.not_mem_nil, or_false] at hu
  subst hu
  rfl
theorem wpList_app1In {ops : Array Oper} {rest : List Oper} {o : Oper} {a : Act} {Q : Exit → Act → World → Prop} (w : World) (hg : o.guard = none) (s x : Operand)
    (hop : o.op = Op.call { callee := Callee.builtin Builtin.append, args := #[s, x], argTypes := #[86, 86] }) (B : Nat) (v : Value) (xs : List Int) (hs : a.eval s = v) (hown : Ownl 3 1 gInt w B v xs)
    (z : Nat) (y : Int) (hx : a.eval x = .slice (some ⟨z, 0, none⟩) 1 1) (hy : Blk w z 3 #[.int .i64 y]) (hl : xs.length ≤ 10000) (hB : B ≤ w.heap.size)
    (hK : ∀ v' w', Ownl 3 1 gInt w' B v' (xs ++ [y]) → w.grownBy w' v.ownBlock → wpList Tryz.prog ops Q rest (a.put o.dst v') w') : wpList Tryz.prog ops Q (o :: rest) a w := by
  obtain ⟨i0, hi, hz0, hz1, hz2⟩ := info_parts infoIn
  refine wpList_append_own w hg s x 86 hop B 3 i0 _ 1 8 Tryz.underlying86 hi hz0 hz1 hz2 rfl (by decide) v xs.length (xs.flatMap gInt) hs hown ⟨z, 0, none⟩ 1 1 (gInt y) hx rfl ?_ (oneIn y) (by unfold maxLen; omega) (by omega) hB (fun v' w' h1 h2 _ => hK v' w' (Ownl.snoc h1) h2)
  intro j u hj
  rw [addr_add, Nat.zero_add, hy.cell]
  match j, hj with
  | 0, hj => exact hj
  | j + 1, hj => simp [gInt] at hj
theorem sg_hour {N : Nat} {seen : List Sg} (h : sgsB N seen = true) {s : Sg} (hs : s ∈ seen) : ∃ j : Nat, s.hour = (j : Int) ∧ j < N := by
  unfold sgsB at h
  rw [Bool.and_eq_true, List.all_eq_true] at h
  have := h.2 s hs
  unfold sgB inI at this
  simp only [Bool.and_eq_true, decide_eq_true_eq] at this
  exact ⟨s.hour.toNat, by omega, by omega⟩
set_option maxHeartbeats 8000000 in
set_option maxRecDepth 100000 in
theorem rpossible_any (f : List (List Hr)) (A : Option Addr) (n c : Nat) (seen : List Sg) (SA : Option Addr) (m sc : Nat) (w : World) (h : FIn w f A n seen SA m) (hfc : fcB f = true) (hsg : sgsB (hoursN f) seen = true) :
    Calls Tryz.prog 46 #[.agg #[.slice A n c], .slice SA m sc] w fun e w' => ∃ A' c', e = .returned (.slice A' (numsM seen f).length c') ∧ Ownl 3 1 gInt w' w.heap.size (.slice A' (numsM seen f).length c') (numsM seen f) ∧ Ext w w' := by
  have HIN := hid (fun s h W => rInside_any s h W)
  have HX := hid h.sc
  have HN := hid h.hn
  have HS := hid h.sg
  have HM := hid h.hl
  have hm2 := h.hm2
  have hm := h.hm
  have HLEN := hid (fun x hx => ((fc_ok hfc).2.2.2.2 x hx).1)
  have HHR := hid (fun s (hs : s ∈ seen) => sg_hour hsg hs)
  have hN2 : hoursN f ≤ 48 := (fc_ok hfc).2.2.1
  have HNK := hid (numsK_step seen f)
  have HNL := hid (numsK_len seen f)
  have HNE := hid (show numsK seen f n = numsM seen f by unfold numsK numsM; rw [HN.out])
  have HAL := hid (show ∀ x, allowB seen x = seen.all fun s => inB s (x.getD s.hour.toNat zeroHr) from fun x => rfl)
  have HK0 := hid (show numsK seen f 0 = [] from rfl)
  have B0 := hid (show Blk _ _ _ _ from blk_last w (.cells #[.slice A n c] 24))
  clear h hfc hsg
  generalize hoursN f = N at *
  generalize numsM seen f = NM at *
  generalize numsK seen f = NK at *
  generalize allowB seen = AL at *
  go_enter Tryz.func46, Tryz.ntmps46
  go_wp2
  go_loopw [5, 6] (fun v i wr => Ext w wr ∧ Hid (Blk wr w.heap.size 24 #[.slice A n c]) ∧ ∃ (k : Nat) (A' : Option Addr) (c' : Nat), k ≤ n ∧ i = .int .i64 k ∧ v = .slice A' (NK k).length c' ∧ Hid (Ownl 3 1 gInt wr (w.heap.size + 1) (.slice A' (NK k).length c') (NK k))) (fun _ i _ => n - (intOf i).toNat)
  case atStart => exact ⟨by (repeat' (first | with_reducible assumption | with_reducible exact Ext.refl _ | with_reducible refine Ext.alloc ?_ _ | with_reducible refine Ext.set ?_ ?_ _ | with_reducible refine Ext.drew ?_ | with_reducible refine Ext.drewN ?_ _ | with_reducible refine Ext.trans ?_ (by assumption) | (dsimp only; omega))), B0, 0, none, 0, Nat.zero_le _, rfl, by rw [HK0.out]; rfl, hid (by rw [HK0.out]; exact Ownl.nil _ _)⟩
  case round =>
    obtain ⟨hE, K0, k, A2, c2, hk, rfl, rfl, HV⟩ := hrel
    have a0 := K0.out.cell 0
    have z0 := K0.out.lt
    simp only [List.getElem?_toArray, List.getElem?_cons_zero] at a0
    clear B0
    by_cases hlt : k < n
    · obtain ⟨b, off, rfl, hb0, A', c', hc0, hcap, hhr⟩ := HX.out.at_ HN.out hlt
      have HL1 := hid (HLEN.out _ (mem_at f [] k (by rw [HN.out]; exact hlt)))
      have HST := hid (HNK.out k)
      have HLK := hid (HNL.out k)
      have HAY := hid (HAL.out (f.getD k []))
      generalize f.getD k [] = y at *
      rw [HL1.out] at hc0 hcap
      have HC0 := hid hc0
      have HH := hid hhr
      have HAS := hid (fun j hj => all_take_snoc seen (fun s => inB s (y.getD s.hour.toNat zeroHr)) zeroSg j hj)
      have HAE := hid (show (seen.take m).all (fun s => inB s (y.getD s.hour.toNat zeroHr)) = AL y by rw [HAY.out, List.take_of_length_le (by rw [HM.out]; exact Nat.le_refl _)])
      generalize hPK : (fun j => (seen.take j).all (fun s => inB s (y.getD s.hour.toNat zeroHr))) = PK
      have hpk : ∀ j, (seen.take j).all (fun s => inB s (y.getD s.hour.toNat zeroHr)) = PK j := fun j => by rw [← hPK]
      have hp0 : PK 0 = true := by rw [← hPK]; rfl
      simp only [hpk] at HAS HAE
      clear hPK hpk hc0 hhr HAY HAL HNK HNL HLEN
      have hk1 : (NK k).length ≤ k := HLK.out
      obtain ⟨wo, hwo⟩ : ∃ wo, wo = wr := ⟨_, rfl⟩
      go_wp2
      go_loopw [7, 8] (fun a i wx => Ext wr wx ∧ ∃ j : Nat, j ≤ m ∧ i = .int .i64 j ∧ a = .bool (PK j)) (fun _ i _ => m - (intOf i).toNat)
      case atStart => exact ⟨Ext.refl _, 0, Nat.zero_le _, rfl, by rw [hp0]⟩
      case round =>
        subst hwo
        obtain ⟨hE2, j, hj, rfl, rfl⟩ := hrel
        have hEw := hE.trans hE2
        by_cases hlt2 : j < m
        · obtain ⟨sb, soff, rfl, hsb, d0, d1, d2, d3⟩ := HS.out.at_ HM.out hlt2
          obtain ⟨hj0, hhe, hjN⟩ := HHR.out _ (mem_at seen zeroSg j (by rw [HM.out]; exact hlt2))
          have HS1 := hid (HAS.out j (by rw [HM.out]; exact hlt2))
          generalize seen.getD j zeroSg = s at *
          have hig := insB_sg s (y.getD hj0 zeroHr)
          have HIS := hid (show PK (j + 1) = (PK j && insB s.sky (y.getD hj0 zeroHr)) by rw [HS1.out, hig, hhe]; rfl)
          obtain ⟨hr, wi, ra, te⟩ := s
          dsimp only at hhe
          subst hhe
          obtain ⟨hb, hoff, rfl, hhb, e0, e1, e2, e3, e4, e5⟩ := HH.out.at_ HL1.out hjN
          generalize y.getD hj0 zeroHr = hh at *
          have HI1 := hid (HIN.out (Sg.sky ⟨(hj0 : Int), wi, ra, te⟩) hh)
          generalize insB (Sg.sky ⟨(hj0 : Int), wi, ra, te⟩) hh = IB at *
          unfold Sg.sky Sk.val Hr.val at HI1
          obtain ⟨wl, wh, rl, rh, tl, th⟩ := hh
          dsimp only at *
          generalize PK j = PJ at *
          have g0 := (hE2.cell (p := ⟨w.heap.size, 0, none⟩) z0).trans a0
          have c0 := (hEw.cell (p := ⟨b, _, none⟩) hb0).trans HC0.out
          replace d0 := (hEw.cell (p := ⟨sb, _, none⟩) hsb).trans d0
          replace d1 := (hEw.cell (p := ⟨sb, _, none⟩) hsb).trans d1
          replace d2 := (hEw.cell (p := ⟨sb, _, none⟩) hsb).trans d2
          replace d3 := (hEw.cell (p := ⟨sb, _, none⟩) hsb).trans d3
          replace e0 := (hEw.cell (p := ⟨hb, _, none⟩) hhb).trans e0
          replace e1 := (hEw.cell (p := ⟨hb, _, none⟩) hhb).trans e1
          replace e2 := (hEw.cell (p := ⟨hb, _, none⟩) hhb).trans e2
          replace e3 := (hEw.cell (p := ⟨hb, _, none⟩) hhb).trans e3
          replace e4 := (hEw.cell (p := ⟨hb, _, none⟩) hhb).trans e4
          replace e5 := (hEw.cell (p := ⟨hb, _, none⟩) hhb).trans e5
          have q1 := Nat.lt_of_lt_of_le z0 hE2.size
          have q2 := Nat.lt_of_lt_of_le hb0 hEw.size
          have q3 := Nat.lt_of_lt_of_le hsb hEw.size
          have q4 := Nat.lt_of_lt_of_le hhb hEw.size
          clear HAS HHR HIN HS1 hig HNE HK0 HLK HST
          go_wp2_with fail
          cases PJ
          · refine wp_region_held_drew (S := fun w' => (∀ b o, b < wr.heap.size → w'.cell? ⟨b, o, none⟩ = wr.cell? ⟨b, o, none⟩) ∧ wr.heap.size ≤ w'.heap.size ∧ Ext wr w') (by kernel_rfl) ?hS0 (fun hHeld => ?_)
            case hS0 => exact sK (Ext.drew (Ext.refl _))
            have X0 : Ext wr wr.drew := Ext.drew (Ext.refl wr)
            have EX := X0
            obtain ⟨X, hX⟩ : ∃ X, wr.drew = X := ⟨_, rfl⟩
            rw [hX] at EX hHeld ⊢
            clear hX X0
            refine tk1 (i := 0) (v := ?v0pa) rfl ?y0pa ?r0pa
            case y0pa => (intro w' hSw; (try dsimp only at hSw); go_simp; (try with_reducible rfl))
            try simp only [Act.put, sq1, sq2, sq3, sq4, sq5, sq6]
            refine tk1 (i := 1) (v := ?v1pa) rfl ?y1pa ?r1pa
            case y1pa => (intro w' hSw; (try dsimp only at hSw); go_simp; (try with_reducible rfl))
            try simp only [Act.put, sq1, sq2, sq3, sq4, sq5, sq6]
            refine tku1 (i := 2) rfl ?r2pb
            try simp only [Act.put, sq1, sq2, sq3, sq4, sq5, sq6]
            refine tku1 (i := 3) rfl ?r3pb
            try simp only [Act.put, sq1, sq2, sq3, sq4, sq5, sq6]
            refine tku1 (i := 4) rfl ?r4pb
            try simp only [Act.put, sq1, sq2, sq3, sq4, sq5, sq6]
            refine tku1 (i := 5) rfl ?r5pb
            try simp only [Act.put, sq1, sq2, sq3, sq4, sq5, sq6]
            refine tku1 (i := 6) rfl ?r6pb
            try simp only [Act.put, sq1, sq2, sq3, sq4, sq5, sq6]
            refine tku1 (i := 7) rfl ?r7pb
            try simp only [Act.put, sq1, sq2, sq3, sq4, sq5, sq6]
            refine tku1 (i := 8) rfl ?r8pb
            try simp only [Act.put, sq1, sq2, sq3, sq4, sq5, sq6]
            refine tku1 (i := 9) rfl ?r9pb
            try simp only [Act.put, sq1, sq2, sq3, sq4, sq5, sq6]
            refine tku1 (i := 10) rfl ?r10pb
            try simp only [Act.put, sq1, sq2, sq3, sq4, sq5, sq6]
            refine tku1 (i := 11) rfl ?r11pb
            try simp only [Act.put, sq1, sq2, sq3, sq4, sq5, sq6]
            refine tku1 (i := 12) rfl ?r12pb
            try simp only [Act.put, sq1, sq2, sq3, sq4, sq5, sq6]
            refine tku1 (i := 13) rfl ?r13pb
            try simp only [Act.put, sq1, sq2, sq3, sq4, sq5, sq6]
            refine tku1 (i := 14) rfl ?r14pb
            try simp only [Act.put, sq1, sq2, sq3, sq4, sq5, sq6]
            refine tku1 (i := 15) rfl ?r15pb
            try simp only [Act.put, sq1, sq2, sq3, sq4, sq5, sq6]
            refine tku1 (i := 16) rfl ?r16pb
            try simp only [Act.put, sq1, sq2, sq3, sq4, sq5, sq6]
            refine tku1 (i := 17) rfl ?r17pb
            try simp only [Act.put, sq1, sq2, sq3, sq4, sq5, sq6]
            refine tku1 (i := 18) rfl ?r18pb
            try simp only [Act.put, sq1, sq2, sq3, sq4, sq5, sq6]
            refine tku1 (i := 19) rfl ?r19pb
            try simp only [Act.put, sq1, sq2, sq3, sq4, sq5, sq6]
            refine tku1 (i := 20) rfl ?r20pb
            try simp only [Act.put, sq1, sq2, sq3, sq4, sq5, sq6]
            refine tk1 (i := 21) (v := ?v21pc) rfl ?y21pc ?r21pc
            case y21pc => (intro w' hSw; (try dsimp only at hSw); go_simp; (try with_reducible rfl))
            try simp only [Act.put, sq1, sq2, sq3, sq4, sq5, sq6]
            refine tk1 (i := 22) (v := ?v22pc) rfl ?y22pc ?r22pc
            case y22pc => (intro w' hSw; (try dsimp only at hSw); go_simp; (try with_reducible rfl))
            try simp only [Act.put, sq1, sq2, sq3, sq4, sq5, sq6]
            refine wpAnyH_done (by kernel_rfl) ?_ _
            clear hHeld
            have HEE := hid (hE2.trans EX)
            go_wp2
            go_roundw
            case rel => exact ⟨HEE.out, j + 1, by omega, by go_num, by rw [HIS.out]; rfl⟩
            case measure => simp [intOf]; omega
          · refine wp_region_held_drew (S := fun w' => (∀ b o, b < wr.heap.size → w'.cell? ⟨b, o, none⟩ = wr.cell? ⟨b, o, none⟩) ∧ wr.heap.size ≤ w'.heap.size ∧ Ext wr w') (by kernel_rfl) ?hS0 (fun hHeld => ?_)
            case hS0 => exact sK (Ext.drew (Ext.refl _))
            have X0 : Ext wr wr.drew := Ext.drew (Ext.refl wr)
            have EX := X0
            obtain ⟨X, hX⟩ : ∃ X, wr.drew = X := ⟨_, rfl⟩
            rw [hX] at EX hHeld ⊢
            clear hX X0
            refine tk1 (i := 0) (v := ?v0pd) rfl ?y0pd ?r0pd
            case y0pd => (intro w' hSw; (try dsimp only at hSw); go_simp; (try with_reducible rfl))
            try simp only [Act.put, sq1, sq2, sq3, sq4, sq5, sq6]
            refine tk1 (i := 1) (v := ?v1pd) rfl ?y1pd ?r1pd
            case y1pd => (intro w' hSw; (try dsimp only at hSw); go_simp; (try with_reducible rfl))
            try simp only [Act.put, sq1, sq2, sq3, sq4, sq5, sq6]
            refine tk1 (i := 2) (v := ?v2pd) rfl ?y2pd ?r2pd
            case y2pd => (intro w' hSw; (try dsimp only at hSw); go_simp; (try with_reducible rfl))
            try simp only [Act.put, sq1, sq2, sq3, sq4, sq5, sq6]
            refine tk1 (i := 3) (v := ?v3pd) rfl ?y3pd ?r3pd
            case y3pd => (intro w' hSw; (try dsimp only at hSw); go_simp; (try with_reducible rfl))
            try simp only [Act.put, sq1, sq2, sq3, sq4, sq5, sq6]
            refine tk1 (i := 4) (v := ?v4pd) rfl ?y4pd ?r4pd
            case y4pd => (intro w' hSw; (try dsimp only at hSw); go_simp; (try with_reducible rfl))
            try simp only [Act.put, sq1, sq2, sq3, sq4, sq5, sq6]
            refine tk1 (i := 5) (v := ?v5pd) rfl ?y5pd ?r5pd
            case y5pd => (intro w' hSw; (try dsimp only at hSw); go_simp; (try with_reducible rfl))
            try simp only [Act.put, sq1, sq2, sq3, sq4, sq5, sq6]
            refine tk1 (i := 6) (v := ?v6pd) rfl ?y6pd ?r6pd
            case y6pd => (intro w' hSw; (try dsimp only at hSw); go_simp; (try with_reducible rfl))
            try simp only [Act.put, sq1, sq2, sq3, sq4, sq5, sq6]
            refine tk1 (i := 7) (v := ?v7pd) rfl ?y7pd ?r7pd
            case y7pd => (intro w' hSw; (try dsimp only at hSw); go_simp; (try with_reducible rfl))
            try simp only [Act.put, sq1, sq2, sq3, sq4, sq5, sq6]
            refine tk1 (i := 8) (v := ?v8pd) rfl ?y8pd ?r8pd
            case y8pd => (intro w' hSw; (try dsimp only at hSw); go_simp; (try with_reducible rfl))
            try simp only [Act.put, sq1, sq2, sq3, sq4, sq5, sq6]
            refine tk1 (i := 9) (v := ?v9pd) rfl ?y9pd ?r9pd
            case y9pd => (intro w' hSw; (try dsimp only at hSw); go_simp; (try with_reducible rfl))
            try simp only [Act.put, sq1, sq2, sq3, sq4, sq5, sq6]
            refine tk1 (i := 10) (v := ?v10pd) rfl ?y10pd ?r10pd
            case y10pd => (intro w' hSw; (try dsimp only at hSw); go_simp; (try with_reducible rfl))
            try simp only [Act.put, sq1, sq2, sq3, sq4, sq5, sq6]
            refine tk1 (i := 11) (v := ?v11pd) rfl ?y11pd ?r11pd
            case y11pd => (intro w' hSw; (try dsimp only at hSw); go_simp; (try with_reducible rfl))
            try simp only [Act.put, sq1, sq2, sq3, sq4, sq5, sq6]
            refine tk1 (i := 12) (v := ?v12pd) rfl ?y12pd ?r12pd
            case y12pd => (intro w' hSw; (try dsimp only at hSw); go_simp; (try with_reducible rfl))
            try simp only [Act.put, sq1, sq2, sq3, sq4, sq5, sq6]
            refine tk1 (i := 13) (v := ?v13pd) rfl ?y13pd ?r13pd
            case y13pd => (intro w' hSw; (try dsimp only at hSw); go_simp; (try with_reducible rfl))
            try simp only [Act.put, sq1, sq2, sq3, sq4, sq5, sq6]
            refine tk1 (i := 14) (v := ?v14pd) rfl ?y14pd ?r14pd
            case y14pd => (intro w' hSw; (try dsimp only at hSw); go_simp; (try with_reducible rfl))
            try simp only [Act.put, sq1, sq2, sq3, sq4, sq5, sq6]
            refine tk1 (i := 15) (v := ?v15pd) rfl ?y15pd ?r15pd
            case y15pd => (intro w' hSw; (try dsimp only at hSw); go_simp; (try with_reducible rfl))
            try simp only [Act.put, sq1, sq2, sq3, sq4, sq5, sq6]
            refine tk1 (i := 16) (v := ?v16pd) rfl ?y16pd ?r16pd
            case y16pd => (intro w' hSw; (try dsimp only at hSw); go_simp; (try with_reducible rfl))
            try simp only [Act.put, sq1, sq2, sq3, sq4, sq5, sq6]
            refine tk1 (i := 17) (v := ?v17pd) rfl ?y17pd ?r17pd
            case y17pd => (intro w' hSw; (try dsimp only at hSw); go_simp; (try with_reducible rfl))
            try simp only [Act.put, sq1, sq2, sq3, sq4, sq5, sq6]
            refine tk1 (i := 18) (v := ?v18pd) rfl ?y18pd ?r18pd
            case y18pd => (intro w' hSw; (try dsimp only at hSw); go_simp; (try with_reducible rfl))
            try simp only [Act.put, sq1, sq2, sq3, sq4, sq5, sq6]
            refine tk1 (i := 19) (v := ?v19pd) rfl ?y19pd ?r19pd
            case y19pd => (intro w' hSw; (try dsimp only at hSw); go_simp; (try with_reducible rfl))
            try simp only [Act.put, sq1, sq2, sq3, sq4, sq5, sq6]
            refine wpAnyH_ready (rs := [20]) (by kernel_rfl) (by simp) ?_
            refine AllReadyH.cons (o := _) rfl (fun K hK => ?_) AllReadyH.nil
            go_simp
            refine Calls.mono (HI1.out _) ?_
            rintro e X1 ⟨rfl, hE1⟩
            dsimp only
            replace EX := EX.trans hE1
            clear hHeld hE1
            refine hK.out _ _ (sK EX) (fun hHeld => ?_)
            clear hK K
            try simp only [Act.put, sq1, sq2, sq3, sq4, sq5, sq6]
            refine tk1 (i := 21) (v := ?v21pe) rfl ?y21pe ?r21pe
            case y21pe => (intro w' hSw; (try dsimp only at hSw); go_simp; (try with_reducible rfl))
            try simp only [Act.put, sq1, sq2, sq3, sq4, sq5, sq6]
            refine tk1 (i := 22) (v := ?v22pe) rfl ?y22pe ?r22pe
            case y22pe => (intro w' hSw; (try dsimp only at hSw); go_simp; (try with_reducible rfl))
            try simp only [Act.put, sq1, sq2, sq3, sq4, sq5, sq6]
            refine wpAnyH_done (by kernel_rfl) ?_ _
            clear hHeld
            have HEE := hid (hE2.trans EX)
            go_wp2
            go_roundw
            case rel => exact ⟨HEE.out, j + 1, by omega, by go_num, by rw [HIS.out]; rfl⟩
            case measure => simp [intOf]; omega
        · obtain rfl : j = m := by omega
          rw [HAE.out]
          have V2 := hid (HV.out.ext hE2)
          have J0 := hid (show Blk _ _ _ _ from K0.out.ext hE2)
          have HEw := hid hEw
          have hsz : w.heap.size + 1 ≤ wr.heap.size := J0.out.lt
          clear HAS HAE HHR HS HH HC0 HV K0 a0 z0 hE hE2 hEw
          cases hAL : AL y
          · rw [hAL, if_neg (by decide)] at HST
            clear hAL
            go_wp2
            go_roundw
            case rel => exact ⟨HEw.out, J0, k + 1, A2, c2, by omega, by go_num, by rw [HST.out], hid (by rw [HST.out]; exact V2.out)⟩
            case measure => simp [intOf]; omega
          · rw [hAL, if_pos rfl] at HST
            clear hAL
            generalize NK k = acc at *
            go_wp2_with (at_builtin; refine Halt.mk ?_)
            unfold Halt
            have BN := hid (show Blk (wr.alloc (.cells #[.int .i64 (k : Int)] 3)) wr.heap.size 3 #[.int .i64 (k : Int)] from blk_last _ _)
            refine wpList_app1In _ rfl _ _ rfl (w.heap.size + 1) (.slice A2 acc.length c2) acc rfl (V2.out.ext (ext_alloc1 _ _)) wr.heap.size (k : Int) rfl BN.out (by omega) (by simp; omega) ?_
            intro v4 w4 hO hg
            have E4 := hid (V2.out.extApp HEw.out (Nat.le_succ _) hg)
            have J4 := hid (V2.out.blkApp J0.out (Nat.lt_succ_self _) hg)
            obtain ⟨A4, c4, rfl, -, -, -⟩ := (hO.form (by decide) (fun _ => rfl) 0)
            have V4 := hid hO
            clear hO hg V2 BN
            go_wp2
            go_roundw
            case rel => exact ⟨E4.out, J4, k + 1, A4, c4, by omega, by go_num, by rw [HST.out]; simp, hid (by rw [HST.out]; exact V4.out)⟩
            case measure => simp [intOf]; omega
    · obtain rfl : k = n := by omega
      rw [HNE.out] at HV ⊢
      go_wp2
      go_ret
      exact ⟨A2, c2, rfl, HV.out.low (Nat.le_succ _), hE⟩
end Go.Proofs.YtecamnhnjmldcaaGreatDoor
/- What a region leaves alone that stores into one block. -/
set_option linter.unusedSimpArgs false
set_option linter.unusedVariables false
namespace Go.Proofs.YtecamnhnjmldcaaGreatDoor
open Go.RowKit
theorem sG {U X : World} (e : Ext U X) (G : Nat) : (∀ b o, b < U.heap.size → ¬ b = G → X.cell? ⟨b, o, none⟩ = U.cell? ⟨b, o, none⟩) ∧ U.heap.size ≤ X.heap.size := ⟨fun _ _ hb _ => e.cell hb, e.size⟩
theorem cell_setCells_other {G : Nat} : ∀ (vs : List Value) (o : Nat) (X : World) (b p : Nat), ¬ b = G → (X.setCells G o vs).cell? ⟨b, p, none⟩ = X.cell? ⟨b, p, none⟩
  | [], _, _, _, _, _ => rfl
  | v :: r, o, X, b, p, h => by
    show ((X.setCell ⟨G, o, none⟩ v).setCells G (o + 1) r).cell? _ = _
    rw [cell_setCells_other r (o + 1) _ b p h]
    exact World.cell?_setCell_other X ⟨G, o, none⟩ ⟨b, p, none⟩ v (fun e => by injection e with e; first | exact h e | exact h e.symm)
theorem size_setCells {G : Nat} : ∀ (vs : List Value) (o : Nat) (X : World), (X.setCells G o vs).heap.size = X.heap.size
  | [], _, _ => rfl
  | v :: r, o, X => by
    show ((X.setCell ⟨G, o, none⟩ v).setCells G (o + 1) r).heap.size = _
    rw [size_setCells r (o + 1)]
    simp
theorem sGs {U X : World} (e : Ext U X) (G o : Nat) (vs : List Value) : (∀ b p, b < U.heap.size → ¬ b = G → (X.setCells G o vs).cell? ⟨b, p, none⟩ = U.cell? ⟨b, p, none⟩) ∧ U.heap.size ≤ (X.setCells G o vs).heap.size :=
  ⟨fun b p hb hn => (cell_setCells_other vs o X b p hn).trans (e.cell hb), by rw [size_setCells]; exact e.size⟩
end Go.Proofs.YtecamnhnjmldcaaGreatDoor
