/- Copy of the specification. -/
import Derived.Test.YtecamnhnjmldcaaGreatDoorB22
import Derived.Test.YtecamnhnjmldcaaGreatDoorB08
import Derived.Test.YtecamnhnjmldcaaGreatDoorB05
set_option linter.unusedSimpArgs false
set_option linter.unusedVariables false
namespace Go.Proofs.YtecamnhnjmldcaaGreatDoor
open Go.RowKit
theorem infoHr6 : (Tryz.prog.info? 143).map (fun i => (i.zero, i.size, i.bytes)) = some (some (.agg #[.int .i64 0, .int .i64 0, .int .i64 0, .int .i64 0, .int .i64 0, .int .i64 0]), 6, 48) := by kernel_rfl
theorem wp_appAllHr {o : Oper} {a : Act} {K : Act → World → Prop} {Q : Exit → Act → World → Prop} (w : World) (l x : Operand)
    (ho : o.op = .call { callee := .builtin .append, args := #[l, x], argTypes := #[90, 90] }) (B z : Nat) (A : Option Addr) (c : Nat) (os : List Hr) (hs : a.eval l = .slice (some ⟨z, 0, none⟩) 0 0) (hz : Blk w z 143 #[]) (hBz : B ≤ z)
    (n : Nat) (hn : os.length = n) (hx : a.eval x = .slice A n c) (hO : HrsAt w A os) (hl : n ≤ 10000)
    (h : ∀ v' w', Ownl 143 6 gHr w' B v' os → w.grownBy w' (some z) → K (a.put o.dst v') w') : o.wp Tryz.prog a w K Q := by
  subst hn
  obtain ⟨i0, hi, hz0, hz1, hz2⟩ := info_parts infoHr6
  exact wp_appendAllG zeroHr w l x 90 143 ho Tryz.underlying90 hi hz0 hz1 hz2 rfl (by decide) (by decide) (fun _ => rfl) oneHr B z A c os hs hz hBz hx (flat_hrs.2 hO) hl h
set_option maxHeartbeats 4000000 in
set_option maxRecDepth 100000 in
theorem rCopy_any (f : List (List Hr)) (A : Option Addr) (n c : Nat) (hn : f.length = n) (hm : n ≤ 1000) (hh : ∀ x ∈ f, x.length ≤ 10000) (w : World) (hf : ScsAt w A f) :
    Calls Tryz.prog 9 #[.agg #[.slice A n c]] w fun e w' => ∃ A' c', e = .returned (.agg #[.slice A' n c']) ∧ ScsAt w' A' f ∧ Ext w w' := by
  have HN := hid hn
  have HF := hid hf
  have HH := hid hh
  have B0 := hid (show Blk _ _ _ _ from blk_old (blk_last w (.cells #[.slice A n c] 24)) (.cells #[.slice none 0 0] 24))
  have B1 := hid (show Blk _ _ _ _ from blk_last (w.alloc (.cells #[.slice A n c] 24)) (.cells #[.slice none 0 0] 24))
  rw [World.size_alloc] at B1
  clear hf hh hn
  have HT0 := hid (show f.take 0 = [] from rfl)
  have HTN := hid (show f.take n = f by rw [List.take_of_length_le (by rw [HN.out]; exact Nat.le_refl _)])
  have HTL := hid (fun k (hk : k ≤ n) => show (f.take k).length = k by rw [List.length_take, HN.out]; omega)
  have HTS := hid (fun k (hk : k < n) => show f.take (k + 1) = f.take k ++ [f.getD k []] by
    rw [List.take_succ_eq_append_getElem (by rw [HN.out]; exact hk)]
    simp [List.getD, List.getElem?_eq_getElem (show k < f.length by rw [HN.out]; exact hk)])
  generalize hFT : (fun k => f.take k) = FT
  have hFe : ∀ k, f.take k = FT k := fun k => by rw [← hFT]
  simp only [hFe] at HT0 HTN HTL HTS
  clear hFT hFe
  go_enter Tryz.func9, Tryz.ntmps9
  go_wp2
  go_loopw [4] (fun i wr => Ext w wr ∧ ∃ (k : Nat) (A2 : Option Addr) (c2 : Nat), k ≤ n ∧ i = .int .i64 k ∧ Hid (Blk wr w.heap.size 24 #[.slice A n c]) ∧ Hid (Blk wr (w.heap.size + 1) 24 #[.slice none 0 0]) ∧ Hid (Blk wr (w.heap.size + 2) 24 #[.slice A2 k c2]) ∧ Hid (OwnSc wr (w.heap.size + 3) (.slice A2 k c2) (FT k))) (fun i _ => n - (intOf i).toNat)
  case atStart =>
    refine ⟨by (repeat' (first | with_reducible assumption | with_reducible exact Ext.refl _ | with_reducible refine Ext.alloc ?_ _ | with_reducible refine Ext.set ?_ ?_ _ | with_reducible refine Ext.drew ?_ | with_reducible refine Ext.drewN ?_ _ | with_reducible refine Ext.trans ?_ (by assumption) | (dsimp only; omega))), 0, none, 0, Nat.zero_le _, rfl, hid (B0.out.alloc _), hid (B1.out.alloc _), hid ?_, hid (by rw [HT0.out]; exact OwnSc.nil _ _)⟩
    have h := blk_last ((w.alloc (.cells #[.slice A n c] 24)).alloc (.cells #[.slice none 0 0] 24)) (.cells #[.slice none 0 0] 24)
    rw [World.size_alloc, World.size_alloc] at h
    exact h
  case round =>
    obtain ⟨hE, k, A2, c2, hk, rfl, K0, K1, K2, HW⟩ := hrel
    clear B0 B1
    have a0 := K0.out.cell 0
    have o0 := K2.out.cell 0
    have z2 := K2.out.lt
    simp only [List.getElem?_toArray, List.getElem?_cons_zero, List.getElem?_cons_succ] at a0 o0
    by_cases hlt : k < n
    · obtain ⟨b, off, rfl, hb0, A', c', ew, hcap, hhr⟩ := HF.out.at_ HN.out hlt
      have hb1 : b < w.heap.size + 2 := by omega
      have e0 := (hE.cell hb0).trans ew
      clear ew hcap
      have HH1 := hid (HH.out _ (mem_at f [] k (by rw [HN.out]; exact hlt)))
      have HHR := hid hhr
      have HS1 := hid (HTS.out k hlt)
      have HL1 := hid (HTL.out k (by omega))
      clear hhr
      generalize f.getD k [] = x at *
      obtain ⟨xl, hxl⟩ : ∃ xl, x.length = xl := ⟨_, rfl⟩
      rw [hxl] at e0 HH1
      have HXL := hid hxl
      clear hxl
      have hnz : w.heap.size + 2 ≤ wr.heap.size := by omega
      have hnz3 : w.heap.size + 3 ≤ wr.heap.size := by omega
      go_wp2_with fail
      refine wp_region_held_drew (S := fun w' => (∀ b o, b < w.heap.size + 2 → w'.cell? ⟨b, o, none⟩ = wr.cell? ⟨b, o, none⟩) ∧ w.heap.size + 2 ≤ w'.heap.size) (by kernel_rfl) ?hS0 (fun hHeld => ?_)
      case hS0 => exact sB (Below.drew (Below.refl _ _)) (by omega)
      have EX : Ext wr wr.drew := Ext.drew (Ext.refl _)
      obtain ⟨X, hX⟩ : ∃ X, wr.drew = X := ⟨_, rfl⟩
      rw [hX] at EX hHeld ⊢
      clear hX
      refine tk1 (i := 0) (v := ?v0a) rfl ?y0a ?r0a
      case y0a => (intro w' hSw; (try dsimp only at hSw); go_simp; (try with_reducible rfl))
      try simp only [Act.put, sq1, sq2, sq3, sq4, sq5, sq6]
      refine tk1 (i := 3) (v := ?v3a) rfl ?y3a ?r3a
      case y3a => (intro w' hSw; (try dsimp only at hSw); go_simp; (try with_reducible rfl))
      try simp only [Act.put, sq1, sq2, sq3, sq4, sq5, sq6]
      refine tk1 (i := 4) (v := ?v4a) rfl ?y4a ?r4a
      case y4a => (intro w' hSw; (try dsimp only at hSw); go_simp; (try with_reducible rfl))
      try simp only [Act.put, sq1, sq2, sq3, sq4, sq5, sq6]
      refine tk1 (i := 5) (v := ?v5a) rfl ?y5a ?r5a
      case y5a => (intro w' hSw; (try dsimp only at hSw); go_simp; (try with_reducible rfl))
      try simp only [Act.put, sq1, sq2, sq3, sq4, sq5, sq6]
      refine tk1 (i := 6) (v := ?v6a) rfl ?y6a ?r6a
      case y6a => (intro w' hSw; (try dsimp only at hSw); go_simp; (try with_reducible rfl))
      try simp only [Act.put, sq1, sq2, sq3, sq4, sq5, sq6]
      refine tk1 (i := 7) (v := ?v7a) rfl ?y7a ?r7a
      case y7a => (intro w' hSw; (try dsimp only at hSw); go_simp; (try with_reducible rfl))
      try simp only [Act.put, sq1, sq2, sq3, sq4, sq5, sq6]
      refine tk1 (i := 8) (v := ?v8a) rfl ?y8a ?r8a
      case y8a => (intro w' hSw; (try dsimp only at hSw); go_simp; (try with_reducible rfl))
      try simp only [Act.put, sq1, sq2, sq3, sq4, sq5, sq6]
      refine wpAnyH_ready (rs := [1, 2]) (by kernel_rfl) (by simp) ?_
      refine AllReadyH.cons (o := _) rfl (fun K hK => ?_) (AllReadyH.cons (o := _) rfl (fun K hK => ?_) AllReadyH.nil)
      · have o1 := (EX.cell (p := ⟨w.heap.size + 2, 0, none⟩) z2).trans o0
        go_simp
        clear hHeld o1
        refine hK.out _ _ (sB (Below.mono EX hnz) hnz) (fun hHeld => ?_)
        clear hK K
        try simp only [Act.put, sq1, sq2, sq3, sq4, sq5, sq6]
        refine wpAnyH_ready (rs := [2]) (by kernel_rfl) (by simp) ?_
        refine AllReadyH.cons (o := _) rfl (fun K hK => ?_) AllReadyH.nil
        go_simp
        have BN := hid (show Blk _ _ _ _ from blk_last X (.cells #[] 143))
        have hzX : wr.heap.size ≤ X.heap.size := EX.size
        obtain ⟨z, hz⟩ : ∃ z, X.heap.size = z := ⟨_, rfl⟩
        replace EX := EX.alloc (.cells #[] 143)
        obtain ⟨X', hX⟩ : ∃ X', X.alloc (.cells #[] 143) = X' := ⟨_, rfl⟩
        rw [hX] at EX BN ⊢
        rw [hz] at BN hzX ⊢
        obtain ⟨X, rfl⟩ : ∃ Y, Y = X' := ⟨_, rfl⟩
        clear hHeld hX hz
        refine hK.out _ _ (sB (Below.mono EX hnz) hnz) (fun hHeld => ?_)
        clear hK K
        try simp only [Act.put, sq1, sq2, sq3, sq4, sq5, sq6]
        refine wpAnyH_ready (rs := [9]) (by kernel_rfl) (by simp) ?_
        refine AllReadyH.cons (o := _) rfl (fun K hK => ?_) AllReadyH.nil
        refine wp_appAllHr _ _ _ rfl wr.heap.size z A' c' x rfl BN.out hzX xl HXL.out rfl ((HHR.out.ext hE).ext EX) HH1.out ?_
        intro v4 X4 hO4 hg4
        replace EX : Ext wr X4 := Below.grown EX hg4 EX.size (fun r hr => by injection hr with hr; subst hr; exact hzX)
        have OV := hid hO4
        clear hHeld hg4 hO4 BN
        obtain ⟨X, rfl⟩ : ∃ Y, Y = X4 := ⟨_, rfl⟩
        obtain ⟨A9, c9, rfl, -, -, -⟩ := (OV.out.form (by decide) (fun _ => rfl) zeroHr)
        rw [HXL.out] at OV ⊢
        refine hK.out _ _ (sB (Below.mono EX hnz) hnz) (fun hHeld => ?_)
        clear hK K
        try simp only [Act.put, sq1, sq2, sq3, sq4, sq5, sq6]
        refine tk1 (i := 10) (v := ?v10a1) rfl ?y10a1 ?r10a1
        case y10a1 => (intro w' hSw; (try dsimp only at hSw); go_simp; (try with_reducible rfl))
        try simp only [Act.put, sq1, sq2, sq3, sq4, sq5, sq6]
        refine wpAnyH_ready (rs := [11]) (by kernel_rfl) (by simp) ?_
        refine AllReadyH.cons (o := _) rfl (fun K hK => ?_) AllReadyH.nil
        go_simp
        have BY := hid (show Blk _ _ _ _ from blk_last X (.cells #[.slice A9 xl c9] 92))
        obtain ⟨q, hq⟩ : ∃ q, X.heap.size = q := ⟨_, rfl⟩
        replace EX := EX.alloc (.cells #[.slice A9 xl c9] 92)
        replace OV := hid (OV.out.ext (ext_alloc1 X (.cells #[.slice A9 xl c9] 92)))
        obtain ⟨X', hX⟩ : ∃ X', X.alloc (.cells #[.slice A9 xl c9] 92) = X' := ⟨_, rfl⟩
        rw [hX] at EX BY OV ⊢
        rw [hq] at BY ⊢
        obtain ⟨X, rfl⟩ : ∃ Y, Y = X' := ⟨_, rfl⟩
        clear hHeld hX hq
        refine hK.out _ _ (sB (Below.mono EX hnz) hnz) (fun hHeld => ?_)
        clear hK K
        try simp only [Act.put, sq1, sq2, sq3, sq4, sq5, sq6]
        refine wpAnyH_ready (rs := [12]) (by kernel_rfl) (by simp) ?_
        refine AllReadyH.cons (o := _) rfl (fun K hK => ?_) AllReadyH.nil
        refine wp_app1Sc _ _ _ rfl (w.heap.size + 3) (.slice A2 k c2) (FT k) rfl (HW.out.ext EX) ⟨q, 0, none⟩ (.slice A9 xl c9) rfl x rfl (by rw [BY.out.cell]; rfl) (OV.out.low hnz3) (by rw [HL1.out]; omega) (Nat.le_trans hnz3 EX.size) ?_
        intro v8 w8 hO8 hg8 hr8
        have EX8 : Below (w.heap.size + 2) wr w8 := Below.grown (Below.mono EX hnz) hg8 (Nat.le_trans hnz EX.size) (fun r hr => by have := (hr8 r hr).choose_spec.2; omega)
        have HX8 := hid (show Ext w w8 from Below.trans hE (Below.mono EX8 (by omega)))
        have N0 := hid (show Blk w8 w.heap.size 24 #[.slice (some ⟨b, off, none⟩) n c] from (Below.block EX8 w.heap.size (by omega)).trans K0.out)
        have N1 := hid (show Blk w8 (w.heap.size + 1) 24 #[.slice none 0 0] from (Below.block EX8 (w.heap.size + 1) (by omega)).trans K1.out)
        have N2 := hid ((K2.out.ext EX).grown hg8 (fun e => by have := (hr8 _ e.symm).choose_spec.2; omega))
        obtain ⟨A8, c8, rfl, -, -, -⟩ := hO8.form
        rw [← HS1.out] at hO8 ⊢
        rw [HTL.out (k + 1) (by omega)] at hO8 ⊢
        have O8 := hid hO8
        have n2 := N2.out.cell 0
        have n2f := N2.out.fro 0
        have n2z := N2.out.lt
        simp only [List.getElem?_toArray, List.getElem?_cons_zero] at n2
        clear hHeld hg8 hr8 hO8 OV BY HW K0 K1 K2 EX
        refine hK.out _ _ (sB EX8 hnz) (fun hHeld => ?_)
        clear hK K
        try simp only [Act.put, sq1, sq2, sq3, sq4, sq5, sq6]
        refine tk1 (i := 13) (v := ?v13ea1) rfl ?y13ea1 ?r13ea1
        case y13ea1 => (intro w' hSw; (try dsimp only at hSw); go_simp; (try with_reducible rfl))
        try simp only [Act.put, sq1, sq2, sq3, sq4, sq5, sq6]
        refine wpAnyH_ready (rs := [14]) (by kernel_rfl) (by simp) ?_
        refine AllReadyH.cons (o := _) rfl (fun K hK => ?_) AllReadyH.nil
        go_simp
        have R0 := hid (N0.out.other (p := ⟨w.heap.size + 2, 0, none⟩) (by dsimp only; omega) (.slice A8 (k + 1) c8))
        have R1 := hid (N1.out.other (p := ⟨w.heap.size + 2, 0, none⟩) (by dsimp only; omega) (.slice A8 (k + 1) c8))
        have R2 := hid (N2.out.setAt 0 (.slice A8 (k + 1) c8))
        have OR := hid (O8.out.apart (grown_set w8 ⟨w.heap.size + 2, 0, none⟩ (.slice A8 (k + 1) c8)) (Apart.blk N2.out (by decide)) (Apart.blk N2.out (by decide)))
        have XR := hid (HX8.out.set (p := ⟨w.heap.size + 2, 0, none⟩) (by dsimp only; omega) (.slice A8 (k + 1) c8))
        have EX9 : Below (w.heap.size + 2) wr (w8.setCell ⟨w.heap.size + 2, 0, none⟩ (.slice A8 (k + 1) c8)) := Below.setCell EX8 (p := ⟨w.heap.size + 2, 0, none⟩) (Nat.le_refl _) (.slice A8 (k + 1) c8)
        obtain ⟨W9, hW9⟩ : ∃ W9, w8.setCell ⟨w.heap.size + 2, 0, none⟩ (.slice A8 (k + 1) c8) = W9 := ⟨_, rfl⟩
        rw [hW9] at R0 R1 R2 OR XR EX9 ⊢
        simp only [List.setIfInBounds_toArray, List.set_cons_zero, List.set_cons_succ] at R2
        clear N0 N1 N2 O8 HX8 n2 n2f hW9 EX8 hHeld
        refine hK.out _ _ (sB EX9 hnz) (fun hHeld => ?_)
        clear hK K
        try simp only [Act.put, sq1, sq2, sq3, sq4, sq5, sq6]
        refine wpAnyH_done (by kernel_rfl) ?_ _
        clear hHeld
        go_wp2
        go_roundw
        case rel => exact ⟨XR.out, k + 1, A8, c8, by omega, by go_num, R0, R1, R2, OR⟩
        case measure => simp [intOf]; omega
      · go_simp
        have BN := hid (show Blk _ _ _ _ from blk_last X (.cells #[] 143))
        have hzX : wr.heap.size ≤ X.heap.size := EX.size
        obtain ⟨z, hz⟩ : ∃ z, X.heap.size = z := ⟨_, rfl⟩
        replace EX := EX.alloc (.cells #[] 143)
        obtain ⟨X', hX⟩ : ∃ X', X.alloc (.cells #[] 143) = X' := ⟨_, rfl⟩
        rw [hX] at EX BN ⊢
        rw [hz] at BN hzX ⊢
        obtain ⟨X, rfl⟩ : ∃ Y, Y = X' := ⟨_, rfl⟩
        clear hHeld hX hz
        refine hK.out _ _ (sB (Below.mono EX hnz) hnz) (fun hHeld => ?_)
        clear hK K
        try simp only [Act.put, sq1, sq2, sq3, sq4, sq5, sq6]
        refine wpAnyH_ready (rs := [1, 9]) (by kernel_rfl) (by simp) ?_
        refine AllReadyH.cons (o := _) rfl (fun K hK => ?_) (AllReadyH.cons (o := _) rfl (fun K hK => ?_) AllReadyH.nil)
        · have o1 := (EX.cell (p := ⟨w.heap.size + 2, 0, none⟩) z2).trans o0
          go_simp
          clear hHeld o1
          refine hK.out _ _ (sB (Below.mono EX hnz) hnz) (fun hHeld => ?_)
          clear hK K
          try simp only [Act.put, sq1, sq2, sq3, sq4, sq5, sq6]
          refine wpAnyH_ready (rs := [9]) (by kernel_rfl) (by simp) ?_
          refine AllReadyH.cons (o := _) rfl (fun K hK => ?_) AllReadyH.nil
          refine wp_appAllHr _ _ _ rfl wr.heap.size z A' c' x rfl BN.out hzX xl HXL.out rfl ((HHR.out.ext hE).ext EX) HH1.out ?_
          intro v4 X4 hO4 hg4
          replace EX : Ext wr X4 := Below.grown EX hg4 EX.size (fun r hr => by injection hr with hr; subst hr; exact hzX)
          have OV := hid hO4
          clear hHeld hg4 hO4 BN
          obtain ⟨X, rfl⟩ : ∃ Y, Y = X4 := ⟨_, rfl⟩
          obtain ⟨A9, c9, rfl, -, -, -⟩ := (OV.out.form (by decide) (fun _ => rfl) zeroHr)
          rw [HXL.out] at OV ⊢
          refine hK.out _ _ (sB (Below.mono EX hnz) hnz) (fun hHeld => ?_)
          clear hK K
          try simp only [Act.put, sq1, sq2, sq3, sq4, sq5, sq6]
          refine tk1 (i := 10) (v := ?v10a3) rfl ?y10a3 ?r10a3
          case y10a3 => (intro w' hSw; (try dsimp only at hSw); go_simp; (try with_reducible rfl))
          try simp only [Act.put, sq1, sq2, sq3, sq4, sq5, sq6]
          refine wpAnyH_ready (rs := [11]) (by kernel_rfl) (by simp) ?_
          refine AllReadyH.cons (o := _) rfl (fun K hK => ?_) AllReadyH.nil
          go_simp
          have BY := hid (show Blk _ _ _ _ from blk_last X (.cells #[.slice A9 xl c9] 92))
          obtain ⟨q, hq⟩ : ∃ q, X.heap.size = q := ⟨_, rfl⟩
          replace EX := EX.alloc (.cells #[.slice A9 xl c9] 92)
          replace OV := hid (OV.out.ext (ext_alloc1 X (.cells #[.slice A9 xl c9] 92)))
          obtain ⟨X', hX⟩ : ∃ X', X.alloc (.cells #[.slice A9 xl c9] 92) = X' := ⟨_, rfl⟩
          rw [hX] at EX BY OV ⊢
          rw [hq] at BY ⊢
          obtain ⟨X, rfl⟩ : ∃ Y, Y = X' := ⟨_, rfl⟩
          clear hHeld hX hq
          refine hK.out _ _ (sB (Below.mono EX hnz) hnz) (fun hHeld => ?_)
          clear hK K
          try simp only [Act.put, sq1, sq2, sq3, sq4, sq5, sq6]
          refine wpAnyH_ready (rs := [12]) (by kernel_rfl) (by simp) ?_
          refine AllReadyH.cons (o := _) rfl (fun K hK => ?_) AllReadyH.nil
          refine wp_app1Sc _ _ _ rfl (w.heap.size + 3) (.slice A2 k c2) (FT k) rfl (HW.out.ext EX) ⟨q, 0, none⟩ (.slice A9 xl c9) rfl x rfl (by rw [BY.out.cell]; rfl) (OV.out.low hnz3) (by rw [HL1.out]; omega) (Nat.le_trans hnz3 EX.size) ?_
          intro v8 w8 hO8 hg8 hr8
          have EX8 : Below (w.heap.size + 2) wr w8 := Below.grown (Below.mono EX hnz) hg8 (Nat.le_trans hnz EX.size) (fun r hr => by have := (hr8 r hr).choose_spec.2; omega)
          have HX8 := hid (show Ext w w8 from Below.trans hE (Below.mono EX8 (by omega)))
          have N0 := hid (show Blk w8 w.heap.size 24 #[.slice (some ⟨b, off, none⟩) n c] from (Below.block EX8 w.heap.size (by omega)).trans K0.out)
          have N1 := hid (show Blk w8 (w.heap.size + 1) 24 #[.slice none 0 0] from (Below.block EX8 (w.heap.size + 1) (by omega)).trans K1.out)
          have N2 := hid ((K2.out.ext EX).grown hg8 (fun e => by have := (hr8 _ e.symm).choose_spec.2; omega))
          obtain ⟨A8, c8, rfl, -, -, -⟩ := hO8.form
          rw [← HS1.out] at hO8 ⊢
          rw [HTL.out (k + 1) (by omega)] at hO8 ⊢
          have O8 := hid hO8
          have n2 := N2.out.cell 0
          have n2f := N2.out.fro 0
          have n2z := N2.out.lt
          simp only [List.getElem?_toArray, List.getElem?_cons_zero] at n2
          clear hHeld hg8 hr8 hO8 OV BY HW K0 K1 K2 EX
          refine hK.out _ _ (sB EX8 hnz) (fun hHeld => ?_)
          clear hK K
          try simp only [Act.put, sq1, sq2, sq3, sq4, sq5, sq6]
          refine tk1 (i := 13) (v := ?v13ea3) rfl ?y13ea3 ?r13ea3
          case y13ea3 => (intro w' hSw; (try dsimp only at hSw); go_simp; (try with_reducible rfl))
          try simp only [Act.put, sq1, sq2, sq3, sq4, sq5, sq6]
          refine wpAnyH_ready (rs := [14]) (by kernel_rfl) (by simp) ?_
          refine AllReadyH.cons (o := _) rfl (fun K hK => ?_) AllReadyH.nil
          go_simp
          have R0 := hid (N0.out.other (p := ⟨w.heap.size + 2, 0, none⟩) (by dsimp only; omega) (.slice A8 (k + 1) c8))
          have R1 := hid (N1.out.other (p := ⟨w.heap.size + 2, 0, none⟩) (by dsimp only; omega) (.slice A8 (k + 1) c8))
          have R2 := hid (N2.out.setAt 0 (.slice A8 (k + 1) c8))
          have OR := hid (O8.out.apart (grown_set w8 ⟨w.heap.size + 2, 0, none⟩ (.slice A8 (k + 1) c8)) (Apart.blk N2.out (by decide)) (Apart.blk N2.out (by decide)))
          have XR := hid (HX8.out.set (p := ⟨w.heap.size + 2, 0, none⟩) (by dsimp only; omega) (.slice A8 (k + 1) c8))
          have EX9 : Below (w.heap.size + 2) wr (w8.setCell ⟨w.heap.size + 2, 0, none⟩ (.slice A8 (k + 1) c8)) := Below.setCell EX8 (p := ⟨w.heap.size + 2, 0, none⟩) (Nat.le_refl _) (.slice A8 (k + 1) c8)
          obtain ⟨W9, hW9⟩ : ∃ W9, w8.setCell ⟨w.heap.size + 2, 0, none⟩ (.slice A8 (k + 1) c8) = W9 := ⟨_, rfl⟩
          rw [hW9] at R0 R1 R2 OR XR EX9 ⊢
          simp only [List.setIfInBounds_toArray, List.set_cons_zero, List.set_cons_succ] at R2
          clear N0 N1 N2 O8 HX8 n2 n2f hW9 EX8 hHeld
          refine hK.out _ _ (sB EX9 hnz) (fun hHeld => ?_)
          clear hK K
          try simp only [Act.put, sq1, sq2, sq3, sq4, sq5, sq6]
          refine wpAnyH_done (by kernel_rfl) ?_ _
          clear hHeld
          go_wp2
          go_roundw
          case rel => exact ⟨XR.out, k + 1, A8, c8, by omega, by go_num, R0, R1, R2, OR⟩
          case measure => simp [intOf]; omega
        · refine wp_appAllHr _ _ _ rfl wr.heap.size z A' c' x rfl BN.out hzX xl HXL.out rfl ((HHR.out.ext hE).ext EX) HH1.out ?_
          intro v4 X4 hO4 hg4
          replace EX : Ext wr X4 := Below.grown EX hg4 EX.size (fun r hr => by injection hr with hr; subst hr; exact hzX)
          have OV := hid hO4
          clear hHeld hg4 hO4 BN
          obtain ⟨X, rfl⟩ : ∃ Y, Y = X4 := ⟨_, rfl⟩
          obtain ⟨A9, c9, rfl, -, -, -⟩ := (OV.out.form (by decide) (fun _ => rfl) zeroHr)
          rw [HXL.out] at OV ⊢
          refine hK.out _ _ (sB (Below.mono EX hnz) hnz) (fun hHeld => ?_)
          clear hK K
          try simp only [Act.put, sq1, sq2, sq3, sq4, sq5, sq6]
          refine tk1 (i := 10) (v := ?v10m4) rfl ?y10m4 ?r10m4
          case y10m4 => (intro w' hSw; (try dsimp only at hSw); go_simp; (try with_reducible rfl))
          try simp only [Act.put, sq1, sq2, sq3, sq4, sq5, sq6]
          refine wpAnyH_ready (rs := [1, 11]) (by kernel_rfl) (by simp) ?_
          refine AllReadyH.cons (o := _) rfl (fun K hK => ?_) (AllReadyH.cons (o := _) rfl (fun K hK => ?_) AllReadyH.nil)
          · have o1 := (EX.cell (p := ⟨w.heap.size + 2, 0, none⟩) z2).trans o0
            go_simp
            clear hHeld o1
            refine hK.out _ _ (sB (Below.mono EX hnz) hnz) (fun hHeld => ?_)
            clear hK K
            try simp only [Act.put, sq1, sq2, sq3, sq4, sq5, sq6]
            refine wpAnyH_ready (rs := [11]) (by kernel_rfl) (by simp) ?_
            refine AllReadyH.cons (o := _) rfl (fun K hK => ?_) AllReadyH.nil
            go_simp
            have BY := hid (show Blk _ _ _ _ from blk_last X (.cells #[.slice A9 xl c9] 92))
            obtain ⟨q, hq⟩ : ∃ q, X.heap.size = q := ⟨_, rfl⟩
            replace EX := EX.alloc (.cells #[.slice A9 xl c9] 92)
            replace OV := hid (OV.out.ext (ext_alloc1 X (.cells #[.slice A9 xl c9] 92)))
            obtain ⟨X', hX⟩ : ∃ X', X.alloc (.cells #[.slice A9 xl c9] 92) = X' := ⟨_, rfl⟩
            rw [hX] at EX BY OV ⊢
            rw [hq] at BY ⊢
            obtain ⟨X, rfl⟩ : ∃ Y, Y = X' := ⟨_, rfl⟩
            clear hHeld hX hq
            refine hK.out _ _ (sB (Below.mono EX hnz) hnz) (fun hHeld => ?_)
            clear hK K
            try simp only [Act.put, sq1, sq2, sq3, sq4, sq5, sq6]
            refine wpAnyH_ready (rs := [12]) (by kernel_rfl) (by simp) ?_
            refine AllReadyH.cons (o := _) rfl (fun K hK => ?_) AllReadyH.nil
            refine wp_app1Sc _ _ _ rfl (w.heap.size + 3) (.slice A2 k c2) (FT k) rfl (HW.out.ext EX) ⟨q, 0, none⟩ (.slice A9 xl c9) rfl x rfl (by rw [BY.out.cell]; rfl) (OV.out.low hnz3) (by rw [HL1.out]; omega) (Nat.le_trans hnz3 EX.size) ?_
            intro v8 w8 hO8 hg8 hr8
            have EX8 : Below (w.heap.size + 2) wr w8 := Below.grown (Below.mono EX hnz) hg8 (Nat.le_trans hnz EX.size) (fun r hr => by have := (hr8 r hr).choose_spec.2; omega)
            have HX8 := hid (show Ext w w8 from Below.trans hE (Below.mono EX8 (by omega)))
            have N0 := hid (show Blk w8 w.heap.size 24 #[.slice (some ⟨b, off, none⟩) n c] from (Below.block EX8 w.heap.size (by omega)).trans K0.out)
            have N1 := hid (show Blk w8 (w.heap.size + 1) 24 #[.slice none 0 0] from (Below.block EX8 (w.heap.size + 1) (by omega)).trans K1.out)
            have N2 := hid ((K2.out.ext EX).grown hg8 (fun e => by have := (hr8 _ e.symm).choose_spec.2; omega))
            obtain ⟨A8, c8, rfl, -, -, -⟩ := hO8.form
            rw [← HS1.out] at hO8 ⊢
            rw [HTL.out (k + 1) (by omega)] at hO8 ⊢
            have O8 := hid hO8
            have n2 := N2.out.cell 0
            have n2f := N2.out.fro 0
            have n2z := N2.out.lt
            simp only [List.getElem?_toArray, List.getElem?_cons_zero] at n2
            clear hHeld hg8 hr8 hO8 OV BY HW K0 K1 K2 EX
            refine hK.out _ _ (sB EX8 hnz) (fun hHeld => ?_)
            clear hK K
            try simp only [Act.put, sq1, sq2, sq3, sq4, sq5, sq6]
            refine tk1 (i := 13) (v := ?v13ea5) rfl ?y13ea5 ?r13ea5
            case y13ea5 => (intro w' hSw; (try dsimp only at hSw); go_simp; (try with_reducible rfl))
            try simp only [Act.put, sq1, sq2, sq3, sq4, sq5, sq6]
            refine wpAnyH_ready (rs := [14]) (by kernel_rfl) (by simp) ?_
            refine AllReadyH.cons (o := _) rfl (fun K hK => ?_) AllReadyH.nil
            go_simp
            have R0 := hid (N0.out.other (p := ⟨w.heap.size + 2, 0, none⟩) (by dsimp only; omega) (.slice A8 (k + 1) c8))
            have R1 := hid (N1.out.other (p := ⟨w.heap.size + 2, 0, none⟩) (by dsimp only; omega) (.slice A8 (k + 1) c8))
            have R2 := hid (N2.out.setAt 0 (.slice A8 (k + 1) c8))
            have OR := hid (O8.out.apart (grown_set w8 ⟨w.heap.size + 2, 0, none⟩ (.slice A8 (k + 1) c8)) (Apart.blk N2.out (by decide)) (Apart.blk N2.out (by decide)))
            have XR := hid (HX8.out.set (p := ⟨w.heap.size + 2, 0, none⟩) (by dsimp only; omega) (.slice A8 (k + 1) c8))
            have EX9 : Below (w.heap.size + 2) wr (w8.setCell ⟨w.heap.size + 2, 0, none⟩ (.slice A8 (k + 1) c8)) := Below.setCell EX8 (p := ⟨w.heap.size + 2, 0, none⟩) (Nat.le_refl _) (.slice A8 (k + 1) c8)
            obtain ⟨W9, hW9⟩ : ∃ W9, w8.setCell ⟨w.heap.size + 2, 0, none⟩ (.slice A8 (k + 1) c8) = W9 := ⟨_, rfl⟩
            rw [hW9] at R0 R1 R2 OR XR EX9 ⊢
            simp only [List.setIfInBounds_toArray, List.set_cons_zero, List.set_cons_succ] at R2
            clear N0 N1 N2 O8 HX8 n2 n2f hW9 EX8 hHeld
            refine hK.out _ _ (sB EX9 hnz) (fun hHeld => ?_)
            clear hK K
            try simp only [Act.put, sq1, sq2, sq3, sq4, sq5, sq6]
            refine wpAnyH_done (by kernel_rfl) ?_ _
            clear hHeld
            go_wp2
            go_roundw
            case rel => exact ⟨XR.out, k + 1, A8, c8, by omega, by go_num, R0, R1, R2, OR⟩
            case measure => simp [intOf]; omega
          · go_simp
            have BY := hid (show Blk _ _ _ _ from blk_last X (.cells #[.slice A9 xl c9] 92))
            obtain ⟨q, hq⟩ : ∃ q, X.heap.size = q := ⟨_, rfl⟩
            replace EX := EX.alloc (.cells #[.slice A9 xl c9] 92)
            replace OV := hid (OV.out.ext (ext_alloc1 X (.cells #[.slice A9 xl c9] 92)))
            obtain ⟨X', hX⟩ : ∃ X', X.alloc (.cells #[.slice A9 xl c9] 92) = X' := ⟨_, rfl⟩
            rw [hX] at EX BY OV ⊢
            rw [hq] at BY ⊢
            obtain ⟨X, rfl⟩ : ∃ Y, Y = X' := ⟨_, rfl⟩
            clear hHeld hX hq
            refine hK.out _ _ (sB (Below.mono EX hnz) hnz) (fun hHeld => ?_)
            clear hK K
            try simp only [Act.put, sq1, sq2, sq3, sq4, sq5, sq6]
            refine wpAnyH_ready (rs := [1]) (by kernel_rfl) (by simp) ?_
            refine AllReadyH.cons (o := _) rfl (fun K hK => ?_) AllReadyH.nil
            have o1 := (EX.cell (p := ⟨w.heap.size + 2, 0, none⟩) z2).trans o0
            go_simp
            clear hHeld o1
            refine hK.out _ _ (sB (Below.mono EX hnz) hnz) (fun hHeld => ?_)
            clear hK K
            try simp only [Act.put, sq1, sq2, sq3, sq4, sq5, sq6]
            refine wpAnyH_ready (rs := [12]) (by kernel_rfl) (by simp) ?_
            refine AllReadyH.cons (o := _) rfl (fun K hK => ?_) AllReadyH.nil
            refine wp_app1Sc _ _ _ rfl (w.heap.size + 3) (.slice A2 k c2) (FT k) rfl (HW.out.ext EX) ⟨q, 0, none⟩ (.slice A9 xl c9) rfl x rfl (by rw [BY.out.cell]; rfl) (OV.out.low hnz3) (by rw [HL1.out]; omega) (Nat.le_trans hnz3 EX.size) ?_
            intro v8 w8 hO8 hg8 hr8
            have EX8 : Below (w.heap.size + 2) wr w8 := Below.grown (Below.mono EX hnz) hg8 (Nat.le_trans hnz EX.size) (fun r hr => by have := (hr8 r hr).choose_spec.2; omega)
            have HX8 := hid (show Ext w w8 from Below.trans hE (Below.mono EX8 (by omega)))
            have N0 := hid (show Blk w8 w.heap.size 24 #[.slice (some ⟨b, off, none⟩) n c] from (Below.block EX8 w.heap.size (by omega)).trans K0.out)
            have N1 := hid (show Blk w8 (w.heap.size + 1) 24 #[.slice none 0 0] from (Below.block EX8 (w.heap.size + 1) (by omega)).trans K1.out)
            have N2 := hid ((K2.out.ext EX).grown hg8 (fun e => by have := (hr8 _ e.symm).choose_spec.2; omega))
            obtain ⟨A8, c8, rfl, -, -, -⟩ := hO8.form
            rw [← HS1.out] at hO8 ⊢
            rw [HTL.out (k + 1) (by omega)] at hO8 ⊢
            have O8 := hid hO8
            have n2 := N2.out.cell 0
            have n2f := N2.out.fro 0
            have n2z := N2.out.lt
            simp only [List.getElem?_toArray, List.getElem?_cons_zero] at n2
            clear hHeld hg8 hr8 hO8 OV BY HW K0 K1 K2 EX
            refine hK.out _ _ (sB EX8 hnz) (fun hHeld => ?_)
            clear hK K
            try simp only [Act.put, sq1, sq2, sq3, sq4, sq5, sq6]
            refine tk1 (i := 13) (v := ?v13et7) rfl ?y13et7 ?r13et7
            case y13et7 => (intro w' hSw; (try dsimp only at hSw); go_simp; (try with_reducible rfl))
            try simp only [Act.put, sq1, sq2, sq3, sq4, sq5, sq6]
            refine wpAnyH_ready (rs := [14]) (by kernel_rfl) (by simp) ?_
            refine AllReadyH.cons (o := _) rfl (fun K hK => ?_) AllReadyH.nil
            go_simp
            have R0 := hid (N0.out.other (p := ⟨w.heap.size + 2, 0, none⟩) (by dsimp only; omega) (.slice A8 (k + 1) c8))
            have R1 := hid (N1.out.other (p := ⟨w.heap.size + 2, 0, none⟩) (by dsimp only; omega) (.slice A8 (k + 1) c8))
            have R2 := hid (N2.out.setAt 0 (.slice A8 (k + 1) c8))
            have OR := hid (O8.out.apart (grown_set w8 ⟨w.heap.size + 2, 0, none⟩ (.slice A8 (k + 1) c8)) (Apart.blk N2.out (by decide)) (Apart.blk N2.out (by decide)))
            have XR := hid (HX8.out.set (p := ⟨w.heap.size + 2, 0, none⟩) (by dsimp only; omega) (.slice A8 (k + 1) c8))
            have EX9 : Below (w.heap.size + 2) wr (w8.setCell ⟨w.heap.size + 2, 0, none⟩ (.slice A8 (k + 1) c8)) := Below.setCell EX8 (p := ⟨w.heap.size + 2, 0, none⟩) (Nat.le_refl _) (.slice A8 (k + 1) c8)
            obtain ⟨W9, hW9⟩ : ∃ W9, w8.setCell ⟨w.heap.size + 2, 0, none⟩ (.slice A8 (k + 1) c8) = W9 := ⟨_, rfl⟩
            rw [hW9] at R0 R1 R2 OR XR EX9 ⊢
            simp only [List.setIfInBounds_toArray, List.set_cons_zero, List.set_cons_succ] at R2
            clear N0 N1 N2 O8 HX8 n2 n2f hW9 EX8 hHeld
            refine hK.out _ _ (sB EX9 hnz) (fun hHeld => ?_)
            clear hK K
            try simp only [Act.put, sq1, sq2, sq3, sq4, sq5, sq6]
            refine wpAnyH_done (by kernel_rfl) ?_ _
            clear hHeld
            go_wp2
            go_roundw
            case rel => exact ⟨XR.out, k + 1, A8, c8, by omega, by go_num, R0, R1, R2, OR⟩
            case measure => simp [intOf]; omega
    · obtain rfl : k = n := by omega
      have h1f := K1.out.fro 0
      have h10 := K1.out.cell 0
      simp only [List.getElem?_toArray, List.getElem?_cons_zero, List.getElem?_cons_succ] at h10
      have z1 := K1.out.lt
      have HEND := hid (fun (W : World) (hg : wr.grownBy W (some (w.heap.size + 1))) => show ScsAt W A2 f from by
        have h2 := HW.out.apart hg (Apart.blk K1.out (by decide)) (Apart.blk K1.out (by decide))
        rw [HTN.out] at h2
        obtain ⟨A3, c3, e3, -, h3, -⟩ := h2.form
        injection e3 with e3
        subst e3
        exact h3)
      have R := hid (K1.out.setAt 0 (.slice A2 k c2))
      clear HW
      go_wp2
      obtain ⟨W9, hW9⟩ : ∃ W9, wr.setCell ⟨w.heap.size + 1, 0, none⟩ (.slice A2 k c2) = W9 := ⟨_, rfl⟩
      have XE : Ext w W9 := by rw [← hW9]; exact Ext.set hE (by dsimp only; omega) _
      have G9 : wr.grownBy W9 (some (w.heap.size + 1)) := by rw [← hW9]; exact grown_set wr ⟨w.heap.size + 1, 0, none⟩ _
      rw [hW9] at R ⊢
      simp only [List.setIfInBounds_toArray, List.set_cons_zero, List.set_cons_succ] at R
      have r0 := R.out.cell 0
      simp only [List.getElem?_toArray, List.getElem?_cons_zero, List.getElem?_cons_succ] at r0
      exact bodyPost_ret (v := .agg #[.slice A2 k c2]) (by simp [results, Tryz.results9, go_sem, r0]) rfl ⟨A2, c2, rfl, HEND.out _ G9, XE⟩
end Go.Proofs.YtecamnhnjmldcaaGreatDoor
