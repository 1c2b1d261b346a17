/- needed of the specification. -/
import Derived.Test.YtecamnhnjmldcaaGreatDoorBTopOpens25
import Derived.Test.YtecamnhnjmldcaaGreatDoorBTopOpens24
set_option linter.unusedSimpArgs false
set_option linter.unusedVariables false
namespace Go.Proofs.YtecamnhnjmldcaaGreatDoor
open Go.RowKit
theorem abs_anyW {G : World → Prop} {w : World} (S : World → Prop) (h : S w) (k : ∀ W, S W → G W) : G w := k w h
theorem nd_take {α β : Type} (g : β → α → β) (b : β) (xs : List α) (d : α) (k : Nat) (h : k < xs.length) : (xs.take (k + 1)).foldl g b = g ((xs.take k).foldl g b) (xs.getD k d) := by
  rw [List.take_succ_eq_append_getElem h, List.foldl_append]
  simp [List.getD, List.getElem?_eq_getElem h]
/-- What the rules for a path ask of an hour, and whether some sky can keep it. -/
def ndS (path op hour : Int) (s : Lm × Bool) (r : Rl) : Lm × Bool := if r.path = path ∧ op - r.after ≤ hour then (andL s.1 r.lim, s.2 && decide ((andL s.1 r.lim).tl ≤ (andL s.1 r.lim).th)) else s
def ndK (rs : List Rl) (path op hour : Int) (k : Nat) : Lm × Bool := (rs.take k).foldl (ndS path op hour) (wideL, true)
theorem ndK_step (rs : List Rl) (path op hour : Int) (k : Nat) (h : k < rs.length) : ndK rs path op hour (k + 1) = ndS path op hour (ndK rs path op hour k) (rs.getD k zeroRl) := nd_take _ _ _ zeroRl k h
set_option maxHeartbeats 4000000 in
set_option maxRecDepth 100000 in
theorem rneeded_any (rs : List Rl) (RA : Option Addr) (rn rc : Nat) (hrn : rs.length = rn) (hrm : rn ≤ 1000) (haft : ∀ r ∈ rs, 0 ≤ r.after ∧ r.after ≤ 1000) (path : Int) (op hour : Nat) (hop : op ≤ 1000) (hho : hour ≤ op) (w : World) (hr : RlsAt w RA rs) :
    Calls Tryz.prog 142 #[.slice RA rn rc, .int .i64 path, .int .i64 (op : Int), .int .i64 (hour : Int)] w fun e w' => e = .returned (.tuple #[(ndK rs path op hour rn).1.val, .bool (ndK rs path op hour rn).2]) ∧ Ext w w' := by
  have HX := hid hr
  have HN := hid hrn
  have HJ := hid (fun l o W => rjoined_any l o W)
  have HWI := hid (fun (a : Int) W => (rWithin_any (hour : Int) a (op : Int) W).mono fun e w' hw => show e = .returned (.bool (inI (hour : Int) a (op : Int))) ∧ Ext W w' from ⟨hw.1, by rw [hw.2]; exact Ext.refl _⟩)
  have HII := hid (fun (a : Int) => show inI (hour : Int) a (op : Int) = decide (a ≤ (hour : Int)) by unfold inI; rw [decide_eq_true (show (hour : Int) ≤ (op : Int) by omega), Bool.and_true])
  have HST := hid (fun k hk => ndK_step rs path op hour k hk)
  have HS0 := hid (show ndK rs path op hour 0 = (wideL, true) from rfl)
  have HNO := hid (fun (s : Lm × Bool) (r : Rl) (h : ¬ (r.path = path ∧ (op : Int) - r.after ≤ (hour : Int))) => show ndS path op hour s r = s from if_neg h)
  have HYE := hid (fun (s : Lm × Bool) (r : Rl) (h1 : r.path = path) (h2 : (op : Int) - r.after ≤ (hour : Int)) => show ndS path op hour s r = (andL s.1 r.lim, s.2 && decide ((andL s.1 r.lim).tl ≤ (andL s.1 r.lim).th)) from if_pos ⟨h1, h2⟩)
  have HAF := hid (fun k (hk : k < rs.length) => haft _ (mem_at rs zeroRl k hk))
  have HWD := hid (fun W => rwide_any W)
  have B0 := hid (show Blk _ _ _ _ from blk_last w (.cells #[.int .i64 0, .int .i64 0, .int .i64 0, .int .i64 0] 29))
  clear hr hrn haft
  generalize ndK rs path op hour = NK at *
  generalize ndS path op hour = NS at *
  unfold wideL Lm.val at HWD
  unfold wideL at HS0
  dsimp only at HWD
  go_enter Tryz.func142, Tryz.ntmps142
  go_wp2_with fail
  refine (HWD.out _).mono ?_
  rintro e w2 ⟨rfl, hE⟩
  have E : Ext w w2 := by (repeat' (first | with_reducible assumption | with_reducible exact Ext.refl _ | with_reducible refine Ext.alloc ?_ _ | with_reducible refine Ext.set ?_ ?_ _ | with_reducible refine Ext.drew ?_ | with_reducible refine Ext.drewN ?_ _ | with_reducible refine Ext.trans ?_ (by assumption) | (dsimp only; omega)))
  replace B0 := hid (B0.out.ext hE)
  have z0 := B0.out.lt
  clear hE HWD
  go_wp2
  refine wp_abs (fun X => Blk X w2.heap.size 29 #[.int .i64 200, .int .i64 100, .int .i64 (-50), .int .i64 50] ∧ Ext w2 X) ⟨blk_last _ _, by (repeat' (first | with_reducible assumption | with_reducible exact Ext.refl _ | with_reducible refine Ext.alloc ?_ _ | with_reducible refine Ext.set ?_ ?_ _ | with_reducible refine Ext.drew ?_ | with_reducible refine Ext.drewN ?_ _ | with_reducible refine Ext.trans ?_ (by assumption) | (dsimp only; omega)))⟩ ?_
  rintro U ⟨b1, hE⟩
  have B1 := hid b1
  replace E := E.trans hE
  replace B0 := hid (B0.out.ext hE)
  clear b1 hE
  obtain ⟨q, hq⟩ : ∃ q, w2.heap.size = q := ⟨_, rfl⟩
  rw [hq] at B1 z0 ⊢
  clear hq
  go_loopw [11, 12] (fun cn i wr => Ext w wr ∧ Hid (Blk wr w.heap.size 29 #[.int .i64 0, .int .i64 0, .int .i64 0, .int .i64 0]) ∧ ∃ k : Nat, k ≤ rn ∧ i = .int .i64 k ∧ cn = .bool (NK k).2 ∧ Hid (Blk wr q 29 #[.int .i64 (NK k).1.wind, .int .i64 (NK k).1.rain, .int .i64 (NK k).1.tl, .int .i64 (NK k).1.th])) (fun _ i _ => rn - (intOf i).toNat)
  case atStart => exact ⟨E, B0, 0, Nat.zero_le _, rfl, by rw [HS0.out], hid (by rw [HS0.out]; exact B1.out)⟩
  case round =>
    clear E B0 B1
    obtain ⟨E, B0, k, hk, rfl, rfl, K1⟩ := hrel
    obtain ⟨l0, l1, l2, l3⟩ : _ ∧ _ ∧ _ ∧ _ := ⟨K1.out.cell 0, K1.out.cell 1, K1.out.cell 2, K1.out.cell 3⟩
    have zq := K1.out.lt
    simp only [List.getElem?_toArray, List.getElem?_cons_zero, List.getElem?_cons_succ] at l0 l1 l2 l3
    by_cases hlt : k < rn
    · have hkl : k < rs.length := by rw [HN.out]; exact hlt
      obtain ⟨b, off, rfl, hb0, d0, d1, d2, d3, d4, d5⟩ := HX.out.at_ HN.out hlt
      obtain ⟨ha0, ha1⟩ := HAF.out k hkl
      have HST1 := hid (HST.out k hkl)
      obtain ⟨r, hre⟩ : ∃ r, rs.getD k zeroRl = r := ⟨_, rfl⟩
      rw [hre] at d0 d1 d2 d3 d4 d5 HST1 ha0 ha1
      clear hre hkl HST HAF
      have HNO1 := hid (HNO.out (NK k) r)
      have HYE1 := hid (HYE.out (NK k) r)
      obtain ⟨pa, af, lm⟩ := r
      dsimp only at d0 d1 d2 d3 d4 d5 ha0 ha1 HNO1 HYE1
      have HJ1 := hid (HJ.out (NK k).1 lm)
      generalize hcn : NK k = nk at *
      obtain ⟨L, cn⟩ := nk
      dsimp only at l0 l1 l2 l3 HJ1 HYE1 K1 ⊢
      generalize andL L lm = al at *
      obtain ⟨a1, a2, a3, a4⟩ := al
      obtain ⟨L0, L1, L2, L3⟩ := L
      obtain ⟨wi, ra, tl, th⟩ := lm
      unfold Lm.val at HJ1
      dsimp only at l0 l1 l2 l3 d2 d3 d4 d5 HJ1 HYE1 K1 ⊢
      clear hcn
      replace d0 := (E.cell (p := ⟨b, _, none⟩) hb0).trans d0
      replace d1 := (E.cell (p := ⟨b, _, none⟩) hb0).trans d1
      replace d2 := (E.cell (p := ⟨b, _, none⟩) hb0).trans d2
      replace d3 := (E.cell (p := ⟨b, _, none⟩) hb0).trans d3
      replace d4 := (E.cell (p := ⟨b, _, none⟩) hb0).trans d4
      replace d5 := (E.cell (p := ⟨b, _, none⟩) hb0).trans d5
      have hbw := Nat.lt_of_lt_of_le hb0 E.size
      have hk0 : (0 : Int) ≤ (k : Int) := by omega
      have hk1 : (k : Int) < (rn : Int) := by omega
      clear HJ HNO HYE
      by_cases hpa : pa = path
      case neg =>
        have HRR := hid (HST1.out.trans (HNO1.out (fun h => hpa h.1)))
        clear HST1 HNO1 HYE1 HJ1 HWI HII
        go_wp2
        go_roundw
        case rel => exact ⟨E, B0, k + 1, by omega, by go_num, by rw [HRR.out], hid (by rw [HRR.out]; exact K1.out)⟩
        case measure => simp [intOf]; omega
      have HWI1 := hid (HWI.out ((op : Int) - af))
      have hII1 := HII.out ((op : Int) - af)
      rw [hII1] at HWI1
      clear HWI HII hII1
      by_cases hin : (op : Int) - af ≤ (hour : Int)
      case neg =>
        have HRR := hid (HST1.out.trans (HNO1.out (fun h => hin h.2)))
        rw [decide_eq_false hin] at HWI1
        clear HST1 HNO1 HYE1 HJ1
        go_wp2_with fail
        refine (HWI1.out _).mono ?_
        rintro e w3 ⟨rfl, hE⟩
        have EE := hid (E.trans hE)
        have J0 := hid (B0.out.ext hE)
        have J1 := hid (K1.out.ext hE)
        go_wp2
        go_roundw
        case rel => exact ⟨EE.out, J0, k + 1, by omega, by go_num, by rw [HRR.out], hid (by rw [HRR.out]; exact J1.out)⟩
        case measure => simp [intOf]; omega
      have HRR := hid (HST1.out.trans (HYE1.out hpa hin))
      rw [decide_eq_true hin] at HWI1
      clear HST1 HNO1 HYE1
      go_wp2_with fail
      refine (HWI1.out _).mono ?_
      rintro e w3 ⟨rfl, hE⟩
      have EE := hid (E.trans hE)
      have J0 := hid (B0.out.ext hE)
      have J1 := hid (K1.out.ext hE)
      replace l0 := (hE.cell (p := ⟨q, _, none⟩) zq).trans l0
      replace l1 := (hE.cell (p := ⟨q, _, none⟩) zq).trans l1
      replace l2 := (hE.cell (p := ⟨q, _, none⟩) zq).trans l2
      replace l3 := (hE.cell (p := ⟨q, _, none⟩) zq).trans l3
      replace d2 := (hE.cell (p := ⟨b, _, none⟩) hbw).trans d2
      replace d3 := (hE.cell (p := ⟨b, _, none⟩) hbw).trans d3
      replace d4 := (hE.cell (p := ⟨b, _, none⟩) hbw).trans d4
      replace d5 := (hE.cell (p := ⟨b, _, none⟩) hbw).trans d5
      replace hbw := Nat.lt_of_lt_of_le hbw hE.size
      replace zq := Nat.lt_of_lt_of_le zq hE.size
      clear d0 d1 hE E B0 K1 HWI1
      go_wp2_with fail
      refine wp_region_held_drew (S := fun w' => (∀ b o, b < w3.heap.size → w'.cell? ⟨b, o, none⟩ = w3.cell? ⟨b, o, none⟩) ∧ w3.heap.size ≤ w'.heap.size ∧ Ext w3 w') (by kernel_rfl) ?hS0 (fun hHeld => ?_)
      case hS0 => exact sK (Ext.drew (Ext.refl _))
      have X0 : Ext w3 w3.drew := Ext.drew (Ext.refl w3)
      have EX := X0
      obtain ⟨X, hX⟩ : ∃ X, w3.drew = X := ⟨_, rfl⟩
      rw [hX] at EX hHeld ⊢
      clear hX X0
      refine tk1 (i := 0) (v := ?v0a) rfl ?y0a ?r0a
      case y0a => (intro w' hSw; (try dsimp only at hSw); go_simp; (try with_reducible rfl))
      try simp only [Act.put, sq1, sq2, sq3, sq4, sq5, sq6]
      refine tk1 (i := 1) (v := ?v1a) rfl ?y1a ?r1a
      case y1a => (intro w' hSw; (try dsimp only at hSw); go_simp; (try with_reducible rfl))
      try simp only [Act.put, sq1, sq2, sq3, sq4, sq5, sq6]
      refine tk1 (i := 2) (v := ?v2a) rfl ?y2a ?r2a
      case y2a => (intro w' hSw; (try dsimp only at hSw); go_simp; (try with_reducible rfl))
      try simp only [Act.put, sq1, sq2, sq3, sq4, sq5, sq6]
      refine tk1 (i := 3) (v := ?v3a) rfl ?y3a ?r3a
      case y3a => (intro w' hSw; (try dsimp only at hSw); go_simp; (try with_reducible rfl))
      try simp only [Act.put, sq1, sq2, sq3, sq4, sq5, sq6]
      refine tk1 (i := 4) (v := ?v4a) rfl ?y4a ?r4a
      case y4a => (intro w' hSw; (try dsimp only at hSw); go_simp; (try with_reducible rfl))
      try simp only [Act.put, sq1, sq2, sq3, sq4, sq5, sq6]
      refine tk1 (i := 5) (v := ?v5a) rfl ?y5a ?r5a
      case y5a => (intro w' hSw; (try dsimp only at hSw); go_simp; (try with_reducible rfl))
      try simp only [Act.put, sq1, sq2, sq3, sq4, sq5, sq6]
      have HO := hid (lim_oneC ⟨a1, a2, a3, a4⟩)
      unfold lmCells at HO
      dsimp only at HO
      refine wpAnyH_ready (rs := [6, 10]) (by kernel_rfl) (by simp) ?_
      refine AllReadyH.cons (o := _) rfl (fun K hK => ?_) (AllReadyH.cons (o := _) rfl (fun K hK => ?_) AllReadyH.nil)
      · go_simp
        refine Calls.mono (HJ1.out _) ?_
        rintro e X ⟨rfl, hEX⟩
        dsimp only
        replace EX := EX.trans hEX
        (try replace OB := hid (OB.out.ext hEX))
        clear hHeld hEX
        refine hK.out _ _ (sK EX) (fun hHeld => ?_)
        clear hK K
        try simp only [Act.put, sq1, sq2, sq3, sq4, sq5, sq6]
        refine tk1 (i := 7) (v := ?v7b) rfl ?y7b ?r7b
        case y7b => (intro w' hSw; (try dsimp only at hSw); go_simp; (try with_reducible rfl))
        try simp only [Act.put, sq1, sq2, sq3, sq4, sq5, sq6]
        refine tk1 (i := 8) (v := ?v8b) rfl ?y8b ?r8b
        case y8b => (intro w' hSw; (try dsimp only at hSw); go_simp; (try with_reducible rfl))
        try simp only [Act.put, sq1, sq2, sq3, sq4, sq5, sq6]
        refine tk1 (i := 9) (v := ?v9b) rfl ?y9b ?r9b
        case y9b => (intro w' hSw; (try dsimp only at hSw); go_simp; (try with_reducible rfl))
        try simp only [Act.put, sq1, sq2, sq3, sq4, sq5, sq6]
        refine wpAnyH_ready (rs := [10]) (by kernel_rfl) (by simp) ?_
        refine AllReadyH.cons (o := _) rfl (fun K hK => ?_) AllReadyH.nil
        go_simp
        obtain ⟨Y, hY⟩ := absW EX (.cells #[.int .i64 0, .int .i64 0, .int .i64 0, .int .i64 0] 29)
        have OB := hid (blkNew EX 29 #[.int .i64 0, .int .i64 0, .int .i64 0, .int .i64 0])
        have LOB := EX.size
        replace EX := EX.alloc (.cells #[.int .i64 0, .int .i64 0, .int .i64 0, .int .i64 0] 29)
        (try replace IS := hid (IS.out.ext (ext_alloc1 _ (.cells #[.int .i64 0, .int .i64 0, .int .i64 0, .int .i64 0] 29))))
        (try replace OV := hid (OV.out.ext (ext_alloc1 _ (.cells #[.int .i64 0, .int .i64 0, .int .i64 0, .int .i64 0] 29))))
        rw [hY] at EX OB ⊢
        (try rw [hY] at IS)
        (try rw [hY] at OV)
        clear hHeld hY
        refine hK.out _ _ (sK EX) (fun hHeld => ?_)
        clear hK K
        try simp only [Act.put, sq1, sq2, sq3, sq4, sq5, sq6]
        refine wpAnyH_ready (rs := [11]) (by kernel_rfl) (by simp) ?_
        refine AllReadyH.cons (o := _) rfl (fun K hK => ?_) AllReadyH.nil
        refine wp_store_mid 29 _ _ rfl _ 0 #[.int .i64 a1, .int .i64 a2, .int .i64 a3, .int .i64 a4] rfl rfl (blk_there OB.out rfl) infoLm1 HO.out ?_
        have OB2 := hid (OB.out.fill [.int .i64 a1, .int .i64 a2, .int .i64 a3, .int .i64 a4] 0)
        have EX2 := ext_setCells EX LOB [.int .i64 a1, .int .i64 a2, .int .i64 a3, .int .i64 a4] 0
        simp only [fillA, List.setIfInBounds_toArray, List.set_cons_zero, List.set_cons_succ] at OB2
        clear hHeld
        refine hK.out _ _ (sK EX2) (fun hHeld => ?_)
        clear hK K
        try simp only [Act.put, sq1, sq2, sq3, sq4, sq5, sq6]
        refine tk1 (i := 12) (v := ?v12u) rfl ?y12u ?r12u
        case y12u => (intro w' hSw; (try dsimp only at hSw); go_simp; (try with_reducible rfl))
        try simp only [Act.put, sq1, sq2, sq3, sq4, sq5, sq6]
        refine wpAnyH_done (by kernel_rfl) ?_ _
        clear hHeld
        have hzq := Nat.ne_of_gt (Nat.lt_of_lt_of_le zq LOB)
        refine abs_anyW (G := fun W => Exit.then _ _ _ _ W) (fun W => Blk W _ 29 #[.int .i64 a1, .int .i64 a2, .int .i64 a3, .int .i64 a4] ∧ Ext w3 W) ⟨OB2.out, EX2⟩ ?_
        rintro Z ⟨oz, EZ⟩
        obtain ⟨r0, r1, r2, r3⟩ : _ ∧ _ ∧ _ ∧ _ := ⟨oz.cell 0, oz.cell 1, oz.cell 2, oz.cell 3⟩
        have rz := oz.lt
        simp only [List.getElem?_toArray, List.getElem?_cons_zero, List.getElem?_cons_succ] at r0 r1 r2 r3
        have M1 := J1.out.ext EZ
        obtain ⟨m0, m1, m2, m3⟩ : _ ∧ _ ∧ _ ∧ _ := ⟨M1.cell 0, M1.cell 1, M1.cell 2, M1.cell 3⟩
        obtain ⟨n0, n1, n2, n3⟩ : _ ∧ _ ∧ _ ∧ _ := ⟨M1.fro 0, M1.fro 1, M1.fro 2, M1.fro 3⟩
        have mz := M1.lt
        simp only [List.getElem?_toArray, List.getElem?_cons_zero, List.getElem?_cons_succ] at m0 m1 m2 m3
        have R := (((M1.setAt 0 (.int .i64 a1)).setAt 1 (.int .i64 a2)).setAt 2 (.int .i64 a3)).setAt 3 (.int .i64 a4)
        simp only [List.setIfInBounds_toArray, List.set_cons_zero, List.set_cons_succ] at R
        have RQ := hid R
        have RE := hid (((((EE.out.trans EZ).set (p := ⟨q, 0, none⟩) (by dsimp only; omega) (.int .i64 a1)).set (p := ⟨q, 1, none⟩) (by dsimp only; omega) (.int .i64 a2)).set (p := ⟨q, 2, none⟩) (by dsimp only; omega) (.int .i64 a3)).set (p := ⟨q, 3, none⟩) (by dsimp only; omega) (.int .i64 a4))
        have RB := hid (((((J0.out.ext EZ).other (p := ⟨q, 0, none⟩) (by dsimp only; omega) (.int .i64 a1)).other (p := ⟨q, 1, none⟩) (by dsimp only; omega) (.int .i64 a2)).other (p := ⟨q, 2, none⟩) (by dsimp only; omega) (.int .i64 a3)).other (p := ⟨q, 3, none⟩) (by dsimp only; omega) (.int .i64 a4))
        clear R M1 oz EZ EX2 OB OB2 J0 J1 EE HJ1 HO l0 l1 l2 l3 d2 d3 d4 d5
        cases cn
        · go_wp2
          go_roundw
          case rel => exact ⟨RE.out, RB, k + 1, by omega, by go_num, by rw [HRR.out]; rfl, hid (by rw [HRR.out]; exact RQ.out)⟩
          case measure => simp [intOf]; omega
        · go_wp2
          go_roundw
          case rel => exact ⟨RE.out, RB, k + 1, by omega, by go_num, by rw [HRR.out]; rfl, hid (by rw [HRR.out]; exact RQ.out)⟩
          case measure => simp [intOf]; omega
      · go_simp
        obtain ⟨Y, hY⟩ := absW EX (.cells #[.int .i64 0, .int .i64 0, .int .i64 0, .int .i64 0] 29)
        have OB := hid (blkNew EX 29 #[.int .i64 0, .int .i64 0, .int .i64 0, .int .i64 0])
        have LOB := EX.size
        replace EX := EX.alloc (.cells #[.int .i64 0, .int .i64 0, .int .i64 0, .int .i64 0] 29)
        (try replace IS := hid (IS.out.ext (ext_alloc1 _ (.cells #[.int .i64 0, .int .i64 0, .int .i64 0, .int .i64 0] 29))))
        (try replace OV := hid (OV.out.ext (ext_alloc1 _ (.cells #[.int .i64 0, .int .i64 0, .int .i64 0, .int .i64 0] 29))))
        rw [hY] at EX OB ⊢
        (try rw [hY] at IS)
        (try rw [hY] at OV)
        clear hHeld hY
        refine hK.out _ _ (sK EX) (fun hHeld => ?_)
        clear hK K
        try simp only [Act.put, sq1, sq2, sq3, sq4, sq5, sq6]
        refine wpAnyH_ready (rs := [6]) (by kernel_rfl) (by simp) ?_
        refine AllReadyH.cons (o := _) rfl (fun K hK => ?_) AllReadyH.nil
        go_simp
        refine Calls.mono (HJ1.out _) ?_
        rintro e X ⟨rfl, hEX⟩
        dsimp only
        replace EX := EX.trans hEX
        (try replace OB := hid (OB.out.ext hEX))
        clear hHeld hEX
        refine hK.out _ _ (sK EX) (fun hHeld => ?_)
        clear hK K
        try simp only [Act.put, sq1, sq2, sq3, sq4, sq5, sq6]
        refine tk1 (i := 7) (v := ?v7c) rfl ?y7c ?r7c
        case y7c => (intro w' hSw; (try dsimp only at hSw); go_simp; (try with_reducible rfl))
        try simp only [Act.put, sq1, sq2, sq3, sq4, sq5, sq6]
        refine tk1 (i := 8) (v := ?v8c) rfl ?y8c ?r8c
        case y8c => (intro w' hSw; (try dsimp only at hSw); go_simp; (try with_reducible rfl))
        try simp only [Act.put, sq1, sq2, sq3, sq4, sq5, sq6]
        refine tk1 (i := 9) (v := ?v9c) rfl ?y9c ?r9c
        case y9c => (intro w' hSw; (try dsimp only at hSw); go_simp; (try with_reducible rfl))
        try simp only [Act.put, sq1, sq2, sq3, sq4, sq5, sq6]
        refine wpAnyH_ready (rs := [11]) (by kernel_rfl) (by simp) ?_
        refine AllReadyH.cons (o := _) rfl (fun K hK => ?_) AllReadyH.nil
        refine wp_store_mid 29 _ _ rfl _ 0 #[.int .i64 a1, .int .i64 a2, .int .i64 a3, .int .i64 a4] rfl rfl (blk_there OB.out rfl) infoLm1 HO.out ?_
        have OB2 := hid (OB.out.fill [.int .i64 a1, .int .i64 a2, .int .i64 a3, .int .i64 a4] 0)
        have EX2 := ext_setCells EX LOB [.int .i64 a1, .int .i64 a2, .int .i64 a3, .int .i64 a4] 0
        simp only [fillA, List.setIfInBounds_toArray, List.set_cons_zero, List.set_cons_succ] at OB2
        clear hHeld
        refine hK.out _ _ (sK EX2) (fun hHeld => ?_)
        clear hK K
        try simp only [Act.put, sq1, sq2, sq3, sq4, sq5, sq6]
        refine tk1 (i := 12) (v := ?v12v) rfl ?y12v ?r12v
        case y12v => (intro w' hSw; (try dsimp only at hSw); go_simp; (try with_reducible rfl))
        try simp only [Act.put, sq1, sq2, sq3, sq4, sq5, sq6]
        refine wpAnyH_done (by kernel_rfl) ?_ _
        clear hHeld
        have hzq := Nat.ne_of_gt (Nat.lt_of_lt_of_le zq LOB)
        refine abs_anyW (G := fun W => Exit.then _ _ _ _ W) (fun W => Blk W _ 29 #[.int .i64 a1, .int .i64 a2, .int .i64 a3, .int .i64 a4] ∧ Ext w3 W) ⟨OB2.out, EX2⟩ ?_
        rintro Z ⟨oz, EZ⟩
        obtain ⟨r0, r1, r2, r3⟩ : _ ∧ _ ∧ _ ∧ _ := ⟨oz.cell 0, oz.cell 1, oz.cell 2, oz.cell 3⟩
        have rz := oz.lt
        simp only [List.getElem?_toArray, List.getElem?_cons_zero, List.getElem?_cons_succ] at r0 r1 r2 r3
        have M1 := J1.out.ext EZ
        obtain ⟨m0, m1, m2, m3⟩ : _ ∧ _ ∧ _ ∧ _ := ⟨M1.cell 0, M1.cell 1, M1.cell 2, M1.cell 3⟩
        obtain ⟨n0, n1, n2, n3⟩ : _ ∧ _ ∧ _ ∧ _ := ⟨M1.fro 0, M1.fro 1, M1.fro 2, M1.fro 3⟩
        have mz := M1.lt
        simp only [List.getElem?_toArray, List.getElem?_cons_zero, List.getElem?_cons_succ] at m0 m1 m2 m3
        have R := (((M1.setAt 0 (.int .i64 a1)).setAt 1 (.int .i64 a2)).setAt 2 (.int .i64 a3)).setAt 3 (.int .i64 a4)
        simp only [List.setIfInBounds_toArray, List.set_cons_zero, List.set_cons_succ] at R
        have RQ := hid R
        have RE := hid (((((EE.out.trans EZ).set (p := ⟨q, 0, none⟩) (by dsimp only; omega) (.int .i64 a1)).set (p := ⟨q, 1, none⟩) (by dsimp only; omega) (.int .i64 a2)).set (p := ⟨q, 2, none⟩) (by dsimp only; omega) (.int .i64 a3)).set (p := ⟨q, 3, none⟩) (by dsimp only; omega) (.int .i64 a4))
        have RB := hid (((((J0.out.ext EZ).other (p := ⟨q, 0, none⟩) (by dsimp only; omega) (.int .i64 a1)).other (p := ⟨q, 1, none⟩) (by dsimp only; omega) (.int .i64 a2)).other (p := ⟨q, 2, none⟩) (by dsimp only; omega) (.int .i64 a3)).other (p := ⟨q, 3, none⟩) (by dsimp only; omega) (.int .i64 a4))
        clear R M1 oz EZ EX2 OB OB2 J0 J1 EE HJ1 HO l0 l1 l2 l3 d2 d3 d4 d5
        cases cn
        · go_wp2
          go_roundw
          case rel => exact ⟨RE.out, RB, k + 1, by omega, by go_num, by rw [HRR.out]; rfl, hid (by rw [HRR.out]; exact RQ.out)⟩
          case measure => simp [intOf]; omega
        · go_wp2
          go_roundw
          case rel => exact ⟨RE.out, RB, k + 1, by omega, by go_num, by rw [HRR.out]; rfl, hid (by rw [HRR.out]; exact RQ.out)⟩
          case measure => simp [intOf]; omega
    · obtain rfl : k = rn := by omega
      obtain ⟨y0f, y1f, y2f, y3f⟩ : _ ∧ _ ∧ _ ∧ _ := ⟨B0.out.fro 0, B0.out.fro 1, B0.out.fro 2, B0.out.fro 3⟩
      have zb := B0.out.lt
      obtain ⟨y0, y1, y2, y3⟩ : _ ∧ _ ∧ _ ∧ _ := ⟨B0.out.cell 0, B0.out.cell 1, B0.out.cell 2, B0.out.cell 3⟩
      simp only [List.getElem?_toArray, List.getElem?_cons_zero, List.getElem?_cons_succ] at y0 y1 y2 y3
      obtain ⟨L, hL⟩ : ∃ L, (NK k).1 = L := ⟨_, rfl⟩
      rw [hL] at l0 l1 l2 l3
      have HL := hid hL
      clear hL HST HAF HNO HYE HJ HWI HII
      obtain ⟨L0, L1, L2, L3⟩ := L
      dsimp only at l0 l1 l2 l3
      have R := (((B0.out.setAt 0 (.int .i64 L0)).setAt 1 (.int .i64 L1)).setAt 2 (.int .i64 L2)).setAt 3 (.int .i64 L3)
      simp only [List.setIfInBounds_toArray, List.set_cons_zero, List.set_cons_succ] at R
      obtain ⟨r0, r1, r2, r3⟩ : _ ∧ _ ∧ _ ∧ _ := ⟨R.cell 0, R.cell 1, R.cell 2, R.cell 3⟩
      simp only [List.getElem?_toArray, List.getElem?_cons_zero, List.getElem?_cons_succ] at r0 r1 r2 r3
      have RE := hid ((((E.set (p := ⟨w.heap.size, 0, none⟩) (Nat.le_refl _) (.int .i64 L0)).set (p := ⟨w.heap.size, 1, none⟩) (Nat.le_refl _) (.int .i64 L1)).set (p := ⟨w.heap.size, 2, none⟩) (Nat.le_refl _) (.int .i64 L2)).set (p := ⟨w.heap.size, 3, none⟩) (Nat.le_refl _) (.int .i64 L3))
      clear R
      go_wp2
      exact bodyPost_ret (v := .tuple #[.agg #[.int .i64 L0, .int .i64 L1, .int .i64 L2, .int .i64 L3], .bool (NK k).2]) (by simp [results, Tryz.results142, go_sem, r0, r1, r2, r3]) rfl ⟨by rw [HL.out]; rfl, RE.out⟩
end Go.Proofs.YtecamnhnjmldcaaGreatDoor
/- What holds of a scenario and of each observation holds of the observed. -/
set_option linter.unusedSimpArgs false
set_option linter.unusedVariables false
namespace Go.Proofs.YtecamnhnjmldcaaGreatDoor
open Go.RowKit
theorem obsM_all (P : Nat → Hr → Prop) : ∀ (seen : List Sg) (hs : List Hr), (∀ h, h < hs.length → P h (hs.getD h zeroHr)) → (∀ s ∈ seen, s.hour.toNat < hs.length → P s.hour.toNat (justM s)) → ∀ h, h < hs.length → P h ((obsM seen hs).getD h zeroHr)
  | [], hs, h1, _, h, hh => h1 h hh
  | s :: ss, hs, h1, h2, h, hh => by
    have e : obsM (s :: ss) hs = obsM ss (hs.set s.hour.toNat (justM s)) := rfl
    rw [e]
    refine obsM_all P ss _ (fun i hi => ?_) (fun t ht hl => h2 t (by simp [ht]) (by rw [List.length_set] at hl; exact hl)) h (by rw [List.length_set]; exact hh)
    rw [List.length_set] at hi
    by_cases hie : i = s.hour.toNat
    · subst hie
      have e2 : (hs.set s.hour.toNat (justM s)).getD s.hour.toNat zeroHr = justM s := by
        simp [List.getD, List.getElem?_set_self hi]
      rw [e2]
      exact h2 s (by simp) hi
    · have e2 : (hs.set s.hour.toNat (justM s)).getD i zeroHr = hs.getD i zeroHr := by
        have hne : s.hour.toNat ≠ i := fun h => hie h.symm
        simp [List.getD, List.getElem?_set_ne hne]
      rw [e2]
      exact h1 i hi
end Go.Proofs.YtecamnhnjmldcaaGreatDoor
/- An hour as cells. -/
set_option linter.unusedSimpArgs false
set_option linter.unusedVariables false
namespace Go.Proofs.YtecamnhnjmldcaaGreatDoor
open Go.RowKit
def hrCells (h : Hr) : Array Value := #[.int .i64 h.wl, .int .i64 h.wh, .int .i64 h.rl, .int .i64 h.rh, .int .i64 h.tl, .int .i64 h.th]
theorem infoHr1 : (Tryz.prog.info? 143).map (·.size) = some 6 := by kernel_rfl
theorem hr_one (h : Hr) : (hrCells h).all (·.oneCell') = true :=
  one_of (vs := [.int .i64 h.wl, .int .i64 h.wh, .int .i64 h.rl, .int .i64 h.rh, .int .i64 h.tl, .int .i64 h.th]) (by intro v hv; simp only [List.mem_cons, List.not_mem_nil, or_false] at hv; rcases hv with rfl | rfl | rfl | rfl | rfl | rfl <;> rfl)
end Go.Proofs.YtecamnhnjmldcaaGreatDoor
