/- Walk, of the program. -/
import Derived.Test.YtbfmcclbbeobkaaPWalk
import Derived.Test.YtbfmcclbbeobkaaWtime
set_option linter.unusedSimpArgs false
set_option linter.unusedVariables false
namespace Go.Proofs.Ytbfmcclbbeobkaa
open Go.RowKit
set_option maxRecDepth 100000 in
set_option maxHeartbeats 4000000 in
theorem pwalk_any (m g l pl ph x : Int) (A : Option Addr) (n c : Nat) (ps : List Pt) (hn : ps.length = n) (w : World) (hp : PathsAt w A ps) :
    Calls Try.prog 17 #[.agg #[.int .i64 m, .slice A n c], .agg #[.int .i64 g, .int .i64 l, .int .i64 pl, .int .i64 ph], .int .i64 x] w fun e w' => e = .returned (walkV (walkE m g l pl ph ps x)) ∧ Ext w w' := by
  have hbe : beginE m g l pl ph ps [] [] = partyE m g l pl ph ps := by
    unfold beginE partyE
    simp
  have HB0 := hid (fun (hb : beginE m g l pl ph ps [] [] = 0) (W : World) (hE : Ext w W) => begin_ok m g l pl ph A none none n c 0 0 0 0 ps [] [] hn rfl rfl (by omega) (by omega) W (hp.ext hE) (fun h => absurd rfl h) (fun h => absurd rfl h) hb)
  have HB1 := hid (fun (E : Int) (hb : beginE m g l pl ph ps [] [] = E) (hne : E ≠ 0) (W : World) (hE : Ext w W) => begin_bad m g l pl ph A none none n c 0 0 0 0 ps [] [] hn rfl rfl (by omega) (by omega) W (hp.ext hE) (fun h => absurd rfl h) (fun h => absurd rfl h) E hb hne)
  have t0 := three_blocks w (.cells #[.int .i64 m, .slice A n c] 24) (.cells #[.int .i64 g, .int .i64 l, .int .i64 pl, .int .i64 ph] 28) (.cells #[.int .i64 0, .int .i64 0] 26)
  have B0 := hid t0.1
  have B1 := hid t0.2.1
  have B2 := hid t0.2.2
  clear t0
  unfold walkE
  by_cases hz : partyE m g l pl ph ps = 0
  case neg =>
    rw [if_neg hz]
    have HBB := hid (HB1.out _ hbe hz)
    revert HBB hz
    generalize partyE m g l pl ph ps = ce
    intro hz HBB
    have HZ := hid (show (ce != 0) = true by simpa using hz)
    clear hp hn HB0 HB1 hbe hz
    go_enter Try.func17, Try.ntmps17
    go_wp2_with fail
    refine (HBB.out _ (by (repeat' (first | with_reducible assumption | with_reducible exact Ext.refl _ | with_reducible refine Ext.alloc ?_ _ | with_reducible refine Ext.set ?_ ?_ _ | with_reducible refine Ext.drew ?_ | with_reducible refine Ext.drewN ?_ _ | with_reducible refine Ext.trans ?_ (by assumption) | (dsimp only; omega))))).mono ?_
    rintro e w2 ⟨rfl, hE⟩
    have hzz := HZ.out
    have E3 : Ext w (w2.alloc (.cells #[.int .i64 0, .slice none 0 0, .int .i64 0, .int .i64 0, .int .i64 0, .int .i64 0] 70)) := by (repeat' (first | with_reducible assumption | with_reducible exact Ext.refl _ | with_reducible refine Ext.alloc ?_ _ | with_reducible refine Ext.set ?_ ?_ _ | with_reducible refine Ext.drew ?_ | with_reducible refine Ext.drewN ?_ _ | with_reducible refine Ext.trans ?_ (by assumption) | (dsimp only; omega)))
    have C2 := hid (blk_ext B2.out (hE.trans (ext_alloc1 w2 (.cells #[.int .i64 0, .slice none 0 0, .int .i64 0, .int .i64 0, .int .i64 0, .int .i64 0] 70))))
    clear hE HBB
    have v0 := blk_cell C2.out 0
    have v1 := blk_cell C2.out 1
    have f0 := blk_fro C2.out 0
    have f1 := blk_fro C2.out 1
    simp only [List.getElem?_toArray, List.getElem?_cons_zero, List.getElem?_cons_succ] at v0 v1
    have zv := (Array.getElem?_eq_some_iff.1 C2.out).1
    have y0 : (((w2.alloc (.cells #[.int .i64 0, .slice none 0 0, .int .i64 0, .int .i64 0, .int .i64 0, .int .i64 0] 70)).setCell ⟨w.heap.size + 1 + 1, 0, none⟩ (.int .i64 (0))).setCell ⟨w.heap.size + 1 + 1, 1, none⟩ (.int .i64 (0))).cell? ⟨w.heap.size + 1 + 1, 0, none⟩ = some (.int .i64 (0)) := (World.cell?_setCell_other _ _ _ _ (by simp)).trans (World.cell?_setCell_same' (w2.alloc (.cells #[.int .i64 0, .slice none 0 0, .int .i64 0, .int .i64 0, .int .i64 0, .int .i64 0] 70)) _ _ (by rw [v0]; rfl))
    have y1 : (((w2.alloc (.cells #[.int .i64 0, .slice none 0 0, .int .i64 0, .int .i64 0, .int .i64 0, .int .i64 0] 70)).setCell ⟨w.heap.size + 1 + 1, 0, none⟩ (.int .i64 (0))).setCell ⟨w.heap.size + 1 + 1, 1, none⟩ (.int .i64 (0))).cell? ⟨w.heap.size + 1 + 1, 1, none⟩ = some (.int .i64 (0)) := World.cell?_setCell_same' _ _ _ (by rw [World.cell?_setCell_other _ _ _ _ (by simp), v1]; rfl)
    have EF : Ext w (((w2.alloc (.cells #[.int .i64 0, .slice none 0 0, .int .i64 0, .int .i64 0, .int .i64 0, .int .i64 0] 70)).setCell ⟨w.heap.size + 1 + 1, 0, none⟩ (.int .i64 (0))).setCell ⟨w.heap.size + 1 + 1, 1, none⟩ (.int .i64 (0))) := (Ext.set (Ext.set (E3) (by dsimp only; omega) _) (by dsimp only; omega) _)
    go_wp2
    exact bodyPost_ret (v := .tuple #[.agg #[.int .i64 (0), .int .i64 (0)], .int .i64 (ce)]) (by simp [results, Try.results17, go_sem, y0, y1]) rfl ⟨rfl, EF⟩
  obtain ⟨hv, hpa⟩ := partyE_zero hz
  obtain ⟨hm1, hm2, hN⟩ := vNet_ok hv
  have ha := vParty_ok hpa
  have h24 : n ≤ 24 := by have := hN.len; omega
  have HBB := hid (HB0.out (hbe.trans hz))
  rw [if_pos hz]
  have HNN := hid hn
  have HP := hid hp
  have HNO := hid hN
  have HPA := hid ha
  clear hz hv hpa hN ha hp hn HB0 HB1 hbe
  by_cases hx : 0 ≤ x ∧ x < ps.length
  case neg =>
    rw [if_neg hx]
    have hbx : (decide (0 ≤ x) && decide (x < n)) = false := by
      have := HNN.out
      rw [Bool.and_eq_false_iff, decide_eq_false_iff_not, decide_eq_false_iff_not]
      omega
    have HPF := hid (fun (W : World) => isPath_any x (.int .i64 m) A n c W)
    rw [hbx] at HPF
    clear hbx hx
    go_enter Try.func17, Try.ntmps17
    go_wp2_with fail
    refine (HBB.out _ (by (repeat' (first | with_reducible assumption | with_reducible exact Ext.refl _ | with_reducible refine Ext.alloc ?_ _ | with_reducible refine Ext.set ?_ ?_ _ | with_reducible refine Ext.drew ?_ | with_reducible refine Ext.drewN ?_ _ | with_reducible refine Ext.trans ?_ (by assumption) | (dsimp only; omega))))).mono ?_
    rintro e w2 ⟨rfl, hE⟩
    have E2 : Ext w w2 := by (repeat' (first | with_reducible assumption | with_reducible exact Ext.refl _ | with_reducible refine Ext.alloc ?_ _ | with_reducible refine Ext.set ?_ ?_ _ | with_reducible refine Ext.drew ?_ | with_reducible refine Ext.drewN ?_ _ | with_reducible refine Ext.trans ?_ (by assumption) | (dsimp only; omega)))
    have C0 := hid (blk_ext B0.out hE)
    have C2 := hid (blk_ext B2.out hE)
    clear hE HBB
    have a0 := blk_cell C0.out 0
    have a1 := blk_cell C0.out 1
    simp only [List.getElem?_toArray, List.getElem?_cons_zero, List.getElem?_cons_succ] at a0 a1
    have z0 := (Array.getElem?_eq_some_iff.1 C0.out).1
    go_wp2_with fail
    refine (HPF.out _).mono ?_
    rintro e w3 ⟨rfl, hE⟩
    have E3 := (E2.alloc _).trans hE
    have D2 := hid (blk_ext C2.out ((ext_alloc1 _ _).trans hE))
    clear hE
    have v0 := blk_cell D2.out 0
    have v1 := blk_cell D2.out 1
    have f0 := blk_fro D2.out 0
    have f1 := blk_fro D2.out 1
    simp only [List.getElem?_toArray, List.getElem?_cons_zero, List.getElem?_cons_succ] at v0 v1
    have zv := (Array.getElem?_eq_some_iff.1 D2.out).1
    have y0 : ((w3.setCell ⟨w.heap.size + 1 + 1, 0, none⟩ (.int .i64 (0))).setCell ⟨w.heap.size + 1 + 1, 1, none⟩ (.int .i64 (0))).cell? ⟨w.heap.size + 1 + 1, 0, none⟩ = some (.int .i64 (0)) := (World.cell?_setCell_other _ _ _ _ (by simp)).trans (World.cell?_setCell_same' w3 _ _ (by rw [v0]; rfl))
    have y1 : ((w3.setCell ⟨w.heap.size + 1 + 1, 0, none⟩ (.int .i64 (0))).setCell ⟨w.heap.size + 1 + 1, 1, none⟩ (.int .i64 (0))).cell? ⟨w.heap.size + 1 + 1, 1, none⟩ = some (.int .i64 (0)) := World.cell?_setCell_same' _ _ _ (by rw [World.cell?_setCell_other _ _ _ _ (by simp), v1]; rfl)
    have EF : Ext w ((w3.setCell ⟨w.heap.size + 1 + 1, 0, none⟩ (.int .i64 (0))).setCell ⟨w.heap.size + 1 + 1, 1, none⟩ (.int .i64 (0))) := (Ext.set (Ext.set (E3) (by dsimp only; omega) _) (by dsimp only; omega) _)
    go_wp2
    exact bodyPost_ret (v := .tuple #[.agg #[.int .i64 (0), .int .i64 (0)], .int .i64 (1)]) (by simp [results, Try.results17, go_sem, y0, y1]) rfl ⟨rfl, EF⟩
  rw [if_pos hx]
  obtain ⟨i, rfl⟩ : ∃ i : Nat, x = i := ⟨x.toNat, by omega⟩
  have hin : i < n := by have := HNN.out; omega
  have HPF := hid (fun (W : World) => isPath_yes (i : Int) (.int .i64 m) A n c (by omega) (by omega) W)
  rw [Int.toNat_natCast]
  clear hx
  have hi0 : (0 : Int) ≤ (i : Int) := by omega
  have hi1 : (i : Int) < (n : Int) := by omega
  obtain ⟨b, off, A', c', rfl, hb, hpt⟩ := HP.out.at_ HNN.out hin
  have hok := HNO.out.ok i (by have := HNN.out; omega)
  have hpa := HPA.out
  obtain ⟨p, hpq⟩ : ∃ p, ps.getD i zeroPt = p := ⟨_, rfl⟩
  rw [hpq] at hpt hok ⊢
  clear hpq
  have HPT := hid hpt
  obtain ⟨f, d, gg, tl, th, sl, sh, os⟩ := p
  obtain ⟨t1, t2, t3, s1, s2, s3, hos⟩ := hok
  obtain ⟨p1, p2, p3, l1, l2⟩ := hpa
  dsimp only at t1 t2 t3 s1 s2 s3 ⊢
  have HCI := hid (fun (v2 v3 v4 v5 v6 v7 v8 u1 u2 u3 u4 u5 : Value) (W : World) => can_any gg g u1 u2 u3 u4 u5 v2 v3 v4 v5 v6 v7 v8 W)
  have HTM := hid (fun (v1 v2 v7 : Value) (W : World) => wtime_any f d gg tl th sl sh g l pl ph v1 v2 v7 t1 t2 t3 p1 p2 p3 s1 s2 s3 l1 l2 W)
  obtain ⟨T1, hT1⟩ : ∃ T, timeOf tl pl sl l = T := ⟨_, rfl⟩
  obtain ⟨T2, hT2⟩ : ∃ T, timeOf th ph sh l = T := ⟨_, rfl⟩
  rw [hT1, hT2] at HTM ⊢
  obtain ⟨R3, hR3⟩ : ∃ R3 : Int × Int × Int, (if gg ≤ g then (T1, T2, 0) else (0, 0, 3)) = R3 := ⟨_, rfl⟩
  rw [hR3]
  have HV1 := hid (fun (h : gg ≤ g) => (show R3 = (T1, T2, 0) by rw [← hR3, if_pos h]))
  have HV2 := hid (fun (h : ¬ gg ≤ g) => (show R3 = (0, 0, 3) by rw [← hR3, if_neg h]))
  clear hR3
  clear hT1 hT2 HP HNO HPA hpt t1 t2 t3 s1 s2 s3 hos p1 p2 p3 l1 l2
  go_enter Try.func17, Try.ntmps17
  go_wp2_with fail
  refine (HBB.out _ (by (repeat' (first | with_reducible assumption | with_reducible exact Ext.refl _ | with_reducible refine Ext.alloc ?_ _ | with_reducible refine Ext.set ?_ ?_ _ | with_reducible refine Ext.drew ?_ | with_reducible refine Ext.drewN ?_ _ | with_reducible refine Ext.trans ?_ (by assumption) | (dsimp only; omega))))).mono ?_
  rintro e w1 ⟨rfl, hE⟩
  have E1 : Ext w w1 := by (repeat' (first | with_reducible assumption | with_reducible exact Ext.refl _ | with_reducible refine Ext.alloc ?_ _ | with_reducible refine Ext.set ?_ ?_ _ | with_reducible refine Ext.drew ?_ | with_reducible refine Ext.drewN ?_ _ | with_reducible refine Ext.trans ?_ (by assumption) | (dsimp only; omega)))
  have C0 := hid (blk_ext B0.out hE)
  have C2 := hid (blk_ext B2.out hE)
  clear hE HBB
  have a0 := blk_cell C0.out 0
  have a1 := blk_cell C0.out 1
  simp only [List.getElem?_toArray, List.getElem?_cons_zero, List.getElem?_cons_succ] at a0 a1
  have z0 := (Array.getElem?_eq_some_iff.1 C0.out).1
  go_wp2_with fail
  refine (HPF.out _).mono ?_
  rintro e w2 ⟨rfl, hE⟩
  have E2 := (E1.alloc _).trans hE
  have D2 := hid (blk_ext C2.out ((ext_alloc1 _ _).trans hE))
  have DB := hid (blk_ext (heap_alloc_new w1 (.cells (wbox m g l pl ph (some ⟨b, off, none⟩) n c) 70)) hE)
  obtain ⟨q, hq⟩ : ∃ q, w1.heap.size = q := ⟨_, rfl⟩
  have hqw : w.heap.size + 2 < q := by have := (Array.getElem?_eq_some_iff.1 C2.out).1; omega
  rw [hq] at DB ⊢
  obtain ⟨d0, d1, d2, d3, d4, d5, d6, d7, hcap, hop⟩ := HPT.out.ext hb E2
  dsimp only at d0 d1 d2 d3 d4 d5 d6 d7
  have c0 := blk_cell DB.out 0
  have c1 := blk_cell DB.out 1
  have c2 := blk_cell DB.out 2
  have c3 := blk_cell DB.out 3
  have c4 := blk_cell DB.out 4
  have c5 := blk_cell DB.out 5
  simp only [wbox, List.getElem?_toArray, List.getElem?_cons_zero, List.getElem?_cons_succ] at c0 c1 c2 c3 c4 c5
  have zq := (Array.getElem?_eq_some_iff.1 DB.out).1
  have hb2 : b < w2.heap.size := by have := E2.size; omega
  clear hE hq C0 C2 a0 a1 z0 hcap hop E1
  have bq : ¬ b = w.heap.size + 1 + 1 := by omega
  have qq : ¬ q = w.heap.size + 1 + 1 := by omega
  cases hg : decide (gg ≤ g)
  · have hr3 := HV2.out (by have := of_decide_eq_false hg; omega)
    subst hr3
    rw [hg] at HCI
    clear hg HTM
    go_wp2_with fail
    refine wp_region_held_drew (S := fun w' => (∀ b o, b < w2.heap.size → w'.cell? ⟨b, o, none⟩ = w2.cell? ⟨b, o, none⟩) ∧ w2.heap.size ≤ w'.heap.size ∧ Ext w2 w') (by kernel_rfl) ?hS0 (fun hHeld => ?_)
    case hS0 => exact ⟨fun _ _ _ => rfl, Nat.le_refl _, Ext.drew (Ext.refl _)⟩
    refine wpAnyH_take (i := 0) (oi := _) (v := ?v0h) rfl (by kernel_rfl) (by kernel_rfl) (by kernel_rfl) (fun _ _ _ h => h) (Or.inl ⟨by rfl, ?y0h⟩) (by assumption) ?r0h
    case y0h => (intro w' hSw; (try dsimp only at hSw); go_simp; (try with_reducible rfl))
    try simp only [Act.put, List.getElem_toArray, List.getElem_cons_zero, List.getElem_cons_succ, List.setIfInBounds_toArray, List.set_cons_zero, List.set_cons_succ]
    refine wpAnyH_take (i := 1) (oi := _) (v := ?v1h) rfl (by kernel_rfl) (by kernel_rfl) (by kernel_rfl) (fun _ _ _ h => h) (Or.inl ⟨by rfl, ?y1h⟩) (by assumption) ?r1h
    case y1h => (intro w' hSw; (try dsimp only at hSw); go_simp; (try with_reducible rfl))
    try simp only [Act.put, List.getElem_toArray, List.getElem_cons_zero, List.getElem_cons_succ, List.setIfInBounds_toArray, List.set_cons_zero, List.set_cons_succ]
    refine wpAnyH_take (i := 2) (oi := _) (v := ?v2h) rfl (by kernel_rfl) (by kernel_rfl) (by kernel_rfl) (fun _ _ _ h => h) (Or.inl ⟨by rfl, ?y2h⟩) (by assumption) ?r2h
    case y2h => (intro w' hSw; (try dsimp only at hSw); go_simp; (try with_reducible rfl))
    try simp only [Act.put, List.getElem_toArray, List.getElem_cons_zero, List.getElem_cons_succ, List.setIfInBounds_toArray, List.set_cons_zero, List.set_cons_succ]
    refine wpAnyH_take (i := 3) (oi := _) (v := ?v3h) rfl (by kernel_rfl) (by kernel_rfl) (by kernel_rfl) (fun _ _ _ h => h) (Or.inl ⟨by rfl, ?y3h⟩) (by assumption) ?r3h
    case y3h => (intro w' hSw; (try dsimp only at hSw); go_simp; (try with_reducible rfl))
    try simp only [Act.put, List.getElem_toArray, List.getElem_cons_zero, List.getElem_cons_succ, List.setIfInBounds_toArray, List.set_cons_zero, List.set_cons_succ]
    refine wpAnyH_take (i := 4) (oi := _) (v := ?v4h) rfl (by kernel_rfl) (by kernel_rfl) (by kernel_rfl) (fun _ _ _ h => h) (Or.inl ⟨by rfl, ?y4h⟩) (by assumption) ?r4h
    case y4h => (intro w' hSw; (try dsimp only at hSw); go_simp; (try with_reducible rfl))
    try simp only [Act.put, List.getElem_toArray, List.getElem_cons_zero, List.getElem_cons_succ, List.setIfInBounds_toArray, List.set_cons_zero, List.set_cons_succ]
    refine wpAnyH_take (i := 5) (oi := _) (v := ?v5h) rfl (by kernel_rfl) (by kernel_rfl) (by kernel_rfl) (fun _ _ _ h => h) (Or.inl ⟨by rfl, ?y5h⟩) (by assumption) ?r5h
    case y5h => (intro w' hSw; (try dsimp only at hSw); go_simp; (try with_reducible rfl))
    try simp only [Act.put, List.getElem_toArray, List.getElem_cons_zero, List.getElem_cons_succ, List.setIfInBounds_toArray, List.set_cons_zero, List.set_cons_succ]
    refine wpAnyH_take (i := 6) (oi := _) (v := ?v6h) rfl (by kernel_rfl) (by kernel_rfl) (by kernel_rfl) (fun _ _ _ h => h) (Or.inl ⟨by rfl, ?y6h⟩) (by assumption) ?r6h
    case y6h => (intro w' hSw; (try dsimp only at hSw); go_simp; (try with_reducible rfl))
    try simp only [Act.put, List.getElem_toArray, List.getElem_cons_zero, List.getElem_cons_succ, List.setIfInBounds_toArray, List.set_cons_zero, List.set_cons_succ]
    refine wpAnyH_ready (rs := [7]) (by kernel_rfl) (by simp) ?_
    refine AllReadyH.cons (o := _) rfl (fun K hK => ?_) AllReadyH.nil
    go_simp
    refine (HCI.out _ _ _ _ _ _ _ _ _ _ _ _ _).mono ?_
    rintro e w3 ⟨rfl, hE3⟩
    have hx : Ext w2 w3 := (Ext.drew (Ext.refl w2)).trans hE3
    have hC := kcell (w1 := w2.drew) (W := w2) (n := w2.heap.size) (fun _ _ _ => rfl) (Nat.le_refl _) hE3
    clear hHeld
    dsimp only
    refine hK.out _ _ ⟨hC, hx.size, hx⟩ (fun hHeld => ?_)
    clear hK K
    try simp only [Act.put, List.getElem_toArray, List.getElem_cons_zero, List.getElem_cons_succ, List.setIfInBounds_toArray, List.set_cons_zero, List.set_cons_succ]
    refine wpAnyH_take (i := 8) (oi := _) (v := ?v8h) rfl (by kernel_rfl) (by kernel_rfl) (by kernel_rfl) (fun _ _ _ h => h) (Or.inl ⟨by rfl, ?y8h⟩) (by assumption) ?r8h
    case y8h => (intro w' hSw; (try dsimp only at hSw); go_simp; (try with_reducible rfl))
    try simp only [Act.put, List.getElem_toArray, List.getElem_cons_zero, List.getElem_cons_succ, List.setIfInBounds_toArray, List.set_cons_zero, List.set_cons_succ]
    refine wpAnyH_done (by kernel_rfl) ?_ _
    have E3 := E2.trans hx
    have F2 := hid (blk_ext D2.out hx)
    clear hHeld hE3 hC
    have v0 := blk_cell F2.out 0
    have v1 := blk_cell F2.out 1
    have f0 := blk_fro F2.out 0
    have f1 := blk_fro F2.out 1
    simp only [List.getElem?_toArray, List.getElem?_cons_zero, List.getElem?_cons_succ] at v0 v1
    have zv := (Array.getElem?_eq_some_iff.1 F2.out).1
    have y0 : ((w3.setCell ⟨w.heap.size + 1 + 1, 0, none⟩ (.int .i64 (0))).setCell ⟨w.heap.size + 1 + 1, 1, none⟩ (.int .i64 (0))).cell? ⟨w.heap.size + 1 + 1, 0, none⟩ = some (.int .i64 (0)) := (World.cell?_setCell_other _ _ _ _ (by simp)).trans (World.cell?_setCell_same' w3 _ _ (by rw [v0]; rfl))
    have y1 : ((w3.setCell ⟨w.heap.size + 1 + 1, 0, none⟩ (.int .i64 (0))).setCell ⟨w.heap.size + 1 + 1, 1, none⟩ (.int .i64 (0))).cell? ⟨w.heap.size + 1 + 1, 1, none⟩ = some (.int .i64 (0)) := World.cell?_setCell_same' _ _ _ (by rw [World.cell?_setCell_other _ _ _ _ (by simp), v1]; rfl)
    have EF : Ext w ((w3.setCell ⟨w.heap.size + 1 + 1, 0, none⟩ (.int .i64 (0))).setCell ⟨w.heap.size + 1 + 1, 1, none⟩ (.int .i64 (0))) := (Ext.set (Ext.set (E3) (by dsimp only; omega) _) (by dsimp only; omega) _)
    go_wp2
    exact bodyPost_ret (v := .tuple #[.agg #[.int .i64 (0), .int .i64 (0)], .int .i64 (3)]) (by simp [results, Try.results17, go_sem, y0, y1]) rfl ⟨rfl, EF⟩
  · have hr3 := HV1.out (by have := of_decide_eq_true hg; omega)
    subst hr3
    rw [hg] at HCI
    clear hg
    go_wp2_with fail
    refine wp_region_held_drew (S := fun w' => (∀ b o, b < w2.heap.size → w'.cell? ⟨b, o, none⟩ = w2.cell? ⟨b, o, none⟩) ∧ w2.heap.size ≤ w'.heap.size ∧ Ext w2 w') (by kernel_rfl) ?hS0 (fun hHeld => ?_)
    case hS0 => exact ⟨fun _ _ _ => rfl, Nat.le_refl _, Ext.drew (Ext.refl _)⟩
    refine wpAnyH_take (i := 0) (oi := _) (v := ?v0i) rfl (by kernel_rfl) (by kernel_rfl) (by kernel_rfl) (fun _ _ _ h => h) (Or.inl ⟨by rfl, ?y0i⟩) (by assumption) ?r0i
    case y0i => (intro w' hSw; (try dsimp only at hSw); go_simp; (try with_reducible rfl))
    try simp only [Act.put, List.getElem_toArray, List.getElem_cons_zero, List.getElem_cons_succ, List.setIfInBounds_toArray, List.set_cons_zero, List.set_cons_succ]
    refine wpAnyH_take (i := 1) (oi := _) (v := ?v1i) rfl (by kernel_rfl) (by kernel_rfl) (by kernel_rfl) (fun _ _ _ h => h) (Or.inl ⟨by rfl, ?y1i⟩) (by assumption) ?r1i
    case y1i => (intro w' hSw; (try dsimp only at hSw); go_simp; (try with_reducible rfl))
    try simp only [Act.put, List.getElem_toArray, List.getElem_cons_zero, List.getElem_cons_succ, List.setIfInBounds_toArray, List.set_cons_zero, List.set_cons_succ]
    refine wpAnyH_take (i := 2) (oi := _) (v := ?v2i) rfl (by kernel_rfl) (by kernel_rfl) (by kernel_rfl) (fun _ _ _ h => h) (Or.inl ⟨by rfl, ?y2i⟩) (by assumption) ?r2i
    case y2i => (intro w' hSw; (try dsimp only at hSw); go_simp; (try with_reducible rfl))
    try simp only [Act.put, List.getElem_toArray, List.getElem_cons_zero, List.getElem_cons_succ, List.setIfInBounds_toArray, List.set_cons_zero, List.set_cons_succ]
    refine wpAnyH_take (i := 3) (oi := _) (v := ?v3i) rfl (by kernel_rfl) (by kernel_rfl) (by kernel_rfl) (fun _ _ _ h => h) (Or.inl ⟨by rfl, ?y3i⟩) (by assumption) ?r3i
    case y3i => (intro w' hSw; (try dsimp only at hSw); go_simp; (try with_reducible rfl))
    try simp only [Act.put, List.getElem_toArray, List.getElem_cons_zero, List.getElem_cons_succ, List.setIfInBounds_toArray, List.set_cons_zero, List.set_cons_succ]
    refine wpAnyH_take (i := 4) (oi := _) (v := ?v4i) rfl (by kernel_rfl) (by kernel_rfl) (by kernel_rfl) (fun _ _ _ h => h) (Or.inl ⟨by rfl, ?y4i⟩) (by assumption) ?r4i
    case y4i => (intro w' hSw; (try dsimp only at hSw); go_simp; (try with_reducible rfl))
    try simp only [Act.put, List.getElem_toArray, List.getElem_cons_zero, List.getElem_cons_succ, List.setIfInBounds_toArray, List.set_cons_zero, List.set_cons_succ]
    refine wpAnyH_take (i := 5) (oi := _) (v := ?v5i) rfl (by kernel_rfl) (by kernel_rfl) (by kernel_rfl) (fun _ _ _ h => h) (Or.inl ⟨by rfl, ?y5i⟩) (by assumption) ?r5i
    case y5i => (intro w' hSw; (try dsimp only at hSw); go_simp; (try with_reducible rfl))
    try simp only [Act.put, List.getElem_toArray, List.getElem_cons_zero, List.getElem_cons_succ, List.setIfInBounds_toArray, List.set_cons_zero, List.set_cons_succ]
    refine wpAnyH_take (i := 6) (oi := _) (v := ?v6i) rfl (by kernel_rfl) (by kernel_rfl) (by kernel_rfl) (fun _ _ _ h => h) (Or.inl ⟨by rfl, ?y6i⟩) (by assumption) ?r6i
    case y6i => (intro w' hSw; (try dsimp only at hSw); go_simp; (try with_reducible rfl))
    try simp only [Act.put, List.getElem_toArray, List.getElem_cons_zero, List.getElem_cons_succ, List.setIfInBounds_toArray, List.set_cons_zero, List.set_cons_succ]
    refine wpAnyH_ready (rs := [7]) (by kernel_rfl) (by simp) ?_
    refine AllReadyH.cons (o := _) rfl (fun K hK => ?_) AllReadyH.nil
    go_simp
    refine (HCI.out _ _ _ _ _ _ _ _ _ _ _ _ _).mono ?_
    rintro e w3 ⟨rfl, hE3⟩
    have hx : Ext w2 w3 := (Ext.drew (Ext.refl w2)).trans hE3
    have hC := kcell (w1 := w2.drew) (W := w2) (n := w2.heap.size) (fun _ _ _ => rfl) (Nat.le_refl _) hE3
    clear hHeld
    dsimp only
    refine hK.out _ _ ⟨hC, hx.size, hx⟩ (fun hHeld => ?_)
    clear hK K
    try simp only [Act.put, List.getElem_toArray, List.getElem_cons_zero, List.getElem_cons_succ, List.setIfInBounds_toArray, List.set_cons_zero, List.set_cons_succ]
    refine wpAnyH_take (i := 8) (oi := _) (v := ?v8i) rfl (by kernel_rfl) (by kernel_rfl) (by kernel_rfl) (fun _ _ _ h => h) (Or.inl ⟨by rfl, ?y8i⟩) (by assumption) ?r8i
    case y8i => (intro w' hSw; (try dsimp only at hSw); go_simp; (try with_reducible rfl))
    try simp only [Act.put, List.getElem_toArray, List.getElem_cons_zero, List.getElem_cons_succ, List.setIfInBounds_toArray, List.set_cons_zero, List.set_cons_succ]
    refine wpAnyH_done (by kernel_rfl) ?_ _
    have E3 := E2.trans hx
    have F2 := hid (blk_ext D2.out hx)
    have hz3 := hx.size
    clear hHeld hE3
    go_wp2_with fail
    refine wp_region_held_drew (S := fun w' => (∀ b o, b < w2.heap.size → ¬ b = w.heap.size + 1 + 1 → w'.cell? ⟨b, o, none⟩ = w2.cell? ⟨b, o, none⟩) ∧ w2.heap.size ≤ w'.heap.size) (by kernel_rfl) ?hS0 (fun hHeld => ?_)
    case hS0 => exact ⟨fun b o hb _ => hC b o hb, hx.size⟩
    refine wpAnyH_take (i := 0) (oi := _) (v := ?v0j) rfl (by kernel_rfl) (by kernel_rfl) (by kernel_rfl) (fun _ _ _ h => h) (Or.inl ⟨by rfl, ?y0j⟩) (by assumption) ?r0j
    case y0j => (intro w' hSw; (try dsimp only at hSw); go_simp; (try with_reducible rfl))
    try simp only [Act.put, List.getElem_toArray, List.getElem_cons_zero, List.getElem_cons_succ, List.setIfInBounds_toArray, List.set_cons_zero, List.set_cons_succ]
    refine wpAnyH_take (i := 1) (oi := _) (v := ?v1j) rfl (by kernel_rfl) (by kernel_rfl) (by kernel_rfl) (fun _ _ _ h => h) (Or.inl ⟨by rfl, ?y1j⟩) (by assumption) ?r1j
    case y1j => (intro w' hSw; (try dsimp only at hSw); go_simp; (try with_reducible rfl))
    try simp only [Act.put, List.getElem_toArray, List.getElem_cons_zero, List.getElem_cons_succ, List.setIfInBounds_toArray, List.set_cons_zero, List.set_cons_succ]
    refine wpAnyH_take (i := 2) (oi := _) (v := ?v2j) rfl (by kernel_rfl) (by kernel_rfl) (by kernel_rfl) (fun _ _ _ h => h) (Or.inl ⟨by rfl, ?y2j⟩) (by assumption) ?r2j
    case y2j => (intro w' hSw; (try dsimp only at hSw); go_simp; (try with_reducible rfl))
    try simp only [Act.put, List.getElem_toArray, List.getElem_cons_zero, List.getElem_cons_succ, List.setIfInBounds_toArray, List.set_cons_zero, List.set_cons_succ]
    refine wpAnyH_take (i := 3) (oi := _) (v := ?v3j) rfl (by kernel_rfl) (by kernel_rfl) (by kernel_rfl) (fun _ _ _ h => h) (Or.inl ⟨by rfl, ?y3j⟩) (by assumption) ?r3j
    case y3j => (intro w' hSw; (try dsimp only at hSw); go_simp; (try with_reducible rfl))
    try simp only [Act.put, List.getElem_toArray, List.getElem_cons_zero, List.getElem_cons_succ, List.setIfInBounds_toArray, List.set_cons_zero, List.set_cons_succ]
    refine wpAnyH_take (i := 4) (oi := _) (v := ?v4j) rfl (by kernel_rfl) (by kernel_rfl) (by kernel_rfl) (fun _ _ _ h => h) (Or.inl ⟨by rfl, ?y4j⟩) (by assumption) ?r4j
    case y4j => (intro w' hSw; (try dsimp only at hSw); go_simp; (try with_reducible rfl))
    try simp only [Act.put, List.getElem_toArray, List.getElem_cons_zero, List.getElem_cons_succ, List.setIfInBounds_toArray, List.set_cons_zero, List.set_cons_succ]
    refine wpAnyH_take (i := 5) (oi := _) (v := ?v5j) rfl (by kernel_rfl) (by kernel_rfl) (by kernel_rfl) (fun _ _ _ h => h) (Or.inl ⟨by rfl, ?y5j⟩) (by assumption) ?r5j
    case y5j => (intro w' hSw; (try dsimp only at hSw); go_simp; (try with_reducible rfl))
    try simp only [Act.put, List.getElem_toArray, List.getElem_cons_zero, List.getElem_cons_succ, List.setIfInBounds_toArray, List.set_cons_zero, List.set_cons_succ]
    refine wpAnyH_take (i := 6) (oi := _) (v := ?v6j) rfl (by kernel_rfl) (by kernel_rfl) (by kernel_rfl) (fun _ _ _ h => h) (Or.inl ⟨by rfl, ?y6j⟩) (by assumption) ?r6j
    case y6j => (intro w' hSw; (try dsimp only at hSw); go_simp; (try with_reducible rfl))
    try simp only [Act.put, List.getElem_toArray, List.getElem_cons_zero, List.getElem_cons_succ, List.setIfInBounds_toArray, List.set_cons_zero, List.set_cons_succ]
    refine wpAnyH_ready (rs := [7]) (by kernel_rfl) (by simp) ?_
    refine AllReadyH.cons (o := _) rfl (fun K hK => ?_) AllReadyH.nil
    go_simp
    refine (HTM.out _ _ _ _).mono ?_
    rintro e w4 ⟨rfl, hE4⟩
    have hx4 : Ext w3 w4 := (Ext.drew (Ext.refl w3)).trans hE4
    clear hHeld
    dsimp only
    refine hK.out _ _ ⟨kx (w1 := w2) (W := w2) (fun _ _ _ _ => rfl) (Nat.le_refl _) (hx.trans hx4), (hx.trans hx4).size⟩ (fun hHeld => ?_)
    clear hK K
    try simp only [Act.put, List.getElem_toArray, List.getElem_cons_zero, List.getElem_cons_succ, List.setIfInBounds_toArray, List.set_cons_zero, List.set_cons_succ]
    have E4 := E3.trans hx4
    have G2 := hid (blk_ext F2.out hx4)
    have v0 := blk_cell G2.out 0
    have v1 := blk_cell G2.out 1
    have f0 := blk_fro G2.out 0
    have f1 := blk_fro G2.out 1
    simp only [List.getElem?_toArray, List.getElem?_cons_zero, List.getElem?_cons_succ] at v0 v1
    have zv := (Array.getElem?_eq_some_iff.1 G2.out).1
    clear hHeld
    refine wpAnyH_ready (rs := [8]) (by kernel_rfl) (by simp) ?_
    refine AllReadyH.cons (o := _) rfl (fun K hK => ?_) AllReadyH.nil
    go_simp
    refine hK.out _ _ ⟨kx_set (kx_set (kx (w1 := w2) (W := w2) (fun _ _ _ _ => rfl) (Nat.le_refl _) (hx.trans hx4)) _ _) _ _, by have := (hx.trans hx4).size; simpa using this⟩ (fun hHeld => ?_)
    clear hK K
    try simp only [Act.put, List.getElem_toArray, List.getElem_cons_zero, List.getElem_cons_succ, List.setIfInBounds_toArray, List.set_cons_zero, List.set_cons_succ]
    refine wpAnyH_take (i := 9) (oi := _) (v := ?v9j) rfl (by kernel_rfl) (by kernel_rfl) (by kernel_rfl) (fun _ _ _ h => h) (Or.inl ⟨by rfl, ?y9j⟩) (by assumption) ?r9j
    case y9j => (intro w' hSw; (try dsimp only at hSw); go_simp; (try with_reducible rfl))
    try simp only [Act.put, List.getElem_toArray, List.getElem_cons_zero, List.getElem_cons_succ, List.setIfInBounds_toArray, List.set_cons_zero, List.set_cons_succ]
    clear hHeld
    refine wpAnyH_done (by kernel_rfl) ?_ _
    have y0 : ((w4.setCell ⟨w.heap.size + 1 + 1, 0, none⟩ (.int .i64 T1)).setCell ⟨w.heap.size + 1 + 1, 1, none⟩ (.int .i64 T2)).cell? ⟨w.heap.size + 1 + 1, 0, none⟩ = some (.int .i64 T1) := (World.cell?_setCell_other _ _ _ _ (by simp)).trans (World.cell?_setCell_same' w4 _ _ (by rw [v0]; rfl))
    have y1 : ((w4.setCell ⟨w.heap.size + 1 + 1, 0, none⟩ (.int .i64 T1)).setCell ⟨w.heap.size + 1 + 1, 1, none⟩ (.int .i64 T2)).cell? ⟨w.heap.size + 1 + 1, 1, none⟩ = some (.int .i64 T2) := World.cell?_setCell_same' _ _ _ (by rw [World.cell?_setCell_other _ _ _ _ (by simp), v1]; rfl)
    have EF : Ext w ((w4.setCell ⟨w.heap.size + 1 + 1, 0, none⟩ (.int .i64 T1)).setCell ⟨w.heap.size + 1 + 1, 1, none⟩ (.int .i64 T2)) := (Ext.set (Ext.set E4 (by dsimp only; omega) _) (by dsimp only; omega) _)
    go_wp2
    exact bodyPost_ret (v := .tuple #[.agg #[.int .i64 T1, .int .i64 T2], .int .i64 0]) (by simp [results, Try.results17, go_sem, y0, y1]) rfl ⟨rfl, EF⟩
end Go.Proofs.Ytbfmcclbbeobkaa
