/- Check and Walk, of the program and of the specification. -/
import Derived.Test.YtbfmcclbbeobkaaFits
import Derived.Test.YtbfmcclbbeobkaaRStep
import Derived.Test.YtbfmcclbbeobkaaTurn1
import Derived.Test.YtbfmcclbbeobkaaLatest
import Derived.Test.YtbfmcclbbeobkaaRoute
set_option linter.unusedSimpArgs false
set_option linter.unusedVariables false
namespace Go.Proofs.Ytbfmcclbbeobkaa
open Go.RowKit
set_option maxHeartbeats 1000000 in
theorem pcheck_any (m : Int) (A : Option Addr) (n c : Nat) (ps : List Pt) (hn : ps.length = n) (w : World) (hp : PathsAt w A ps) :
    Calls Try.prog 15 #[.agg #[.int .i64 m, .slice A n c]] w fun e w' => e = .returned (.int .i64 (checkE m ps)) ∧ Ext w w' := by
  have HV := hid (fun (W : World) (hE : Ext w W) => validNet_any m A n c ps hn W (hp.ext hE))
  unfold checkE
  clear hp hn
  cases hv : vNet m ps
  · rw [hv] at HV
    rw [if_neg (by decide)]
    clear hv
    go_enter Try.func15, Try.ntmps15
    go_wp2_with fail
    refine (HV.out _ (by (repeat' (first | with_reducible assumption | with_reducible exact Ext.refl _ | with_reducible refine Ext.alloc ?_ _ | with_reducible refine Ext.set ?_ ?_ _ | with_reducible refine Ext.drew ?_ | with_reducible refine Ext.drewN ?_ _ | with_reducible refine Ext.trans ?_ (by assumption) | (dsimp only; omega))))).mono ?_
    rintro e w2 ⟨rfl, hE⟩
    go_wp2
    go_ret
    exact ⟨rfl, by (repeat' (first | with_reducible assumption | with_reducible exact Ext.refl _ | with_reducible refine Ext.alloc ?_ _ | with_reducible refine Ext.set ?_ ?_ _ | with_reducible refine Ext.drew ?_ | with_reducible refine Ext.drewN ?_ _ | with_reducible refine Ext.trans ?_ (by assumption) | (dsimp only; omega)))⟩
  · rw [hv] at HV
    rw [if_pos rfl]
    clear hv
    go_enter Try.func15, Try.ntmps15
    go_wp2_with fail
    refine (HV.out _ (by (repeat' (first | with_reducible assumption | with_reducible exact Ext.refl _ | with_reducible refine Ext.alloc ?_ _ | with_reducible refine Ext.set ?_ ?_ _ | with_reducible refine Ext.drew ?_ | with_reducible refine Ext.drewN ?_ _ | with_reducible refine Ext.trans ?_ (by assumption) | (dsimp only; omega))))).mono ?_
    rintro e w2 ⟨rfl, hE⟩
    go_wp2
    go_ret
    exact ⟨rfl, by (repeat' (first | with_reducible assumption | with_reducible exact Ext.refl _ | with_reducible refine Ext.alloc ?_ _ | with_reducible refine Ext.set ?_ ?_ _ | with_reducible refine Ext.drew ?_ | with_reducible refine Ext.drewN ?_ _ | with_reducible refine Ext.trans ?_ (by assumption) | (dsimp only; omega)))⟩
/-- What Walk returns: the span and the error. -/
def walkE (m g l pl ph : Int) (ps : List Pt) (x : Int) : Int × Int × Int :=
  if partyE m g l pl ph ps = 0 then
    if 0 ≤ x ∧ x < ps.length then
      if (ps.getD x.toNat zeroPt).grade ≤ g then (timeOf (ps.getD x.toNat zeroPt).tl pl (ps.getD x.toNat zeroPt).sl l, timeOf (ps.getD x.toNat zeroPt).th ph (ps.getD x.toNat zeroPt).sh l, 0) else (0, 0, 3)
    else (0, 0, 1)
  else (0, 0, partyE m g l pl ph ps)
def walkV (r : Int × Int × Int) : Value := .tuple #[.agg #[.int .i64 r.1, .int .i64 r.2.1], .int .i64 r.2.2]
set_option maxRecDepth 100000 in
set_option maxHeartbeats 4000000 in
theorem rwalk_any (m g l pl ph x : Int) (A : Option Addr) (n c : Nat) (ps : List Pt) (hn : ps.length = n) (w : World) (hp : PathsAt w A ps) :
    Calls Try.prog 18 #[.agg #[.int .i64 m, .slice A n c], .agg #[.int .i64 g, .int .i64 l, .int .i64 pl, .int .i64 ph], .int .i64 x] w fun e w' => e = .returned (walkV (walkE m g l pl ph ps x)) ∧ Ext w w' := by
  have HC := hid (fun (W : World) (hE : Ext w W) => rCheckParty_any m g l pl ph A n c ps hn W (hp.ext hE))
  have t0 := three_blocks w (.cells #[.int .i64 m, .slice A n c] 24) (.cells #[.int .i64 g, .int .i64 l, .int .i64 pl, .int .i64 ph] 28) (.cells #[.int .i64 0, .int .i64 0] 26)
  have B0 := hid t0.1
  have B1 := hid t0.2.1
  have B2 := hid t0.2.2
  clear t0
  unfold walkE
  by_cases hz : partyE m g l pl ph ps = 0
  case neg =>
    rw [if_neg hz]
    revert HC hz
    generalize partyE m g l pl ph ps = ce
    intro HC hz
    clear hp hn
    go_enter Try.func18, Try.ntmps18
    go_wp2_with fail
    refine (HC.out _ (by (repeat' (first | with_reducible assumption | with_reducible exact Ext.refl _ | with_reducible refine Ext.alloc ?_ _ | with_reducible refine Ext.set ?_ ?_ _ | with_reducible refine Ext.drew ?_ | with_reducible refine Ext.drewN ?_ _ | with_reducible refine Ext.trans ?_ (by assumption) | (dsimp only; omega))))).mono ?_
    rintro e w2 ⟨rfl, hE⟩
    have E2 : Ext w w2 := by (repeat' (first | with_reducible assumption | with_reducible exact Ext.refl _ | with_reducible refine Ext.alloc ?_ _ | with_reducible refine Ext.set ?_ ?_ _ | with_reducible refine Ext.drew ?_ | with_reducible refine Ext.drewN ?_ _ | with_reducible refine Ext.trans ?_ (by assumption) | (dsimp only; omega)))
    have C2 := hid (blk_ext B2.out hE)
    clear hE HC
    have v0 := blk_cell C2.out 0
    have v1 := blk_cell C2.out 1
    have f0 := blk_fro C2.out 0
    have f1 := blk_fro C2.out 1
    simp only [List.getElem?_toArray, List.getElem?_cons_zero, List.getElem?_cons_succ] at v0 v1
    have zv := (Array.getElem?_eq_some_iff.1 C2.out).1
    have y0 : ((w2.setCell ⟨w.heap.size + 1 + 1, 0, none⟩ (.int .i64 (0))).setCell ⟨w.heap.size + 1 + 1, 1, none⟩ (.int .i64 (0))).cell? ⟨w.heap.size + 1 + 1, 0, none⟩ = some (.int .i64 (0)) := (World.cell?_setCell_other _ _ _ _ (by simp)).trans (World.cell?_setCell_same' w2 _ _ (by rw [v0]; rfl))
    have y1 : ((w2.setCell ⟨w.heap.size + 1 + 1, 0, none⟩ (.int .i64 (0))).setCell ⟨w.heap.size + 1 + 1, 1, none⟩ (.int .i64 (0))).cell? ⟨w.heap.size + 1 + 1, 1, none⟩ = some (.int .i64 (0)) := World.cell?_setCell_same' _ _ _ (by rw [World.cell?_setCell_other _ _ _ _ (by simp), v1]; rfl)
    have EF : Ext w ((w2.setCell ⟨w.heap.size + 1 + 1, 0, none⟩ (.int .i64 (0))).setCell ⟨w.heap.size + 1 + 1, 1, none⟩ (.int .i64 (0))) := (Ext.set (Ext.set (E2) (by dsimp only; omega) _) (by dsimp only; omega) _)
    go_wp2
    exact bodyPost_ret (v := .tuple #[.agg #[.int .i64 (0), .int .i64 (0)], .int .i64 (ce)]) (by simp [results, Try.results18, go_sem, y0, y1]) rfl ⟨rfl, EF⟩
  obtain ⟨hv, hpa⟩ := partyE_zero hz
  obtain ⟨hm1, hm2, hN⟩ := vNet_ok hv
  have ha := vParty_ok hpa
  have h24 : n ≤ 24 := by have := hN.len; omega
  have HPX := hid (fun (B : Bool) (hB : (decide (0 ≤ x) && decide (x < n)) = B) (W : World) => rIsPath_b x (.int .i64 m) A n c (by omega) B hB W)
  have HCN := hid (fun (i : Nat) (hi : i < n) (W : World) (hE : Ext w W) => rCan_any m g l pl ph A n c ps hn i hi (by omega) W (hp.ext hE))
  have HSP := hid (fun (i : Nat) (hi : i < n) (W : World) (hE : Ext w W) => rSpan_any m g l pl ph ha A n c ps hn i hi (hN.ok i (by omega)) W (hp.ext hE))
  rw [hz] at HC
  rw [if_pos hz]
  have HNN := hid hn
  clear hz hv hpa hN ha hp hn
  by_cases hx : 0 ≤ x ∧ x < ps.length
  case neg =>
    rw [if_neg hx]
    have hbx : (decide (0 ≤ x) && decide (x < n)) = false := by
      have := HNN.out
      rw [Bool.and_eq_false_iff, decide_eq_false_iff_not, decide_eq_false_iff_not]
      omega
    have HPF := hid (HPX.out false hbx)
    clear hbx hx HPX HCN HSP
    go_enter Try.func18, Try.ntmps18
    go_wp2_with fail
    refine (HC.out _ (by (repeat' (first | with_reducible assumption | with_reducible exact Ext.refl _ | with_reducible refine Ext.alloc ?_ _ | with_reducible refine Ext.set ?_ ?_ _ | with_reducible refine Ext.drew ?_ | with_reducible refine Ext.drewN ?_ _ | with_reducible refine Ext.trans ?_ (by assumption) | (dsimp only; omega))))).mono ?_
    rintro e w2 ⟨rfl, hE⟩
    (first | (have hK := KC.step (n := w.heap.size + 3) (by with_reducible assumption) hE) | (have hK := KC.step (KC.step (n := w.heap.size + 3) (by with_reducible assumption) (ext_alloc1 _ _)) hE) | (have hK := KC.step (KC.refl (n := w.heap.size + 3) (by simp)) hE)); have hC := hK.cell; have hF := hK.fro; have hX := hK.ext
    have E2 : Ext w w2 := by (repeat' (first | with_reducible assumption | with_reducible exact Ext.refl _ | with_reducible refine Ext.alloc ?_ _ | with_reducible refine Ext.set ?_ ?_ _ | with_reducible refine Ext.drew ?_ | with_reducible refine Ext.drewN ?_ _ | with_reducible refine Ext.trans ?_ (by assumption) | (dsimp only; omega)))
    have C2 := hid (blk_ext B2.out hE)
    clear hE HC
    go_wp2_with fail
    refine (HPF.out _).mono ?_
    rintro e w3 ⟨rfl, hE⟩
    have E3 := E2.trans hE
    have D2 := hid (blk_ext C2.out hE)
    clear hE
    have v0 := blk_cell D2.out 0
    have v1 := blk_cell D2.out 1
    have f0 := blk_fro D2.out 0
    have f1 := blk_fro D2.out 1
    simp only [List.getElem?_toArray, List.getElem?_cons_zero, List.getElem?_cons_succ] at v0 v1
    have zv := (Array.getElem?_eq_some_iff.1 D2.out).1
    have y0 : ((w3.setCell ⟨w.heap.size + 1 + 1, 0, none⟩ (.int .i64 (0))).setCell ⟨w.heap.size + 1 + 1, 1, none⟩ (.int .i64 (0))).cell? ⟨w.heap.size + 1 + 1, 0, none⟩ = some (.int .i64 (0)) := (World.cell?_setCell_other _ _ _ _ (by simp)).trans (World.cell?_setCell_same' w3 _ _ (by rw [v0]; rfl))
    have y1 : ((w3.setCell ⟨w.heap.size + 1 + 1, 0, none⟩ (.int .i64 (0))).setCell ⟨w.heap.size + 1 + 1, 1, none⟩ (.int .i64 (0))).cell? ⟨w.heap.size + 1 + 1, 1, none⟩ = some (.int .i64 (0)) := World.cell?_setCell_same' _ _ _ (by rw [World.cell?_setCell_other _ _ _ _ (by simp), v1]; rfl)
    have EF : Ext w ((w3.setCell ⟨w.heap.size + 1 + 1, 0, none⟩ (.int .i64 (0))).setCell ⟨w.heap.size + 1 + 1, 1, none⟩ (.int .i64 (0))) := (Ext.set (Ext.set (E3) (by dsimp only; omega) _) (by dsimp only; omega) _)
    go_wp2
    exact bodyPost_ret (v := .tuple #[.agg #[.int .i64 (0), .int .i64 (0)], .int .i64 (1)]) (by simp [results, Try.results18, go_sem, y0, y1]) rfl ⟨rfl, EF⟩
  rw [if_pos hx]
  obtain ⟨i, rfl⟩ : ∃ i : Nat, x = i := ⟨x.toNat, by omega⟩
  have hin : i < n := by have := HNN.out; omega
  have HPF := hid (HPX.out true (by simp; omega))
  have HCI := hid (HCN.out i hin)
  have HSI := hid (HSP.out i hin)
  rw [Int.toNat_natCast]
  clear HPX HCN HSP hx
  obtain ⟨p, hpq⟩ : ∃ p, ps.getD i zeroPt = p := ⟨_, rfl⟩
  rw [hpq] at HCI HSI ⊢
  clear hpq
  obtain ⟨T1, hT1⟩ : ∃ T, timeOf p.tl pl p.sl l = T := ⟨_, rfl⟩
  obtain ⟨T2, hT2⟩ : ∃ T, timeOf p.th ph p.sh l = T := ⟨_, rfl⟩
  rw [hT1, hT2] at HSI ⊢
  clear hT1 hT2
  by_cases hg : p.grade ≤ g
  · rw [if_pos hg]
    rw [decide_eq_true hg] at HCI
    clear hg
    go_enter Try.func18, Try.ntmps18
    go_wp2_with fail
    refine (HC.out _ (by (repeat' (first | with_reducible assumption | with_reducible exact Ext.refl _ | with_reducible refine Ext.alloc ?_ _ | with_reducible refine Ext.set ?_ ?_ _ | with_reducible refine Ext.drew ?_ | with_reducible refine Ext.drewN ?_ _ | with_reducible refine Ext.trans ?_ (by assumption) | (dsimp only; omega))))).mono ?_
    rintro e w2 ⟨rfl, hE⟩
    (first | (have hK := KC.step (n := w.heap.size + 3) (by with_reducible assumption) hE) | (have hK := KC.step (KC.step (n := w.heap.size + 3) (by with_reducible assumption) (ext_alloc1 _ _)) hE) | (have hK := KC.step (KC.refl (n := w.heap.size + 3) (by simp)) hE)); have hC := hK.cell; have hF := hK.fro; have hX := hK.ext
    have E2 : Ext w w2 := by (repeat' (first | with_reducible assumption | with_reducible exact Ext.refl _ | with_reducible refine Ext.alloc ?_ _ | with_reducible refine Ext.set ?_ ?_ _ | with_reducible refine Ext.drew ?_ | with_reducible refine Ext.drewN ?_ _ | with_reducible refine Ext.trans ?_ (by assumption) | (dsimp only; omega)))
    have C2 := hid (blk_ext B2.out hE)
    clear hE HC
    go_wp2_with fail
    refine (HPF.out _).mono ?_
    rintro e w3 ⟨rfl, hE⟩
    (first | (have hK := KC.step (n := w.heap.size + 3) (by with_reducible assumption) hE) | (have hK := KC.step (KC.step (n := w.heap.size + 3) (by with_reducible assumption) (ext_alloc1 _ _)) hE) | (have hK := KC.step (KC.refl (n := w.heap.size + 3) (by simp)) hE)); have hC := hK.cell; have hF := hK.fro; have hX := hK.ext
    have E3 := E2.trans hE
    have D2 := hid (blk_ext C2.out hE)
    clear hE
    go_wp2_with fail
    refine (HCI.out _ E3).mono ?_
    rintro e w4 ⟨rfl, hE⟩
    (first | (have hK := KC.step (n := w.heap.size + 3) (by with_reducible assumption) hE) | (have hK := KC.step (KC.step (n := w.heap.size + 3) (by with_reducible assumption) (ext_alloc1 _ _)) hE) | (have hK := KC.step (KC.refl (n := w.heap.size + 3) (by simp)) hE)); have hC := hK.cell; have hF := hK.fro; have hX := hK.ext
    have E4 := E3.trans hE
    have F2 := hid (blk_ext D2.out hE)
    clear hE
    go_wp2_with fail
    refine (HSI.out _ E4).mono ?_
    rintro e w5 ⟨rfl, hE⟩
    have E5 := E4.trans hE
    have G2 := hid (blk_ext F2.out hE)
    clear hE
    have v0 := blk_cell G2.out 0
    have v1 := blk_cell G2.out 1
    have f0 := blk_fro G2.out 0
    have f1 := blk_fro G2.out 1
    simp only [List.getElem?_toArray, List.getElem?_cons_zero, List.getElem?_cons_succ] at v0 v1
    have zv := (Array.getElem?_eq_some_iff.1 G2.out).1
    have y0 : ((w5.setCell ⟨w.heap.size + 1 + 1, 0, none⟩ (.int .i64 (T1))).setCell ⟨w.heap.size + 1 + 1, 1, none⟩ (.int .i64 (T2))).cell? ⟨w.heap.size + 1 + 1, 0, none⟩ = some (.int .i64 (T1)) := (World.cell?_setCell_other _ _ _ _ (by simp)).trans (World.cell?_setCell_same' w5 _ _ (by rw [v0]; rfl))
    have y1 : ((w5.setCell ⟨w.heap.size + 1 + 1, 0, none⟩ (.int .i64 (T1))).setCell ⟨w.heap.size + 1 + 1, 1, none⟩ (.int .i64 (T2))).cell? ⟨w.heap.size + 1 + 1, 1, none⟩ = some (.int .i64 (T2)) := World.cell?_setCell_same' _ _ _ (by rw [World.cell?_setCell_other _ _ _ _ (by simp), v1]; rfl)
    have EF : Ext w ((w5.setCell ⟨w.heap.size + 1 + 1, 0, none⟩ (.int .i64 (T1))).setCell ⟨w.heap.size + 1 + 1, 1, none⟩ (.int .i64 (T2))) := (Ext.set (Ext.set (E5) (by dsimp only; omega) _) (by dsimp only; omega) _)
    go_wp2
    exact bodyPost_ret (v := .tuple #[.agg #[.int .i64 (T1), .int .i64 (T2)], .int .i64 (0)]) (by simp [results, Try.results18, go_sem, y0, y1]) rfl ⟨rfl, EF⟩
  · rw [if_neg hg]
    rw [decide_eq_false hg] at HCI
    clear hg HSI
    go_enter Try.func18, Try.ntmps18
    go_wp2_with fail
    refine (HC.out _ (by (repeat' (first | with_reducible assumption | with_reducible exact Ext.refl _ | with_reducible refine Ext.alloc ?_ _ | with_reducible refine Ext.set ?_ ?_ _ | with_reducible refine Ext.drew ?_ | with_reducible refine Ext.drewN ?_ _ | with_reducible refine Ext.trans ?_ (by assumption) | (dsimp only; omega))))).mono ?_
    rintro e w2 ⟨rfl, hE⟩
    (first | (have hK := KC.step (n := w.heap.size + 3) (by with_reducible assumption) hE) | (have hK := KC.step (KC.step (n := w.heap.size + 3) (by with_reducible assumption) (ext_alloc1 _ _)) hE) | (have hK := KC.step (KC.refl (n := w.heap.size + 3) (by simp)) hE)); have hC := hK.cell; have hF := hK.fro; have hX := hK.ext
    have E2 : Ext w w2 := by (repeat' (first | with_reducible assumption | with_reducible exact Ext.refl _ | with_reducible refine Ext.alloc ?_ _ | with_reducible refine Ext.set ?_ ?_ _ | with_reducible refine Ext.drew ?_ | with_reducible refine Ext.drewN ?_ _ | with_reducible refine Ext.trans ?_ (by assumption) | (dsimp only; omega)))
    have C2 := hid (blk_ext B2.out hE)
    clear hE HC
    go_wp2_with fail
    refine (HPF.out _).mono ?_
    rintro e w3 ⟨rfl, hE⟩
    (first | (have hK := KC.step (n := w.heap.size + 3) (by with_reducible assumption) hE) | (have hK := KC.step (KC.step (n := w.heap.size + 3) (by with_reducible assumption) (ext_alloc1 _ _)) hE) | (have hK := KC.step (KC.refl (n := w.heap.size + 3) (by simp)) hE)); have hC := hK.cell; have hF := hK.fro; have hX := hK.ext
    have E3 := E2.trans hE
    have D2 := hid (blk_ext C2.out hE)
    clear hE
    go_wp2_with fail
    refine (HCI.out _ E3).mono ?_
    rintro e w4 ⟨rfl, hE⟩
    have E4 := E3.trans hE
    have F2 := hid (blk_ext D2.out hE)
    clear hE
    have v0 := blk_cell F2.out 0
    have v1 := blk_cell F2.out 1
    have f0 := blk_fro F2.out 0
    have f1 := blk_fro F2.out 1
    simp only [List.getElem?_toArray, List.getElem?_cons_zero, List.getElem?_cons_succ] at v0 v1
    have zv := (Array.getElem?_eq_some_iff.1 F2.out).1
    have y0 : ((w4.setCell ⟨w.heap.size + 1 + 1, 0, none⟩ (.int .i64 (0))).setCell ⟨w.heap.size + 1 + 1, 1, none⟩ (.int .i64 (0))).cell? ⟨w.heap.size + 1 + 1, 0, none⟩ = some (.int .i64 (0)) := (World.cell?_setCell_other _ _ _ _ (by simp)).trans (World.cell?_setCell_same' w4 _ _ (by rw [v0]; rfl))
    have y1 : ((w4.setCell ⟨w.heap.size + 1 + 1, 0, none⟩ (.int .i64 (0))).setCell ⟨w.heap.size + 1 + 1, 1, none⟩ (.int .i64 (0))).cell? ⟨w.heap.size + 1 + 1, 1, none⟩ = some (.int .i64 (0)) := World.cell?_setCell_same' _ _ _ (by rw [World.cell?_setCell_other _ _ _ _ (by simp), v1]; rfl)
    have EF : Ext w ((w4.setCell ⟨w.heap.size + 1 + 1, 0, none⟩ (.int .i64 (0))).setCell ⟨w.heap.size + 1 + 1, 1, none⟩ (.int .i64 (0))) := (Ext.set (Ext.set (E4) (by dsimp only; omega) _) (by dsimp only; omega) _)
    go_wp2
    exact bodyPost_ret (v := .tuple #[.agg #[.int .i64 (0), .int .i64 (0)], .int .i64 (3)]) (by simp [results, Try.results18, go_sem, y0, y1]) rfl ⟨rfl, EF⟩
end Go.Proofs.Ytbfmcclbbeobkaa
