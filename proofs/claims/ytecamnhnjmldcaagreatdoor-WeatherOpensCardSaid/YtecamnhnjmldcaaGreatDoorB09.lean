/- Which observations are valid: one of them. -/
import Derived.Test.YtecamnhnjmldcaaGreatDoorB08
set_option linter.unusedSimpArgs false
set_option linter.unusedVariables false
namespace Go.Proofs.YtecamnhnjmldcaaGreatDoor
open Go.RowKit
open Go.Maps
set_option maxHeartbeats 2000000 in
set_option maxRecDepth 100000 in
theorem vSg1_any (f : List (List Hr)) (A : Option Addr) (n c : Nat) (hn : f.length = n) (hm : n ≤ 10000) (F : Int → Nat) (mn : Nat) (MB q0 q2 : Nat) (s : Sg) (hwf : (Lit.int .i64 s.hour).wf = true)
    (w : World) (hw : WidW w) (hf : ScsAt w A f) (hM : MapC w MB mn F) (h0 : q0 < w.heap.size) (h2 : q2 < w.heap.size) (c0 : w.cell? ⟨q0, 0, none⟩ = some (.slice A n c)) (c2 : w.cell? ⟨q2, 0, none⟩ = some (.map (some MB))) (hN : hoursN f ≤ 10000) :
    Calls Tryz.prog 133 #[s.val, .pointer (some ⟨q2, 0, none⟩), .pointer (some ⟨q0, 0, none⟩)] w fun e w' => e = .returned (.bool (decide (F s.hour = 1) && (inI s.hour 0 ((hoursN f : Int) - 1) && hrB (justM s)))) ∧ Ext w w' := by
  have HH := hid (fun (W : World) (hW : Ext w W) => hours_any A n c f hn W (hf.ext hW) hm)
  have HV := hid (fun (W : World) (hW : Ext w W) => vHour_any (justM s) W (hw.ext hW))
  have HLK := hid (fun (W : World) (hW : Ext w W) => (hM.ext hW).look s.hour hwf)
  clear hf hw hM hn hwf
  obtain ⟨N, hN'⟩ : ∃ N, hoursN f = N := ⟨_, rfl⟩
  obtain ⟨B3, hB3⟩ : ∃ B, hrB (justM s) = B := ⟨_, rfl⟩
  rw [hN'] at HH hN ⊢
  rw [hB3] at HV ⊢
  clear hN' hB3
  unfold justM Hr.val at HV
  obtain ⟨hr, wi, ra, te⟩ := s
  unfold Sg.val
  dsimp only at *
  obtain ⟨C, hC⟩ : ∃ C, F hr = C := ⟨_, rfl⟩
  rw [hC] at HLK ⊢
  clear hC
  by_cases h1 : C = 1
  case neg =>
    have hd : ((C : Int) == 1) = false := by simp; omega
    go_enter Tryz.func133, Tryz.ntmps133
    go_wp2_with fail
    refine wp_abs (fun W => W.cell? ⟨w.heap.size, 0, none⟩ = some (.int .i64 hr) ∧ W.cell? ⟨w.heap.size, 1, none⟩ = some (.int .i64 wi) ∧ W.cell? ⟨w.heap.size, 2, none⟩ = some (.int .i64 ra) ∧ W.cell? ⟨w.heap.size, 3, none⟩ = some (.int .i64 te) ∧ W.cell? ⟨q0, 0, none⟩ = some (.slice A n c) ∧ W.cell? ⟨q2, 0, none⟩ = some (.map (some MB)) ∧ w.heap.size + 1 ≤ W.heap.size ∧ Ext w W) ⟨by go_simp, by go_simp, by go_simp, by go_simp, by go_simp, by go_simp, by simp, by (repeat' (first | with_reducible assumption | with_reducible exact Ext.refl _ | with_reducible refine Ext.alloc ?_ _ | with_reducible refine Ext.set ?_ ?_ _ | with_reducible refine Ext.drew ?_ | with_reducible refine Ext.drewN ?_ _ | with_reducible refine Ext.trans ?_ (by assumption) | (dsimp only; omega)))⟩ ?_
    rintro W ⟨d0, d1, d2, d3, k0, k2, hz, hE⟩
    clear c0 c2
    have hq0 : q0 < W.heap.size := by omega
    have hq2 : q2 < W.heap.size := by omega
    have hw' : w.heap.size < W.heap.size := by omega
    refine wp_region_held_drew (S := fun w' => (∀ b o, b < W.heap.size → w'.cell? ⟨b, o, none⟩ = W.cell? ⟨b, o, none⟩) ∧ W.heap.size ≤ w'.heap.size ∧ Ext W w') (by kernel_rfl) ?hS0 (fun hHeld => ?_)
    case hS0 => exact sK (Ext.drew (Ext.refl _))
    have X0 : Ext W W.drew := Ext.drew (Ext.refl W)
    refine tk1 (i := 0) (v := ?v0au) rfl ?y0au ?r0au
    case y0au => (intro w' hSw; (try dsimp only at hSw); go_simp; (try with_reducible rfl))
    try simp only [Act.put, sq1, sq2, sq3, sq4, sq5, sq6]
    refine tk1 (i := 1) (v := ?v1au) rfl ?y1au ?r1au
    case y1au => (intro w' hSw; (try dsimp only at hSw); go_simp; (try with_reducible rfl))
    try simp only [Act.put, sq1, sq2, sq3, sq4, sq5, sq6]
    refine tk1 (i := 2) (v := ?v2au) rfl ?y2au ?r2au
    case y2au => (intro w' hSw; (try dsimp only at hSw); go_simp; (try with_reducible rfl))
    try simp only [Act.put, sq1, sq2, sq3, sq4, sq5, sq6]
    refine tk1 (i := 3) (v := ?v3bu) rfl ?y3bu ?r3bu
    case y3bu => (intro w' hSw; (try dsimp only at hSw); go_simp; (try simp only [HLK.out _ (hE.trans hSw.2.2), Result.andThen_ok]); (try with_reducible rfl))
    try simp only [Act.put, sq1, sq2, sq3, sq4, sq5, sq6]
    refine tk1 (i := 4) (v := ?v4bu) rfl ?y4bu ?r4bu
    case y4bu => (intro w' hSw; (try dsimp only at hSw); go_simp; (try simp only [hd]); (try with_reducible rfl))
    try simp only [Act.put, sq1, sq2, sq3, sq4, sq5, sq6]
    refine tk1 (i := 5) (v := ?v5bu) rfl ?y5bu ?r5bu
    case y5bu => (intro w' hSw; (try dsimp only at hSw); go_simp; (try with_reducible rfl))
    try simp only [Act.put, sq1, sq2, sq3, sq4, sq5, sq6]
    refine tku1 (i := 6) rfl ?r6su
    try simp only [Act.put, sq1, sq2, sq3, sq4, sq5, sq6]
    refine tku1 (i := 7) rfl ?r7su
    try simp only [Act.put, sq1, sq2, sq3, sq4, sq5, sq6]
    refine tku1 (i := 8) rfl ?r8su
    try simp only [Act.put, sq1, sq2, sq3, sq4, sq5, sq6]
    refine tku1 (i := 9) rfl ?r9su
    try simp only [Act.put, sq1, sq2, sq3, sq4, sq5, sq6]
    refine tku1 (i := 10) rfl ?r10su
    try simp only [Act.put, sq1, sq2, sq3, sq4, sq5, sq6]
    refine tku1 (i := 11) rfl ?r11su
    try simp only [Act.put, sq1, sq2, sq3, sq4, sq5, sq6]
    refine tk1 (i := 12) (v := ?v12tu) rfl ?y12tu ?r12tu
    case y12tu => (intro w' hSw; (try dsimp only at hSw); go_simp; (try with_reducible rfl))
    try simp only [Act.put, sq1, sq2, sq3, sq4, sq5, sq6]
    refine tk1 (i := 13) (v := ?v13tu) rfl ?y13tu ?r13tu
    case y13tu => (intro w' hSw; (try dsimp only at hSw); go_simp; (try with_reducible rfl))
    try simp only [Act.put, sq1, sq2, sq3, sq4, sq5, sq6]
    refine tku1 (i := 14) rfl ?r14uu
    try simp only [Act.put, sq1, sq2, sq3, sq4, sq5, sq6]
    refine tku1 (i := 15) rfl ?r15uu
    try simp only [Act.put, sq1, sq2, sq3, sq4, sq5, sq6]
    refine tku1 (i := 16) rfl ?r16uu
    try simp only [Act.put, sq1, sq2, sq3, sq4, sq5, sq6]
    refine tku1 (i := 17) rfl ?r17uu
    try simp only [Act.put, sq1, sq2, sq3, sq4, sq5, sq6]
    refine tk1 (i := 18) (v := ?v18vu) rfl ?y18vu ?r18vu
    case y18vu => (intro w' hSw; (try dsimp only at hSw); go_simp; (try with_reducible rfl))
    try simp only [Act.put, sq1, sq2, sq3, sq4, sq5, sq6]
    refine tk1 (i := 19) (v := ?v19vu) rfl ?y19vu ?r19vu
    case y19vu => (intro w' hSw; (try dsimp only at hSw); go_simp; (try with_reducible rfl))
    try simp only [Act.put, sq1, sq2, sq3, sq4, sq5, sq6]
    refine wpAnyH_done (by kernel_rfl) ?_ _
    have HX := hid (hE.trans X0)
    go_wp2
    go_ret
    exact ⟨ret_bool (by simp [h1]), HX.out⟩
  subst h1
  have hd : (((1 : Nat) : Int) == 1) = true := by decide
  have hwr : IntKind.i64.wrap ((N : Int) - 1) = (N : Int) - 1 := IntWalk.i64_in _ (by omega)
  have HI := hid (fun W => vWithin_any hr 0 ((N : Int) - 1) W)
  obtain ⟨b3, hb3⟩ : ∃ b, inI hr 0 ((N : Int) - 1) = b := ⟨_, rfl⟩
  rw [hb3] at HI ⊢
  clear hb3
  cases b3
  · go_enter Tryz.func133, Tryz.ntmps133
    go_wp2_with fail
    refine wp_abs (fun W => W.cell? ⟨w.heap.size, 0, none⟩ = some (.int .i64 hr) ∧ W.cell? ⟨w.heap.size, 1, none⟩ = some (.int .i64 wi) ∧ W.cell? ⟨w.heap.size, 2, none⟩ = some (.int .i64 ra) ∧ W.cell? ⟨w.heap.size, 3, none⟩ = some (.int .i64 te) ∧ W.cell? ⟨q0, 0, none⟩ = some (.slice A n c) ∧ W.cell? ⟨q2, 0, none⟩ = some (.map (some MB)) ∧ w.heap.size + 1 ≤ W.heap.size ∧ Ext w W) ⟨by go_simp, by go_simp, by go_simp, by go_simp, by go_simp, by go_simp, by simp, by (repeat' (first | with_reducible assumption | with_reducible exact Ext.refl _ | with_reducible refine Ext.alloc ?_ _ | with_reducible refine Ext.set ?_ ?_ _ | with_reducible refine Ext.drew ?_ | with_reducible refine Ext.drewN ?_ _ | with_reducible refine Ext.trans ?_ (by assumption) | (dsimp only; omega)))⟩ ?_
    rintro W ⟨d0, d1, d2, d3, k0, k2, hz, hE⟩
    clear c0 c2
    have hq0 : q0 < W.heap.size := by omega
    have hq2 : q2 < W.heap.size := by omega
    have hw' : w.heap.size < W.heap.size := by omega
    refine wp_region_held_drew (S := fun w' => (∀ b o, b < W.heap.size → w'.cell? ⟨b, o, none⟩ = W.cell? ⟨b, o, none⟩) ∧ W.heap.size ≤ w'.heap.size ∧ Ext W w') (by kernel_rfl) ?hS0 (fun hHeld => ?_)
    case hS0 => exact sK (Ext.drew (Ext.refl _))
    have X0 : Ext W W.drew := Ext.drew (Ext.refl W)
    refine tk1 (i := 0) (v := ?v0ax) rfl ?y0ax ?r0ax
    case y0ax => (intro w' hSw; (try dsimp only at hSw); go_simp; (try with_reducible rfl))
    try simp only [Act.put, sq1, sq2, sq3, sq4, sq5, sq6]
    refine tk1 (i := 1) (v := ?v1ax) rfl ?y1ax ?r1ax
    case y1ax => (intro w' hSw; (try dsimp only at hSw); go_simp; (try with_reducible rfl))
    try simp only [Act.put, sq1, sq2, sq3, sq4, sq5, sq6]
    refine tk1 (i := 2) (v := ?v2ax) rfl ?y2ax ?r2ax
    case y2ax => (intro w' hSw; (try dsimp only at hSw); go_simp; (try with_reducible rfl))
    try simp only [Act.put, sq1, sq2, sq3, sq4, sq5, sq6]
    refine tk1 (i := 3) (v := ?v3bx) rfl ?y3bx ?r3bx
    case y3bx => (intro w' hSw; (try dsimp only at hSw); go_simp; (try simp only [HLK.out _ (hE.trans hSw.2.2), Result.andThen_ok]); (try with_reducible rfl))
    try simp only [Act.put, sq1, sq2, sq3, sq4, sq5, sq6]
    refine tk1 (i := 4) (v := ?v4bx) rfl ?y4bx ?r4bx
    case y4bx => (intro w' hSw; (try dsimp only at hSw); go_simp; (try simp only [hd]); (try with_reducible rfl))
    try simp only [Act.put, sq1, sq2, sq3, sq4, sq5, sq6]
    refine tk1 (i := 5) (v := ?v5bx) rfl ?y5bx ?r5bx
    case y5bx => (intro w' hSw; (try dsimp only at hSw); go_simp; (try with_reducible rfl))
    try simp only [Act.put, sq1, sq2, sq3, sq4, sq5, sq6]
    refine tk1 (i := 6) (v := ?v6sx) rfl ?y6sx ?r6sx
    case y6sx => (intro w' hSw; (try dsimp only at hSw); go_simp; (try with_reducible rfl))
    try simp only [Act.put, sq1, sq2, sq3, sq4, sq5, sq6]
    refine tk1 (i := 7) (v := ?v7sx) rfl ?y7sx ?r7sx
    case y7sx => (intro w' hSw; (try dsimp only at hSw); go_simp; (try with_reducible rfl))
    try simp only [Act.put, sq1, sq2, sq3, sq4, sq5, sq6]
    refine tk1 (i := 8) (v := ?v8sx) rfl ?y8sx ?r8sx
    case y8sx => (intro w' hSw; (try dsimp only at hSw); go_simp; (try with_reducible rfl))
    try simp only [Act.put, sq1, sq2, sq3, sq4, sq5, sq6]
    refine wpAnyH_ready (rs := [9]) (by kernel_rfl) (by simp) ?_
    refine AllReadyH.cons (o := _) rfl (fun K hK => ?_) AllReadyH.nil
    go_simp
    refine Calls.mono (HH.out _ (hE.trans X0)) ?_
    rintro e w1 ⟨rfl, hE1⟩
    dsimp only
    have X1 := X0.trans hE1
    clear hHeld
    refine hK.out _ _ (sK X1) (fun hHeld => ?_)
    clear hK K
    try simp only [Act.put, sq1, sq2, sq3, sq4, sq5, sq6]
    refine tk1 (i := 10) (v := ?v10tx) rfl ?y10tx ?r10tx
    case y10tx => (intro w' hSw; (try dsimp only at hSw); go_simp; (try with_reducible rfl))
    try simp only [Act.put, sq1, sq2, sq3, sq4, sq5, sq6]
    refine wpAnyH_ready (rs := [11]) (by kernel_rfl) (by simp) ?_
    refine AllReadyH.cons (o := _) rfl (fun K hK => ?_) AllReadyH.nil
    go_simp
    refine Calls.mono (HI.out _) ?_
    rintro e w2 ⟨rfl, rfl⟩
    dsimp only
    have X2 := X1
    refine hK.out _ _ (sK X2) (fun hHeld2 => ?_)
    clear hK K
    try simp only [Act.put, sq1, sq2, sq3, sq4, sq5, sq6]
    clear hHeld
    have hHeld := hHeld2
    clear hHeld2
    refine tk1 (i := 12) (v := ?v12tx2) rfl ?y12tx2 ?r12tx2
    case y12tx2 => (intro w' hSw; (try dsimp only at hSw); go_simp; (try with_reducible rfl))
    try simp only [Act.put, sq1, sq2, sq3, sq4, sq5, sq6]
    refine tk1 (i := 13) (v := ?v13tx2) rfl ?y13tx2 ?r13tx2
    case y13tx2 => (intro w' hSw; (try dsimp only at hSw); go_simp; (try with_reducible rfl))
    try simp only [Act.put, sq1, sq2, sq3, sq4, sq5, sq6]
    refine tku1 (i := 14) rfl ?r14ux
    try simp only [Act.put, sq1, sq2, sq3, sq4, sq5, sq6]
    refine tku1 (i := 15) rfl ?r15ux
    try simp only [Act.put, sq1, sq2, sq3, sq4, sq5, sq6]
    refine tku1 (i := 16) rfl ?r16ux
    try simp only [Act.put, sq1, sq2, sq3, sq4, sq5, sq6]
    refine tku1 (i := 17) rfl ?r17ux
    try simp only [Act.put, sq1, sq2, sq3, sq4, sq5, sq6]
    refine tk1 (i := 18) (v := ?v18vx) rfl ?y18vx ?r18vx
    case y18vx => (intro w' hSw; (try dsimp only at hSw); go_simp; (try with_reducible rfl))
    try simp only [Act.put, sq1, sq2, sq3, sq4, sq5, sq6]
    refine tk1 (i := 19) (v := ?v19vx) rfl ?y19vx ?r19vx
    case y19vx => (intro w' hSw; (try dsimp only at hSw); go_simp; (try with_reducible rfl))
    try simp only [Act.put, sq1, sq2, sq3, sq4, sq5, sq6]
    refine wpAnyH_done (by kernel_rfl) ?_ _
    have HX := hid (hE.trans X2)
    go_wp2
    go_ret
    exact ⟨ret_bool (by simp), HX.out⟩
  · go_enter Tryz.func133, Tryz.ntmps133
    go_wp2_with fail
    refine wp_abs (fun W => W.cell? ⟨w.heap.size, 0, none⟩ = some (.int .i64 hr) ∧ W.cell? ⟨w.heap.size, 1, none⟩ = some (.int .i64 wi) ∧ W.cell? ⟨w.heap.size, 2, none⟩ = some (.int .i64 ra) ∧ W.cell? ⟨w.heap.size, 3, none⟩ = some (.int .i64 te) ∧ W.cell? ⟨q0, 0, none⟩ = some (.slice A n c) ∧ W.cell? ⟨q2, 0, none⟩ = some (.map (some MB)) ∧ w.heap.size + 1 ≤ W.heap.size ∧ Ext w W) ⟨by go_simp, by go_simp, by go_simp, by go_simp, by go_simp, by go_simp, by simp, by (repeat' (first | with_reducible assumption | with_reducible exact Ext.refl _ | with_reducible refine Ext.alloc ?_ _ | with_reducible refine Ext.set ?_ ?_ _ | with_reducible refine Ext.drew ?_ | with_reducible refine Ext.drewN ?_ _ | with_reducible refine Ext.trans ?_ (by assumption) | (dsimp only; omega)))⟩ ?_
    rintro W ⟨d0, d1, d2, d3, k0, k2, hz, hE⟩
    clear c0 c2
    have hq0 : q0 < W.heap.size := by omega
    have hq2 : q2 < W.heap.size := by omega
    have hw' : w.heap.size < W.heap.size := by omega
    refine wp_region_held_drew (S := fun w' => (∀ b o, b < W.heap.size → w'.cell? ⟨b, o, none⟩ = W.cell? ⟨b, o, none⟩) ∧ W.heap.size ≤ w'.heap.size ∧ Ext W w') (by kernel_rfl) ?hS0 (fun hHeld => ?_)
    case hS0 => exact sK (Ext.drew (Ext.refl _))
    have X0 : Ext W W.drew := Ext.drew (Ext.refl W)
    refine tk1 (i := 0) (v := ?v0ay) rfl ?y0ay ?r0ay
    case y0ay => (intro w' hSw; (try dsimp only at hSw); go_simp; (try with_reducible rfl))
    try simp only [Act.put, sq1, sq2, sq3, sq4, sq5, sq6]
    refine tk1 (i := 1) (v := ?v1ay) rfl ?y1ay ?r1ay
    case y1ay => (intro w' hSw; (try dsimp only at hSw); go_simp; (try with_reducible rfl))
    try simp only [Act.put, sq1, sq2, sq3, sq4, sq5, sq6]
    refine tk1 (i := 2) (v := ?v2ay) rfl ?y2ay ?r2ay
    case y2ay => (intro w' hSw; (try dsimp only at hSw); go_simp; (try with_reducible rfl))
    try simp only [Act.put, sq1, sq2, sq3, sq4, sq5, sq6]
    refine tk1 (i := 3) (v := ?v3by) rfl ?y3by ?r3by
    case y3by => (intro w' hSw; (try dsimp only at hSw); go_simp; (try simp only [HLK.out _ (hE.trans hSw.2.2), Result.andThen_ok]); (try with_reducible rfl))
    try simp only [Act.put, sq1, sq2, sq3, sq4, sq5, sq6]
    refine tk1 (i := 4) (v := ?v4by) rfl ?y4by ?r4by
    case y4by => (intro w' hSw; (try dsimp only at hSw); go_simp; (try simp only [hd]); (try with_reducible rfl))
    try simp only [Act.put, sq1, sq2, sq3, sq4, sq5, sq6]
    refine tk1 (i := 5) (v := ?v5by) rfl ?y5by ?r5by
    case y5by => (intro w' hSw; (try dsimp only at hSw); go_simp; (try with_reducible rfl))
    try simp only [Act.put, sq1, sq2, sq3, sq4, sq5, sq6]
    refine tk1 (i := 6) (v := ?v6sy) rfl ?y6sy ?r6sy
    case y6sy => (intro w' hSw; (try dsimp only at hSw); go_simp; (try with_reducible rfl))
    try simp only [Act.put, sq1, sq2, sq3, sq4, sq5, sq6]
    refine tk1 (i := 7) (v := ?v7sy) rfl ?y7sy ?r7sy
    case y7sy => (intro w' hSw; (try dsimp only at hSw); go_simp; (try with_reducible rfl))
    try simp only [Act.put, sq1, sq2, sq3, sq4, sq5, sq6]
    refine tk1 (i := 8) (v := ?v8sy) rfl ?y8sy ?r8sy
    case y8sy => (intro w' hSw; (try dsimp only at hSw); go_simp; (try with_reducible rfl))
    try simp only [Act.put, sq1, sq2, sq3, sq4, sq5, sq6]
    refine wpAnyH_ready (rs := [9]) (by kernel_rfl) (by simp) ?_
    refine AllReadyH.cons (o := _) rfl (fun K hK => ?_) AllReadyH.nil
    go_simp
    refine Calls.mono (HH.out _ (hE.trans X0)) ?_
    rintro e w1 ⟨rfl, hE1⟩
    dsimp only
    have X1 := X0.trans hE1
    clear hHeld
    refine hK.out _ _ (sK X1) (fun hHeld => ?_)
    clear hK K
    try simp only [Act.put, sq1, sq2, sq3, sq4, sq5, sq6]
    refine tk1 (i := 10) (v := ?v10ty) rfl ?y10ty ?r10ty
    case y10ty => (intro w' hSw; (try dsimp only at hSw); go_simp; (try with_reducible rfl))
    try simp only [Act.put, sq1, sq2, sq3, sq4, sq5, sq6]
    refine wpAnyH_ready (rs := [11]) (by kernel_rfl) (by simp) ?_
    refine AllReadyH.cons (o := _) rfl (fun K hK => ?_) AllReadyH.nil
    go_simp
    refine Calls.mono (HI.out _) ?_
    rintro e w2 ⟨rfl, rfl⟩
    dsimp only
    have X2 := X1
    refine hK.out _ _ (sK X2) (fun hHeld2 => ?_)
    clear hK K
    try simp only [Act.put, sq1, sq2, sq3, sq4, sq5, sq6]
    clear hHeld
    have hHeld := hHeld2
    clear hHeld2
    refine tk1 (i := 12) (v := ?v12ty2) rfl ?y12ty2 ?r12ty2
    case y12ty2 => (intro w' hSw; (try dsimp only at hSw); go_simp; (try with_reducible rfl))
    try simp only [Act.put, sq1, sq2, sq3, sq4, sq5, sq6]
    refine tk1 (i := 13) (v := ?v13ty2) rfl ?y13ty2 ?r13ty2
    case y13ty2 => (intro w' hSw; (try dsimp only at hSw); go_simp; (try with_reducible rfl))
    try simp only [Act.put, sq1, sq2, sq3, sq4, sq5, sq6]
    refine tk1 (i := 14) (v := ?v14uy) rfl ?y14uy ?r14uy
    case y14uy => (intro w' hSw; (try dsimp only at hSw); go_simp; (try with_reducible rfl))
    try simp only [Act.put, sq1, sq2, sq3, sq4, sq5, sq6]
    refine tk1 (i := 15) (v := ?v15uy) rfl ?y15uy ?r15uy
    case y15uy => (intro w' hSw; (try dsimp only at hSw); go_simp; (try with_reducible rfl))
    try simp only [Act.put, sq1, sq2, sq3, sq4, sq5, sq6]
    refine wpAnyH_ready (rs := [16]) (by kernel_rfl) (by simp) ?_
    refine AllReadyH.cons (o := _) rfl (fun K hK => ?_) AllReadyH.nil
    go_simp
    refine Calls.mono (vJust_any _ _ _ _) ?_
    rintro e w3 ⟨rfl, hE3⟩
    dsimp only
    have X3 := X2.trans hE3
    clear hHeld
    refine hK.out _ _ (sK X3) (fun hHeld => ?_)
    clear hK K
    try simp only [Act.put, sq1, sq2, sq3, sq4, sq5, sq6]
    refine wpAnyH_ready (rs := [17]) (by kernel_rfl) (by simp) ?_
    refine AllReadyH.cons (o := _) rfl (fun K hK => ?_) AllReadyH.nil
    go_simp
    refine Calls.mono (HV.out _ (hE.trans X3)) ?_
    rintro e w4 ⟨rfl, hE4⟩
    dsimp only
    have X4 := X3.trans hE4
    clear hHeld
    refine hK.out _ _ (sK X4) (fun hHeld => ?_)
    clear hK K
    try simp only [Act.put, sq1, sq2, sq3, sq4, sq5, sq6]
    refine tk1 (i := 18) (v := ?v18vy) rfl ?y18vy ?r18vy
    case y18vy => (intro w' hSw; (try dsimp only at hSw); go_simp; (try with_reducible rfl))
    try simp only [Act.put, sq1, sq2, sq3, sq4, sq5, sq6]
    refine tk1 (i := 19) (v := ?v19vy) rfl ?y19vy ?r19vy
    case y19vy => (intro w' hSw; (try dsimp only at hSw); go_simp; (try with_reducible rfl))
    try simp only [Act.put, sq1, sq2, sq3, sq4, sq5, sq6]
    refine wpAnyH_done (by kernel_rfl) ?_ _
    have HX := hid (hE.trans X4)
    go_wp2
    go_ret
    exact ⟨ret_bool (by simp), HX.out⟩
end Go.Proofs.YtecamnhnjmldcaaGreatDoor
/- Which observations are valid: the code, the loop that counts. -/
set_option linter.unusedSimpArgs false
set_option linter.unusedVariables false
namespace Go.Proofs.YtecamnhnjmldcaaGreatDoor
open Go.RowKit
open Go.Maps
def cntK (seen : List Sg) (k : Nat) (h : Int) : Nat := (seen.take k).countP fun s => decide (s.hour = h)
theorem cntK_step (seen : List Sg) (k : Nat) (hk : k < seen.length) : (fun y => if y = (seen.getD k zeroSg).hour then cntK seen k (seen.getD k zeroSg).hour + 1 else cntK seen k y) = cntK seen (k + 1) := by
  funext y
  unfold cntK
  rw [List.take_succ_eq_append_getElem hk, List.countP_append, List.countP_singleton]
  have e : seen.getD k zeroSg = seen[k] := by simp [List.getD, List.getElem?_eq_getElem hk]
  rw [e]
  by_cases hy : y = seen[k].hour
  · subst hy
    simp
  · have : ¬ seen[k].hour = y := fun h => hy h.symm
    simp [hy, this]
theorem cntK_le (seen : List Sg) (k : Nat) (h : Int) : cntK seen k h ≤ k := by
  unfold cntK
  have h1 := List.countP_le_length (p := fun s => decide (s.hour = h)) (l := seen.take k)
  have h2 := List.length_take_le k seen
  omega
theorem sgsB_eq (n : Nat) (seen : List Sg) (k : Nat) (hl : seen.length = k) (hk : k ≤ 20) : sgsB n seen = seen.all fun s => decide (cntK seen k s.hour = 1) && (inI s.hour 0 ((n : Int) - 1) && hrB (justM s)) := by
  unfold sgsB sgB cntM cntK
  rw [hl, List.take_of_length_le (by omega)]
  simp [hk]
set_option maxHeartbeats 2000000 in
set_option maxRecDepth 100000 in
theorem vSights_any (f : List (List Hr)) (A : Option Addr) (n c : Nat) (hn : f.length = n) (hm : n ≤ 10000) (hN : hoursN f ≤ 10000) (seen : List Sg) (SA : Option Addr) (m sc : Nat) (hl : seen.length = m) (hm2 : m ≤ 1000) (hwf : ∀ s ∈ seen, (Lit.int .i64 s.hour).wf = true)
    (w : World) (hw : WidW w) (hf : ScsAt w A f) (hs : SgsAt w SA seen) :
    Calls Tryz.prog 87 #[.agg #[.slice A n c], .slice SA m sc] w fun e w' => e = .returned (.bool (sgsB (hoursN f) seen)) ∧ Ext w w' := by
  have HS := hid hs
  have HL := hid hl
  have HWF := hid hwf
  clear hs hl hwf
  have hmm := @run_makeMap Tryz.prog
  by_cases hbig : m ≤ 20
  case neg =>
    unfold sgsB
    rw [HL.out]
    go_enter Tryz.func87, Tryz.ntmps87
    go_wp2
    go_ret
    exact ⟨ret_bool (by simp [hbig]), by (repeat' (first | with_reducible assumption | with_reducible exact Ext.refl _ | with_reducible refine Ext.alloc ?_ _ | with_reducible refine Ext.set ?_ ?_ _ | with_reducible refine Ext.drew ?_ | with_reducible refine Ext.drewN ?_ _ | with_reducible refine Ext.trans ?_ (by assumption) | (dsimp only; omega)))⟩
  go_enter Tryz.func87, Tryz.ntmps87
  go_wp2
  go_loopw [14] (fun i wr => Ext w wr ∧ Hid (Blk wr w.heap.size 24 #[.slice A n c]) ∧ Hid (Blk wr (w.heap.size + 2) 178 #[.map (some (w.heap.size + 1))]) ∧ ∃ k : Nat, k ≤ m ∧ i = .int .i64 k ∧ Hid (MapC wr (w.heap.size + 1) k (cntK seen k))) (fun i _ => m - (intOf i).toNat)
  case atStart =>
    have t0 := blk_last w (.cells #[.slice A n c] 24)
    have t1 := blk_last ((w.alloc (.cells #[.slice A n c] 24)).alloc (.map #[] 0)) (.cells #[.map (some (w.heap.size + 1))] 178)
    have t2 := MapC.made (w.alloc (.cells #[.slice A n c] 24))
    rw [World.size_alloc] at t2
    rw [World.size_alloc, World.size_alloc] at t1
    exact ⟨by (repeat' (first | with_reducible assumption | with_reducible exact Ext.refl _ | with_reducible refine Ext.alloc ?_ _ | with_reducible refine Ext.set ?_ ?_ _ | with_reducible refine Ext.drew ?_ | with_reducible refine Ext.drewN ?_ _ | with_reducible refine Ext.trans ?_ (by assumption) | (dsimp only; omega))), hid (blk_old (blk_old t0 _) _), hid t1, 0, Nat.zero_le _, rfl, hid (t2.ext (ext_alloc1 _ _))⟩
  case round =>
    obtain ⟨hE, K0, K2, k, hk, rfl, HM⟩ := hrel
    have a0 := K0.out.cell 0
    have a2 := K2.out.cell 0
    simp only [List.getElem?_toArray, List.getElem?_cons_zero, List.getElem?_cons_succ] at a0 a2
    have z0 := K0.out.lt
    have z2 := K2.out.lt
    by_cases hlt : k < m
    · obtain ⟨b, off, rfl, hb, d0, d1, d2, d3⟩ := (HS.out.ext hE).at_ HL.out hlt
      have HST := hid (cntK_step seen k (by rw [HL.out]; exact hlt))
      have HW := hid (HWF.out _ (mem_at seen zeroSg k (by rw [HL.out]; exact hlt)))
      generalize seen.getD k zeroSg = s at *
      obtain ⟨hr, wi, ra, te⟩ := s
      dsimp only at *
      have HLE := hid (cntK_le seen k hr)
      go_wp2_with (first
        | (at_lookup; refine wpList_lookC _ rfl _ _ rfl (w.heap.size + 1) k (cntK seen k) rfl (HM.out.ext (ext_alloc1 _ _)) hr rfl HW.out ?_; (have hle := HLE.out))
        | (at_mapUpdate; refine wpList_putC _ rfl _ _ _ rfl (w.heap.size + 1) k (cntK seen k) rfl (HM.out.ext (ext_alloc1 _ _)) (by omega) hr rfl HW.out (cntK seen k hr + 1) (by first | rfl | (simp; done)) (by have := HLE.out; omega) ?_; intro w1 hM1 hg1))
      have HG := hid ((World.grownBy_alloc wr _ _).trans hg1)
      have G0 := hid (K0.out.grown HG.out (by simp))
      have G2 := hid (K2.out.grown HG.out (by simp))
      have GE := hid (show Ext w w1 from Below.grown hE HG.out hE.size (fun j ej => by injection ej with ej; omega))
      have GM := hid hM1
      clear hg1 hM1 HG
      go_roundw
      case rel => exact ⟨GE.out, G0, G2, k + 1, by omega, by go_num, hid (by rw [← HST.out]; exact GM.out)⟩
      case measure => simp [intOf]; omega
    · obtain rfl : k = m := by omega
      have HB := hid (sgsB_eq (hoursN f) seen k HL.out hbig)
      have HP := hid (fun (s : Sg) (hs : s ∈ seen) (W : World) (hW : Ext wr W) => vSg1_any f A n c hn hm (cntK seen k) k (w.heap.size + 1) w.heap.size (w.heap.size + 2) s (HWF.out s hs) W ((hw.ext hE).ext hW) ((hf.ext hE).ext hW) (HM.out.ext hW) (Nat.lt_of_lt_of_le z0 hW.size) (Nat.lt_of_lt_of_le z2 hW.size) ((hW.cell z0).trans a0) ((hW.cell z2).trans a2) hN)
      have HA := hid (allSg_any 133 #[.pointer (some ⟨w.heap.size + 2, 0, none⟩), .pointer (some ⟨w.heap.size, 0, none⟩)] (fun _ _ => by kernel_rfl) seen _ SA k sc HL.out (by omega) wr (HS.out.ext hE) (fun x W hW hx => HP.out x hx W hW))
      clear HP HS HM K0 K2 a0 a2 hw hf
      go_wp2_with (go_at_call 128; refine HA.out.mono ?_; rintro e w2 ⟨rfl, hE2⟩)
      go_ret
      exact ⟨ret_bool (by rw [HB.out]), hE.trans hE2⟩
theorem checkSights_any (f : List (List Hr)) (A : Option Addr) (n c : Nat) (hn : f.length = n) (hm : n ≤ 10000) (hN : hoursN f ≤ 10000) (seen : List Sg) (SA : Option Addr) (m sc : Nat) (hl : seen.length = m) (hm2 : m ≤ 1000) (hwf : ∀ s ∈ seen, (Lit.int .i64 s.hour).wf = true)
    (w : World) (hw : WidW w) (hf : ScsAt w A f) (hs : SgsAt w SA seen) :
    Calls Tryz.prog 41 #[.agg #[.slice A n c], .slice SA m sc] w fun e w' => e = .returned (.int .i64 (unlessM (sgsB (hoursN f) seen) 51)) ∧ Ext w w' := by
  have HF := hid (fun (W : World) (hW : Ext w W) => vSights_any f A n c hn hm hN seen SA m sc hl hm2 hwf W (hw.ext hW) (hf.ext hW) (hs.ext hW))
  have HU := hid (fun b (W : World) => vUnless_any b 51 W)
  clear hf hw hl hn hs hwf hN
  generalize sgsB (hoursN f) seen = B at *
  go_enter Tryz.func41, Tryz.ntmps41
  go_wp2_with (first
    | (go_at_call 87; refine (HF.out _ (by (repeat' (first | with_reducible assumption | with_reducible exact Ext.refl _ | with_reducible refine Ext.alloc ?_ _ | with_reducible refine Ext.set ?_ ?_ _ | with_reducible refine Ext.drew ?_ | with_reducible refine Ext.drewN ?_ _ | with_reducible refine Ext.trans ?_ (by assumption) | (dsimp only; omega))))).mono ?_; rintro e w2 ⟨rfl, hE⟩; (first | (have hK := KC.step (n := w.heap.size + 1) (by with_reducible assumption) hE) | (have hK := KC.step (KC.step (n := w.heap.size + 1) (by with_reducible assumption) (ext_alloc1 _ _)) hE) | (have hK := KC.step (KC.refl (n := w.heap.size + 1) (by simp)) hE)); have hC := hK.cell; have hF := hK.fro; have hX := hK.ext)
    | (go_at_call 85; refine (HU.out _ _).mono ?_; rintro e w2 ⟨rfl, rfl⟩))
  go_ret
  exact ⟨rfl, by (repeat' (first | with_reducible assumption | with_reducible exact Ext.refl _ | with_reducible refine Ext.alloc ?_ _ | with_reducible refine Ext.set ?_ ?_ _ | with_reducible refine Ext.drew ?_ | with_reducible refine Ext.drewN ?_ _ | with_reducible refine Ext.trans ?_ (by assumption) | (dsimp only; omega)))⟩
end Go.Proofs.YtecamnhnjmldcaaGreatDoor
