/- Which forecasts are valid: the code, whole forecasts. -/
import Derived.Test.YtecamnhnjmldcaaGreatDoorB02
set_option linter.unusedSimpArgs false
set_option linter.unusedVariables false
namespace Go.Proofs.YtecamnhnjmldcaaGreatDoor
open Go.RowKit
theorem all_hours (x : List Hr) (A : Option Addr) (m c : Nat) (hm : x.length = m) (hx : m ≤ 10000) (w : World) (hw : WidW w) (h : HrsAt w A x) (W : World) (hW : Ext w W) :
    Calls Tryz.prog 131 #[.slice A m c, .func (.func 132) #[] #[]] W fun e W' => e = .returned (.bool (x.all hrB)) ∧ Ext W W' :=
  allHr_any 132 #[] (fun _ _ => by kernel_rfl) x hrB A m c hm hx W (h.ext hW) (fun y W' h1 _ => vHour_any y W' ((hw.ext hW).ext h1))
set_option maxHeartbeats 1000000 in
theorem vFc1_any (q : Nat) (f : List (List Hr)) (A : Option Addr) (n c : Nat) (hn : f.length = n) (hm : n ≤ 10000) (x : List Hr) (A' : Option Addr) (c' : Nat) (hxm : x.length ≤ 10000) (w : World) (hw : WidW w) (hf : ScsAt w A f) (hx : HrsAt w A' x) (hq : q < w.heap.size)
    (c0 : w.cell? ⟨q, 0, none⟩ = some (.slice A n c)) :
    Calls Tryz.prog 130 #[.agg #[.slice A' x.length c'], .pointer (some ⟨q, 0, none⟩)] w fun e w' => e = .returned (.bool (scB (hoursN f) x)) ∧ Ext w w' := by
  have HA := hid (all_hours x A' x.length c' rfl hxm w hw hx)
  have HH := hid (fun (W : World) (hW : Ext w W) => hours_any A n c f hn W (hf.ext hW) hm)
  clear hf hx hw hn
  unfold scB
  obtain ⟨N, hN⟩ : ∃ N, hoursN f = N := ⟨_, rfl⟩
  obtain ⟨B, hB⟩ : ∃ B, x.all hrB = B := ⟨_, rfl⟩
  rw [hN] at HH ⊢
  rw [hB] at HA ⊢
  obtain ⟨m, hlen⟩ : ∃ m, x.length = m := ⟨_, rfl⟩
  rw [hlen] at HA hxm ⊢
  clear hN hB hlen
  have EX := hid (ext_alloc1 w (.cells #[.slice A' m c'] 92))
  by_cases hmn : m = N
  · subst hmn
    have hdo : ((m : Int) == (m : Int)) = true := by simp
    go_enter Tryz.func130, Tryz.ntmps130
    go_wp2_with fail
    refine wp_abs (fun W => W.cell? ⟨w.heap.size, 0, none⟩ = some (.slice A' m c') ∧ W.cell? ⟨q, 0, none⟩ = some (.slice A n c) ∧ w.heap.size + 1 ≤ W.heap.size ∧ Ext w W) ⟨by go_simp, by go_simp, by simp, by (repeat' (first | with_reducible assumption | with_reducible exact Ext.refl _ | with_reducible refine Ext.alloc ?_ _ | with_reducible refine Ext.set ?_ ?_ _ | with_reducible refine Ext.drew ?_ | with_reducible refine Ext.drewN ?_ _ | with_reducible refine Ext.trans ?_ (by assumption) | (dsimp only; omega)))⟩ ?_
    rintro W ⟨d0, k0, hz, hE⟩
    clear c0
    have hq' : q < W.heap.size := by omega
    have hw' : w.heap.size < W.heap.size := by omega
    refine wp_region_held_drew (S := fun w' => (∀ b o, b < W.heap.size → w'.cell? ⟨b, o, none⟩ = W.cell? ⟨b, o, none⟩) ∧ W.heap.size ≤ w'.heap.size ∧ Ext W w') (by kernel_rfl) ?hS0 (fun hHeld => ?_)
    case hS0 => exact sK (Ext.drew (Ext.refl _))
    have X0 : Ext W W.drew := Ext.drew (Ext.refl W)
    refine tk1 (i := 0) (v := ?v0ap) rfl ?y0ap ?r0ap
    case y0ap => (intro w' hSw; (try dsimp only at hSw); go_simp; (try with_reducible rfl))
    try simp only [Act.put, sq1, sq2, sq3, sq4, sq5, sq6]
    refine tk1 (i := 1) (v := ?v1ap) rfl ?y1ap ?r1ap
    case y1ap => (intro w' hSw; (try dsimp only at hSw); go_simp; (try with_reducible rfl))
    try simp only [Act.put, sq1, sq2, sq3, sq4, sq5, sq6]
    refine tk1 (i := 2) (v := ?v2ap) rfl ?y2ap ?r2ap
    case y2ap => (intro w' hSw; (try dsimp only at hSw); go_simp; (try with_reducible rfl))
    try simp only [Act.put, sq1, sq2, sq3, sq4, sq5, sq6]
    refine tk1 (i := 3) (v := ?v3ap) rfl ?y3ap ?r3ap
    case y3ap => (intro w' hSw; (try dsimp only at hSw); go_simp; (try with_reducible rfl))
    try simp only [Act.put, sq1, sq2, sq3, sq4, sq5, sq6]
    refine wpAnyH_ready (rs := [4]) (by kernel_rfl) (by simp) ?_
    refine AllReadyH.cons (o := _) rfl (fun K hK => ?_) AllReadyH.nil
    go_simp
    refine Calls.mono (HH.out _ (hE.trans X0)) ?_
    rintro e w1 ⟨rfl, hE1⟩
    dsimp only
    have X1 := X0.trans hE1
    clear hHeld
    refine hK.out _ _ (sK X1) (fun hHeld => ?_)
    clear hK K
    try simp only [Act.put, sq1, sq2, sq3, sq4, sq5, sq6]
    refine tk1 (i := 5) (v := ?v5bp) rfl ?y5bp ?r5bp
    case y5bp => (intro w' hSw; (try dsimp only at hSw); go_simp; (try simp only [hdo]); (try with_reducible rfl))
    try simp only [Act.put, sq1, sq2, sq3, sq4, sq5, sq6]
    refine tk1 (i := 6) (v := ?v6bp) rfl ?y6bp ?r6bp
    case y6bp => (intro w' hSw; (try dsimp only at hSw); go_simp; (try with_reducible rfl))
    try simp only [Act.put, sq1, sq2, sq3, sq4, sq5, sq6]
    refine tk1 (i := 7) (v := ?v7c) rfl ?y7c ?r7c
    case y7c => (intro w' hSw; (try dsimp only at hSw); go_simp; (try with_reducible rfl))
    try simp only [Act.put, sq1, sq2, sq3, sq4, sq5, sq6]
    refine tk1 (i := 8) (v := ?v8c) rfl ?y8c ?r8c
    case y8c => (intro w' hSw; (try dsimp only at hSw); go_simp; (try with_reducible rfl))
    try simp only [Act.put, sq1, sq2, sq3, sq4, sq5, sq6]
    refine wpAnyH_ready (rs := [9]) (by kernel_rfl) (by simp) ?_
    refine AllReadyH.cons (o := _) rfl (fun K hK => ?_) AllReadyH.nil
    go_simp
    refine Calls.mono (HA.out _ (hE.trans X1)) ?_
    rintro e w2 ⟨rfl, hE2⟩
    dsimp only
    have X2 := X1.trans hE2
    clear hHeld
    refine hK.out _ _ (sK X2) (fun hHeld => ?_)
    clear hK K
    try simp only [Act.put, sq1, sq2, sq3, sq4, sq5, sq6]
    refine tk1 (i := 10) (v := ?v10d) rfl ?y10d ?r10d
    case y10d => (intro w' hSw; (try dsimp only at hSw); go_simp; (try with_reducible rfl))
    try simp only [Act.put, sq1, sq2, sq3, sq4, sq5, sq6]
    refine tk1 (i := 11) (v := ?v11d) rfl ?y11d ?r11d
    case y11d => (intro w' hSw; (try dsimp only at hSw); go_simp; (try with_reducible rfl))
    try simp only [Act.put, sq1, sq2, sq3, sq4, sq5, sq6]
    refine wpAnyH_done (by kernel_rfl) ?_ _
    have HX := hid (hE.trans X2)
    go_wp2
    go_ret
    exact ⟨ret_bool (by simp), HX.out⟩
  · have hdo : ((m : Int) == (N : Int)) = false := by simp; omega
    go_enter Tryz.func130, Tryz.ntmps130
    go_wp2_with fail
    refine wp_abs (fun W => W.cell? ⟨w.heap.size, 0, none⟩ = some (.slice A' m c') ∧ W.cell? ⟨q, 0, none⟩ = some (.slice A n c) ∧ w.heap.size + 1 ≤ W.heap.size ∧ Ext w W) ⟨by go_simp, by go_simp, by simp, by (repeat' (first | with_reducible assumption | with_reducible exact Ext.refl _ | with_reducible refine Ext.alloc ?_ _ | with_reducible refine Ext.set ?_ ?_ _ | with_reducible refine Ext.drew ?_ | with_reducible refine Ext.drewN ?_ _ | with_reducible refine Ext.trans ?_ (by assumption) | (dsimp only; omega)))⟩ ?_
    rintro W ⟨d0, k0, hz, hE⟩
    clear c0
    have hq' : q < W.heap.size := by omega
    have hw' : w.heap.size < W.heap.size := by omega
    refine wp_region_held_drew (S := fun w' => (∀ b o, b < W.heap.size → w'.cell? ⟨b, o, none⟩ = W.cell? ⟨b, o, none⟩) ∧ W.heap.size ≤ w'.heap.size ∧ Ext W w') (by kernel_rfl) ?hS0 (fun hHeld => ?_)
    case hS0 => exact sK (Ext.drew (Ext.refl _))
    have X0 : Ext W W.drew := Ext.drew (Ext.refl W)
    refine tk1 (i := 0) (v := ?v0aq) rfl ?y0aq ?r0aq
    case y0aq => (intro w' hSw; (try dsimp only at hSw); go_simp; (try with_reducible rfl))
    try simp only [Act.put, sq1, sq2, sq3, sq4, sq5, sq6]
    refine tk1 (i := 1) (v := ?v1aq) rfl ?y1aq ?r1aq
    case y1aq => (intro w' hSw; (try dsimp only at hSw); go_simp; (try with_reducible rfl))
    try simp only [Act.put, sq1, sq2, sq3, sq4, sq5, sq6]
    refine tk1 (i := 2) (v := ?v2aq) rfl ?y2aq ?r2aq
    case y2aq => (intro w' hSw; (try dsimp only at hSw); go_simp; (try with_reducible rfl))
    try simp only [Act.put, sq1, sq2, sq3, sq4, sq5, sq6]
    refine tk1 (i := 3) (v := ?v3aq) rfl ?y3aq ?r3aq
    case y3aq => (intro w' hSw; (try dsimp only at hSw); go_simp; (try with_reducible rfl))
    try simp only [Act.put, sq1, sq2, sq3, sq4, sq5, sq6]
    refine wpAnyH_ready (rs := [4]) (by kernel_rfl) (by simp) ?_
    refine AllReadyH.cons (o := _) rfl (fun K hK => ?_) AllReadyH.nil
    go_simp
    refine Calls.mono (HH.out _ (hE.trans X0)) ?_
    rintro e w1 ⟨rfl, hE1⟩
    dsimp only
    have X1 := X0.trans hE1
    clear hHeld
    refine hK.out _ _ (sK X1) (fun hHeld => ?_)
    clear hK K
    try simp only [Act.put, sq1, sq2, sq3, sq4, sq5, sq6]
    refine tk1 (i := 5) (v := ?v5bq) rfl ?y5bq ?r5bq
    case y5bq => (intro w' hSw; (try dsimp only at hSw); go_simp; (try simp only [hdo]); (try with_reducible rfl))
    try simp only [Act.put, sq1, sq2, sq3, sq4, sq5, sq6]
    refine tk1 (i := 6) (v := ?v6bq) rfl ?y6bq ?r6bq
    case y6bq => (intro w' hSw; (try dsimp only at hSw); go_simp; (try with_reducible rfl))
    try simp only [Act.put, sq1, sq2, sq3, sq4, sq5, sq6]
    refine tku1 (i := 7) rfl ?r7e
    try simp only [Act.put, sq1, sq2, sq3, sq4, sq5, sq6]
    refine tku1 (i := 8) rfl ?r8e
    try simp only [Act.put, sq1, sq2, sq3, sq4, sq5, sq6]
    refine tku1 (i := 9) rfl ?r9e
    try simp only [Act.put, sq1, sq2, sq3, sq4, sq5, sq6]
    refine tk1 (i := 10) (v := ?v10f) rfl ?y10f ?r10f
    case y10f => (intro w' hSw; (try dsimp only at hSw); go_simp; (try with_reducible rfl))
    try simp only [Act.put, sq1, sq2, sq3, sq4, sq5, sq6]
    refine tk1 (i := 11) (v := ?v11f) rfl ?y11f ?r11f
    case y11f => (intro w' hSw; (try dsimp only at hSw); go_simp; (try with_reducible rfl))
    try simp only [Act.put, sq1, sq2, sq3, sq4, sq5, sq6]
    refine wpAnyH_done (by kernel_rfl) ?_ _
    have HX := hid (hE.trans X1)
    go_wp2
    go_ret
    exact ⟨ret_bool (by simp [hmn]), HX.out⟩
end Go.Proofs.YtecamnhnjmldcaaGreatDoor
/- Check of package weather. -/
set_option linter.unusedSimpArgs false
set_option linter.unusedVariables false
namespace Go.Proofs.YtecamnhnjmldcaaGreatDoor
open Go.RowKit
set_option maxHeartbeats 1000000 in
theorem vFc_any (f : List (List Hr)) (A : Option Addr) (n c : Nat) (hn : f.length = n) (hm : n ≤ 10000) (hl : ∀ x ∈ f, x.length ≤ 10000) (w : World) (hw : WidW w) (hf : ScsAt w A f) :
    Calls Tryz.prog 86 #[.agg #[.slice A n c]] w fun e w' => e = .returned (.bool (fcB f)) ∧ Ext w w' := by
  have HA := hid (fun (W : World) (hW : Ext w W) (hq : w.heap.size < W.heap.size) (c0 : W.cell? ⟨w.heap.size, 0, none⟩ = some (.slice A n c)) =>
    allSc_any 130 #[.pointer (some ⟨w.heap.size, 0, none⟩)] (fun _ _ => by kernel_rfl) f (scB (hoursN f)) A n c hn hm W (hf.ext hW)
      (fun x A' c' W' h1 h2 h3 h4 => vFc1_any w.heap.size f A n c hn hm x A' c' (hl x h2) W' ((hw.ext hW).ext h1) ((hf.ext hW).ext h1) h4 (Nat.lt_of_lt_of_le hq h1.size) ((h1.cell hq).trans c0)))
  have HH := hid (fun (W : World) (hW : Ext w W) => hours_any A n c f hn W (hf.ext hW) hm)
  clear hf hw hl
  unfold fcB
  rw [hn]
  clear hn
  obtain ⟨N, hN⟩ : ∃ N, hoursN f = N := ⟨_, rfl⟩
  rw [hN] at HH HA ⊢
  obtain ⟨B, hB⟩ : ∃ B, f.all (scB N) = B := ⟨_, rfl⟩
  rw [hB] at HA ⊢
  clear hN hB
  cases h1 : inI (n : Int) 1 6
  · go_enter Tryz.func86, Tryz.ntmps86
    go_wp2_with (first
      | (go_at_call 105; refine (vWithin_any _ _ _ _).mono ?_; rintro e w2 ⟨rfl, rfl⟩)
      | (go_at_call 125; refine (HH.out _ (by (repeat' (first | with_reducible assumption | with_reducible exact Ext.refl _ | with_reducible refine Ext.alloc ?_ _ | with_reducible refine Ext.set ?_ ?_ _ | with_reducible refine Ext.drew ?_ | with_reducible refine Ext.drewN ?_ _ | with_reducible refine Ext.trans ?_ (by assumption) | (dsimp only; omega))))).mono ?_; rintro e w2 ⟨rfl, hE⟩; (first | (have hK := KC.step (n := w.heap.size + 1) (by with_reducible assumption) hE) | (have hK := KC.step (KC.step (n := w.heap.size + 1) (by with_reducible assumption) (ext_alloc1 _ _)) hE) | (have hK := KC.step (KC.refl (n := w.heap.size + 1) (by simp)) hE)); have hC := hK.cell; have hF := hK.fro; have hX := hK.ext)
      | (go_at_call 91; refine (HA.out _ (by (repeat' (first | with_reducible assumption | with_reducible exact Ext.refl _ | with_reducible refine Ext.alloc ?_ _ | with_reducible refine Ext.set ?_ ?_ _ | with_reducible refine Ext.drew ?_ | with_reducible refine Ext.drewN ?_ _ | with_reducible refine Ext.trans ?_ (by assumption) | (dsimp only; omega)))) (by first | (have := hK.size; omega) | (simp; omega)) (by first | (rw [hC _ _ (by omega)]; go_simp; done) | (go_simp; done))).mono ?_; rintro e w2 ⟨rfl, hE⟩; (first | (have hK := KC.step (n := w.heap.size + 1) (by with_reducible assumption) hE) | (have hK := KC.step (KC.step (n := w.heap.size + 1) (by with_reducible assumption) (ext_alloc1 _ _)) hE) | (have hK := KC.step (KC.refl (n := w.heap.size + 1) (by simp)) hE)); have hC := hK.cell; have hF := hK.fro; have hX := hK.ext))
    go_ret
    exact ⟨ret_bool (by first | rfl | (simp; done)), by (repeat' (first | with_reducible assumption | with_reducible exact Ext.refl _ | with_reducible refine Ext.alloc ?_ _ | with_reducible refine Ext.set ?_ ?_ _ | with_reducible refine Ext.drew ?_ | with_reducible refine Ext.drewN ?_ _ | with_reducible refine Ext.trans ?_ (by assumption) | (dsimp only; omega)))⟩
  cases h2 : inI (N : Int) 1 48
  · go_enter Tryz.func86, Tryz.ntmps86
    go_wp2_with (first
      | (go_at_call 105; refine (vWithin_any _ _ _ _).mono ?_; rintro e w2 ⟨rfl, rfl⟩)
      | (go_at_call 125; refine (HH.out _ (by (repeat' (first | with_reducible assumption | with_reducible exact Ext.refl _ | with_reducible refine Ext.alloc ?_ _ | with_reducible refine Ext.set ?_ ?_ _ | with_reducible refine Ext.drew ?_ | with_reducible refine Ext.drewN ?_ _ | with_reducible refine Ext.trans ?_ (by assumption) | (dsimp only; omega))))).mono ?_; rintro e w2 ⟨rfl, hE⟩; (first | (have hK := KC.step (n := w.heap.size + 1) (by with_reducible assumption) hE) | (have hK := KC.step (KC.step (n := w.heap.size + 1) (by with_reducible assumption) (ext_alloc1 _ _)) hE) | (have hK := KC.step (KC.refl (n := w.heap.size + 1) (by simp)) hE)); have hC := hK.cell; have hF := hK.fro; have hX := hK.ext)
      | (go_at_call 91; refine (HA.out _ (by (repeat' (first | with_reducible assumption | with_reducible exact Ext.refl _ | with_reducible refine Ext.alloc ?_ _ | with_reducible refine Ext.set ?_ ?_ _ | with_reducible refine Ext.drew ?_ | with_reducible refine Ext.drewN ?_ _ | with_reducible refine Ext.trans ?_ (by assumption) | (dsimp only; omega)))) (by first | (have := hK.size; omega) | (simp; omega)) (by first | (rw [hC _ _ (by omega)]; go_simp; done) | (go_simp; done))).mono ?_; rintro e w2 ⟨rfl, hE⟩; (first | (have hK := KC.step (n := w.heap.size + 1) (by with_reducible assumption) hE) | (have hK := KC.step (KC.step (n := w.heap.size + 1) (by with_reducible assumption) (ext_alloc1 _ _)) hE) | (have hK := KC.step (KC.refl (n := w.heap.size + 1) (by simp)) hE)); have hC := hK.cell; have hF := hK.fro; have hX := hK.ext))
    go_ret
    exact ⟨ret_bool (by first | rfl | (simp; done)), by (repeat' (first | with_reducible assumption | with_reducible exact Ext.refl _ | with_reducible refine Ext.alloc ?_ _ | with_reducible refine Ext.set ?_ ?_ _ | with_reducible refine Ext.drew ?_ | with_reducible refine Ext.drewN ?_ _ | with_reducible refine Ext.trans ?_ (by assumption) | (dsimp only; omega)))⟩
  go_enter Tryz.func86, Tryz.ntmps86
  go_wp2_with (first
    | (go_at_call 105; refine (vWithin_any _ _ _ _).mono ?_; rintro e w2 ⟨rfl, rfl⟩)
    | (go_at_call 125; refine (HH.out _ (by (repeat' (first | with_reducible assumption | with_reducible exact Ext.refl _ | with_reducible refine Ext.alloc ?_ _ | with_reducible refine Ext.set ?_ ?_ _ | with_reducible refine Ext.drew ?_ | with_reducible refine Ext.drewN ?_ _ | with_reducible refine Ext.trans ?_ (by assumption) | (dsimp only; omega))))).mono ?_; rintro e w2 ⟨rfl, hE⟩; (first | (have hK := KC.step (n := w.heap.size + 1) (by with_reducible assumption) hE) | (have hK := KC.step (KC.step (n := w.heap.size + 1) (by with_reducible assumption) (ext_alloc1 _ _)) hE) | (have hK := KC.step (KC.refl (n := w.heap.size + 1) (by simp)) hE)); have hC := hK.cell; have hF := hK.fro; have hX := hK.ext)
    | (go_at_call 91; refine (HA.out _ (by (repeat' (first | with_reducible assumption | with_reducible exact Ext.refl _ | with_reducible refine Ext.alloc ?_ _ | with_reducible refine Ext.set ?_ ?_ _ | with_reducible refine Ext.drew ?_ | with_reducible refine Ext.drewN ?_ _ | with_reducible refine Ext.trans ?_ (by assumption) | (dsimp only; omega)))) (by first | (have := hK.size; omega) | (simp; omega)) (by first | (rw [hC _ _ (by omega)]; go_simp; done) | (go_simp; done))).mono ?_; rintro e w2 ⟨rfl, hE⟩; (first | (have hK := KC.step (n := w.heap.size + 1) (by with_reducible assumption) hE) | (have hK := KC.step (KC.step (n := w.heap.size + 1) (by with_reducible assumption) (ext_alloc1 _ _)) hE) | (have hK := KC.step (KC.refl (n := w.heap.size + 1) (by simp)) hE)); have hC := hK.cell; have hF := hK.fro; have hX := hK.ext))
  go_ret
  exact ⟨ret_bool (by first | rfl | (simp; done)), by (repeat' (first | with_reducible assumption | with_reducible exact Ext.refl _ | with_reducible refine Ext.alloc ?_ _ | with_reducible refine Ext.set ?_ ?_ _ | with_reducible refine Ext.drew ?_ | with_reducible refine Ext.drewN ?_ _ | with_reducible refine Ext.trans ?_ (by assumption) | (dsimp only; omega)))⟩
theorem vCheck_any (f : List (List Hr)) (A : Option Addr) (n c : Nat) (hn : f.length = n) (hm : n ≤ 10000) (hl : ∀ x ∈ f, x.length ≤ 10000) (w : World) (hw : WidW w) (hf : ScsAt w A f) :
    Calls Tryz.prog 40 #[.agg #[.slice A n c]] w fun e w' => e = .returned (.int .i64 (unlessM (fcB f) 50)) ∧ Ext w w' := by
  have HF := hid (fun (W : World) (hW : Ext w W) => vFc_any f A n c hn hm hl W (hw.ext hW) (hf.ext hW))
  have HU := hid (fun b (W : World) => vUnless_any b 50 W)
  clear hf hw hl hn
  generalize fcB f = B at *
  go_enter Tryz.func40, Tryz.ntmps40
  go_wp2_with (first
    | (go_at_call 86; refine (HF.out _ (by (repeat' (first | with_reducible assumption | with_reducible exact Ext.refl _ | with_reducible refine Ext.alloc ?_ _ | with_reducible refine Ext.set ?_ ?_ _ | with_reducible refine Ext.drew ?_ | with_reducible refine Ext.drewN ?_ _ | with_reducible refine Ext.trans ?_ (by assumption) | (dsimp only; omega))))).mono ?_; rintro e w2 ⟨rfl, hE⟩; (first | (have hK := KC.step (n := w.heap.size + 1) (by with_reducible assumption) hE) | (have hK := KC.step (KC.step (n := w.heap.size + 1) (by with_reducible assumption) (ext_alloc1 _ _)) hE) | (have hK := KC.step (KC.refl (n := w.heap.size + 1) (by simp)) hE)); have hC := hK.cell; have hF := hK.fro; have hX := hK.ext)
    | (go_at_call 85; refine (HU.out _ _).mono ?_; rintro e w2 ⟨rfl, rfl⟩))
  go_ret
  exact ⟨rfl, by (repeat' (first | with_reducible assumption | with_reducible exact Ext.refl _ | with_reducible refine Ext.alloc ?_ _ | with_reducible refine Ext.set ?_ ?_ _ | with_reducible refine Ext.drew ?_ | with_reducible refine Ext.drewN ?_ _ | with_reducible refine Ext.trans ?_ (by assumption) | (dsimp only; omega)))⟩
end Go.Proofs.YtecamnhnjmldcaaGreatDoor
/- Limits. -/
set_option linter.unusedSimpArgs false
set_option linter.unusedVariables false
namespace Go.Proofs.YtecamnhnjmldcaaGreatDoor
open Go.RowKit
set_option maxHeartbeats 1000000 in
theorem vLimits_any (l : Lm) (w : World) (hw : WidW w) : Calls Tryz.prog 88 #[l.val] w fun e w' => e = .returned (.bool (lmB l)) ∧ Ext w w' := by
  unfold lmB Lm.val
  obtain ⟨hz, d0, d1, d2, d3⟩ := hw
  have hz0 : 0 < w.heap.size := hz
  have hz1 : ¬ 0 = w.heap.size := by omega
  clear hz
  obtain ⟨wi, ra, tl, th⟩ := l
  dsimp only
  cases h1 : inI wi 0 200
  · go_enter Tryz.func88, Tryz.ntmps88
    go_wp2_with (first
      | (go_at_call 105; refine (vWithin_any _ _ _ _).mono ?_; rintro e w2 ⟨rfl, rfl⟩)
      | (go_at_call 135; refine (vPart_any _ _ _ _ _).mono ?_; rintro e w2 ⟨rfl, hE⟩; (first | (have hK := KC.step (n := w.heap.size + 1) (by with_reducible assumption) hE) | (have hK := KC.step (KC.step (n := w.heap.size + 1) (by with_reducible assumption) (ext_alloc1 _ _)) hE) | (have hK := KC.step (KC.refl (n := w.heap.size + 1) (by simp)) hE)); have hC := hK.cell; have hF := hK.fro; have hX := hK.ext))
    go_ret
    exact ⟨ret_bool (by first | rfl | (simp; done)), by (repeat' (first | with_reducible assumption | with_reducible exact Ext.refl _ | with_reducible refine Ext.alloc ?_ _ | with_reducible refine Ext.set ?_ ?_ _ | with_reducible refine Ext.drew ?_ | with_reducible refine Ext.drewN ?_ _ | with_reducible refine Ext.trans ?_ (by assumption) | (dsimp only; omega)))⟩
  cases h2 : inI ra 0 100
  · go_enter Tryz.func88, Tryz.ntmps88
    go_wp2_with (first
      | (go_at_call 105; refine (vWithin_any _ _ _ _).mono ?_; rintro e w2 ⟨rfl, rfl⟩)
      | (go_at_call 135; refine (vPart_any _ _ _ _ _).mono ?_; rintro e w2 ⟨rfl, hE⟩; (first | (have hK := KC.step (n := w.heap.size + 1) (by with_reducible assumption) hE) | (have hK := KC.step (KC.step (n := w.heap.size + 1) (by with_reducible assumption) (ext_alloc1 _ _)) hE) | (have hK := KC.step (KC.refl (n := w.heap.size + 1) (by simp)) hE)); have hC := hK.cell; have hF := hK.fro; have hX := hK.ext))
    go_ret
    exact ⟨ret_bool (by first | rfl | (simp; done)), by (repeat' (first | with_reducible assumption | with_reducible exact Ext.refl _ | with_reducible refine Ext.alloc ?_ _ | with_reducible refine Ext.set ?_ ?_ _ | with_reducible refine Ext.drew ?_ | with_reducible refine Ext.drewN ?_ _ | with_reducible refine Ext.trans ?_ (by assumption) | (dsimp only; omega)))⟩
  go_enter Tryz.func88, Tryz.ntmps88
  go_wp2_with (first
    | (go_at_call 105; refine (vWithin_any _ _ _ _).mono ?_; rintro e w2 ⟨rfl, rfl⟩)
    | (go_at_call 135; refine (vPart_any _ _ _ _ _).mono ?_; rintro e w2 ⟨rfl, hE⟩; (first | (have hK := KC.step (n := w.heap.size + 1) (by with_reducible assumption) hE) | (have hK := KC.step (KC.step (n := w.heap.size + 1) (by with_reducible assumption) (ext_alloc1 _ _)) hE) | (have hK := KC.step (KC.refl (n := w.heap.size + 1) (by simp)) hE)); have hC := hK.cell; have hF := hK.fro; have hX := hK.ext))
  go_ret
  exact ⟨ret_bool (by first | rfl | (simp; done)), by (repeat' (first | with_reducible assumption | with_reducible exact Ext.refl _ | with_reducible refine Ext.alloc ?_ _ | with_reducible refine Ext.set ?_ ?_ _ | with_reducible refine Ext.drew ?_ | with_reducible refine Ext.drewN ?_ _ | with_reducible refine Ext.trans ?_ (by assumption) | (dsimp only; omega)))⟩
theorem checkLimits_any (l : Lm) (w : World) (hw : WidW w) : Calls Tryz.prog 42 #[l.val] w fun e w' => e = .returned (.int .i64 (unlessM (lmB l) 52)) ∧ Ext w w' := by
  have HF := hid (fun (W : World) (hW : Ext w W) => vLimits_any l W (hw.ext hW))
  have HU := hid (fun b (W : World) => vUnless_any b 52 W)
  clear hw
  generalize lmB l = B at *
  unfold Lm.val at *
  go_enter Tryz.func42, Tryz.ntmps42
  go_wp2_with (first
    | (go_at_call 88; refine (HF.out _ (by (repeat' (first | with_reducible assumption | with_reducible exact Ext.refl _ | with_reducible refine Ext.alloc ?_ _ | with_reducible refine Ext.set ?_ ?_ _ | with_reducible refine Ext.drew ?_ | with_reducible refine Ext.drewN ?_ _ | with_reducible refine Ext.trans ?_ (by assumption) | (dsimp only; omega))))).mono ?_; rintro e w2 ⟨rfl, hE⟩; (first | (have hK := KC.step (n := w.heap.size + 1) (by with_reducible assumption) hE) | (have hK := KC.step (KC.step (n := w.heap.size + 1) (by with_reducible assumption) (ext_alloc1 _ _)) hE) | (have hK := KC.step (KC.refl (n := w.heap.size + 1) (by simp)) hE)); have hC := hK.cell; have hF := hK.fro; have hX := hK.ext)
    | (go_at_call 85; refine (HU.out _ _).mono ?_; rintro e w2 ⟨rfl, rfl⟩))
  go_ret
  exact ⟨rfl, by (repeat' (first | with_reducible assumption | with_reducible exact Ext.refl _ | with_reducible refine Ext.alloc ?_ _ | with_reducible refine Ext.set ?_ ?_ _ | with_reducible refine Ext.drew ?_ | with_reducible refine Ext.drewN ?_ _ | with_reducible refine Ext.trans ?_ (by assumption) | (dsimp only; omega)))⟩
set_option maxHeartbeats 1000000 in
theorem surely_any (l : Lm) (h : Hr) (w : World) : Calls Tryz.prog 94 #[l.val, h.val] w fun e w' => e = .returned (.bool (surB l h)) ∧ Ext w w' := by
  unfold surB Lm.val Hr.val
  obtain ⟨wi, ra, tl, th⟩ := l
  obtain ⟨wl, wh, rl, rh, hl, hh⟩ := h
  dsimp only
  by_cases h1 : wh ≤ wi
  case neg => go_enter Tryz.func94, Tryz.ntmps94
              go_wp2_with (go_at_call 135; refine (vPart_any _ _ _ _ _).mono ?_; rintro e w2 ⟨rfl, hE⟩; (first | (have hK := KC.step (n := w.heap.size + 2) (by with_reducible assumption) hE) | (have hK := KC.step (KC.step (n := w.heap.size + 2) (by with_reducible assumption) (ext_alloc1 _ _)) hE) | (have hK := KC.step (KC.refl (n := w.heap.size + 2) (by simp)) hE)); have hC := hK.cell; have hF := hK.fro; have hX := hK.ext)
              go_ret
              exact ⟨ret_bool (by simp [*] <;> omega), by (repeat' (first | with_reducible assumption | with_reducible exact Ext.refl _ | with_reducible refine Ext.alloc ?_ _ | with_reducible refine Ext.set ?_ ?_ _ | with_reducible refine Ext.drew ?_ | with_reducible refine Ext.drewN ?_ _ | with_reducible refine Ext.trans ?_ (by assumption) | (dsimp only; omega)))⟩
  by_cases h2 : rh ≤ ra
  case neg => go_enter Tryz.func94, Tryz.ntmps94
              go_wp2_with (go_at_call 135; refine (vPart_any _ _ _ _ _).mono ?_; rintro e w2 ⟨rfl, hE⟩; (first | (have hK := KC.step (n := w.heap.size + 2) (by with_reducible assumption) hE) | (have hK := KC.step (KC.step (n := w.heap.size + 2) (by with_reducible assumption) (ext_alloc1 _ _)) hE) | (have hK := KC.step (KC.refl (n := w.heap.size + 2) (by simp)) hE)); have hC := hK.cell; have hF := hK.fro; have hX := hK.ext)
              go_ret
              exact ⟨ret_bool (by simp [*] <;> omega), by (repeat' (first | with_reducible assumption | with_reducible exact Ext.refl _ | with_reducible refine Ext.alloc ?_ _ | with_reducible refine Ext.set ?_ ?_ _ | with_reducible refine Ext.drew ?_ | with_reducible refine Ext.drewN ?_ _ | with_reducible refine Ext.trans ?_ (by assumption) | (dsimp only; omega)))⟩
  go_enter Tryz.func94, Tryz.ntmps94
  go_wp2_with (go_at_call 135; refine (vPart_any _ _ _ _ _).mono ?_; rintro e w2 ⟨rfl, hE⟩; (first | (have hK := KC.step (n := w.heap.size + 2) (by with_reducible assumption) hE) | (have hK := KC.step (KC.step (n := w.heap.size + 2) (by with_reducible assumption) (ext_alloc1 _ _)) hE) | (have hK := KC.step (KC.refl (n := w.heap.size + 2) (by simp)) hE)); have hC := hK.cell; have hF := hK.fro; have hX := hK.ext)
  go_ret
  exact ⟨ret_bool (by simp [*] <;> omega), by (repeat' (first | with_reducible assumption | with_reducible exact Ext.refl _ | with_reducible refine Ext.alloc ?_ _ | with_reducible refine Ext.set ?_ ?_ _ | with_reducible refine Ext.drew ?_ | with_reducible refine Ext.drewN ?_ _ | with_reducible refine Ext.trans ?_ (by assumption) | (dsimp only; omega)))⟩
set_option maxHeartbeats 1000000 in
theorem maybe_any (l : Lm) (h : Hr) (w : World) : Calls Tryz.prog 98 #[l.val, h.val] w fun e w' => e = .returned (.bool (mayB l h)) ∧ Ext w w' := by
  unfold mayB Lm.val Hr.val
  obtain ⟨wi, ra, tl, th⟩ := l
  obtain ⟨wl, wh, rl, rh, hl, hh⟩ := h
  dsimp only
  by_cases h1 : wl ≤ wi
  case neg => go_enter Tryz.func98, Tryz.ntmps98
              go_wp2
              go_ret
              exact ⟨ret_bool (by simp [*] <;> omega), by (repeat' (first | with_reducible assumption | with_reducible exact Ext.refl _ | with_reducible refine Ext.alloc ?_ _ | with_reducible refine Ext.set ?_ ?_ _ | with_reducible refine Ext.drew ?_ | with_reducible refine Ext.drewN ?_ _ | with_reducible refine Ext.trans ?_ (by assumption) | (dsimp only; omega)))⟩
  by_cases h2 : rl ≤ ra
  case neg => go_enter Tryz.func98, Tryz.ntmps98
              go_wp2
              go_ret
              exact ⟨ret_bool (by simp [*] <;> omega), by (repeat' (first | with_reducible assumption | with_reducible exact Ext.refl _ | with_reducible refine Ext.alloc ?_ _ | with_reducible refine Ext.set ?_ ?_ _ | with_reducible refine Ext.drew ?_ | with_reducible refine Ext.drewN ?_ _ | with_reducible refine Ext.trans ?_ (by assumption) | (dsimp only; omega)))⟩
  go_enter Tryz.func98, Tryz.ntmps98
  go_wp2
  all_goals (go_ret; exact ⟨ret_bool (by simp [h1, h2] <;> omega), by (repeat' (first | with_reducible assumption | with_reducible exact Ext.refl _ | with_reducible refine Ext.alloc ?_ _ | with_reducible refine Ext.set ?_ ?_ _ | with_reducible refine Ext.drew ?_ | with_reducible refine Ext.drewN ?_ _ | with_reducible refine Ext.trans ?_ (by assumption) | (dsimp only; omega)))⟩)
set_option maxHeartbeats 1000000 in
theorem and_any (l o : Lm) (w : World) : Calls Tryz.prog 151 #[l.val, o.val] w fun e w' => e = .returned (andL l o).val ∧ Ext w w' := by
  unfold andL Lm.val
  obtain ⟨wi, ra, tl, th⟩ := l
  obtain ⟨wj, rb, ul, uh⟩ := o
  dsimp only
  obtain ⟨a1, h1⟩ : ∃ a, min wi wj = a := ⟨_, rfl⟩
  obtain ⟨a2, h2⟩ : ∃ a, min ra rb = a := ⟨_, rfl⟩
  obtain ⟨a3, h3⟩ : ∃ a, max tl ul = a := ⟨_, rfl⟩
  obtain ⟨a4, h4⟩ : ∃ a, min th uh = a := ⟨_, rfl⟩
  rw [h1, h2, h3, h4]
  have g1 : (if wj < wi then wj else wi) = a1 := by rw [← h1]; omega
  have g2 : (if rb < ra then rb else ra) = a2 := by rw [← h2]; omega
  have g3 : (if tl < ul then ul else tl) = a3 := by rw [← h3]; omega
  have g4 : (if uh < th then uh else th) = a4 := by rw [← h4]; omega
  go_enter Tryz.func151, Tryz.ntmps151
  go_wp2
  exact bodyPost_ret (v := .agg #[.int .i64 a1, .int .i64 a2, .int .i64 a3, .int .i64 a4]) (by simp [results, Tryz.results151, go_sem]) rfl ⟨rfl, by (repeat' (first | with_reducible assumption | with_reducible exact Ext.refl _ | with_reducible refine Ext.alloc ?_ _ | with_reducible refine Ext.set ?_ ?_ _ | with_reducible refine Ext.drew ?_ | with_reducible refine Ext.drewN ?_ _ | with_reducible refine Ext.trans ?_ (by assumption) | (dsimp only; omega)))⟩
end Go.Proofs.YtecamnhnjmldcaaGreatDoor
