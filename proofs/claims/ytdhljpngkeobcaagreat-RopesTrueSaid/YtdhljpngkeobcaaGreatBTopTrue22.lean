/- The law RopesTrue returns true. -/
import Derived.Test.YtdhljpngkeobcaaGreatBTopTrue21
import Derived.Test.YtdhljpngkeobcaaGreatB16
import Derived.Test.YtdhljpngkeobcaaGreatB19
set_option linter.unusedSimpArgs false
set_option linter.unusedVariables false
namespace Go.Proofs.YtdhljpngkeobcaaGreat
open Go.RowKit
theorem true_facts {m : Md} {r : Ro} {D : Int} {hs os : List Int} (h0 : dayE m r D = 0) (hb : (harmedV m r D hs os).2 = true) :
    (dmgV m r D).1 ≤ (harmedV m r D hs os).1 ∧ (harmedV m r D hs os).1 ≤ (dmgV m r D).2 ∧
    ((fitV m r D).1 = true → fitB m r D (harmedV m r D hs os).1 = true) ∧ (fitB m r D (harmedV m r D hs os).1 = true → (fitV m r D).2 = true) := by
  obtain ⟨hm, hr⟩ := dayE_ok h0
  have hv : dmgV m r D = dmgL m.wears D r.falls := by unfold dmgV; rw [if_pos h0]
  have hf : fitV m r D = (fitB m r D (dmgL m.wears D r.falls).2, fitB m r D (dmgL m.wears D r.falls).1) := by unfold fitV; rw [if_pos h0]
  have ht : trueB r.falls hs os = true := by
    apply Classical.byContradiction
    intro hn
    unfold harmedV at hb
    rw [if_neg hn] at hb
    cases hb
  have hd := true_dmg hm hr D hs os ht
  have hN : (harmedV m r D hs os).1 = trueN m.wears D r.falls hs os := by unfold harmedV; rw [if_pos ht]
  rw [hv, hf, hN]
  refine ⟨hd.1, hd.2, fun h => ?_, fun h => ?_⟩
  · unfold fitB at *
    simp only [Bool.and_eq_true, decide_eq_true_eq] at *
    exact ⟨h.1, by omega⟩
  · unfold fitB at *
    simp only [Bool.and_eq_true, decide_eq_true_eq] at *
    exact ⟨h.1, by omega⟩
set_option maxRecDepth 100000 in
set_option maxHeartbeats 8000000 in
theorem ropesTrue_any (m : Md) (r : Ro) (A : Option Addr) (c : Nat) (B : Option Addr) (d : Nat) (hs os : List Int) (HA OA : Option Addr) (hn on hc oc : Nat) (D : Int) (hhn : hs.length = hn) (hon : os.length = on)
    (w : World) (hx : WrsAt w A m.wears) (hy : FlsAt w B r.falls) (hh : IntsAt w HA hs) (ho : IntsAt w OA os) :
    Calls Tryz.prog 7 #[m.val A c, r.val B d, .agg #[.int .i64 D, .slice HA hn hc, .slice OA on oc]] w fun e w' => e = .returned (.bool true) ∧ Ext w w' := by
  have HWK := hid (fun W => works_any W)
  have HFR := hid (fun W => farRope_any m r A c B d W)
  have HCD := hid (fun (a : m.wears.length ≤ 1000) (b : r.falls.length ≤ 1000) (W : World) (hE : Ext w W) => rCheckDay_any m r A c B d D a b W (hx.ext hE) (hy.ext hE))
  have HDM := hid (fun (a : m.wears.length ≤ 1000) (b : r.falls.length ≤ 1000) (W : World) (hE : Ext w W) => pdamage_any m r A c B d D a b W (hx.ext hE) (hy.ext hE))
  have HPF := hid (fun (a : m.wears.length ≤ 1000) (b : r.falls.length ≤ 1000) (W : World) (hE : Ext w W) => pfit_any m r A c B d D a b W (hx.ext hE) (hy.ext hE))
  have HHM := hid (fun (a : mdB m = true) (b : roB r = true) (p : hn ≤ 1000) (q : on ≤ 1000) (W : World) (hE : Ext w W) => harmed_any m r A c B d hs os HA OA hn on hc oc D a b hhn hon p q W (hx.ext hE) (hy.ext hE) (hh.ext hE) (ho.ext hE))
  have HIF := hid (fun (x : Int) (a : mdB m = true) (b : roB r = true) (W : World) => rIsFit_any m r A c B d D x a b W)
  have HOK := hid (fun (h : dayE m r D = 0) => dayE_ok h)
  have HTF := hid (fun (h : dayE m r D = 0) => true_facts (hs := hs) (os := os) h)
  clear hx hy hh ho hhn hon
  generalize dayE m r D = E at *
  generalize dmgV m r D = V at *
  generalize fitV m r D = F at *
  generalize harmedV m r D hs os = H at *
  have HIF2 := hid (fun a b W => HIF.out H.1 a b W)
  clear HIF
  generalize fitB m r D H.1 = fb at *
  generalize mdB m = mb at *
  generalize roB r = rb at *
  unfold Md.val Ro.val at *
  obtain ⟨sh, us, be, ws⟩ := m
  obtain ⟨ma, fi, le, fs⟩ := r
  dsimp only at *
  generalize ws.length = nw at *
  generalize fs.length = nf at *
  obtain ⟨fr, hfr⟩ : ∃ b, (decide (8 < nw) || decide (12 < nf)) = b := ⟨_, rfl⟩
  rw [hfr] at HFR
  cases fr
  case true =>
    clear HCD HDM HPF HHM HIF2 HOK HTF hfr
    go_enter Tryz.func7, Tryz.ntmps7
    go_wp2_with (first
      | (go_at_call 13; refine (HFR.out _).mono ?_; rintro e w2 ⟨rfl, hE⟩; (first | (have hK := KC.step (n := w.heap.size + 3) (by with_reducible assumption) hE) | (have hK := KC.step (KC.step (n := w.heap.size + 3) (by with_reducible assumption) (ext_alloc1 _ _)) hE) | (have hK := KC.step (KC.refl (n := w.heap.size + 3) (by simp)) hE)); have hC := hK.cell; have hF := hK.fro; have hX := hK.ext)
      | (go_at_call 14; refine (HWK.out _).mono ?_; rintro e w2 ⟨rfl, hE⟩; (first | (have hK := KC.step (n := w.heap.size + 3) (by with_reducible assumption) hE) | (have hK := KC.step (KC.step (n := w.heap.size + 3) (by with_reducible assumption) (ext_alloc1 _ _)) hE) | (have hK := KC.step (KC.refl (n := w.heap.size + 3) (by simp)) hE)); have hC := hK.cell; have hF := hK.fro; have hX := hK.ext))
    go_ret
    exact ⟨rfl, by (repeat' (first | with_reducible assumption | with_reducible exact Ext.refl _ | with_reducible refine Ext.alloc ?_ _ | with_reducible refine Ext.set ?_ ?_ _ | with_reducible refine Ext.drew ?_ | with_reducible refine Ext.drewN ?_ _ | with_reducible refine Ext.trans ?_ (by assumption) | (dsimp only; omega)))⟩
  simp only [Bool.or_eq_false_iff, decide_eq_false_iff_not] at hfr
  replace HCD := hid (HCD.out (by omega) (by omega))
  replace HDM := hid (HDM.out (by omega) (by omega))
  replace HPF := hid (HPF.out (by omega) (by omega))
  clear hfr
  by_cases h0 : E = 0
  case neg =>
    have hne : (E != 0) = true := by simp [h0]
    clear HDM HPF HHM HIF2 HOK HTF
    go_enter Tryz.func7, Tryz.ntmps7
    go_wp2_with (first
      | (go_at_call 13; refine (HFR.out _).mono ?_; rintro e w2 ⟨rfl, hE⟩; (first | (have hK := KC.step (n := w.heap.size + 3) (by with_reducible assumption) hE) | (have hK := KC.step (KC.step (n := w.heap.size + 3) (by with_reducible assumption) (ext_alloc1 _ _)) hE) | (have hK := KC.step (KC.refl (n := w.heap.size + 3) (by simp)) hE)); have hC := hK.cell; have hF := hK.fro; have hX := hK.ext)
      | (go_at_call 42; refine (HCD.out _ (by (repeat' (first | with_reducible assumption | with_reducible exact Ext.refl _ | with_reducible refine Ext.alloc ?_ _ | with_reducible refine Ext.set ?_ ?_ _ | with_reducible refine Ext.drew ?_ | with_reducible refine Ext.drewN ?_ _ | with_reducible refine Ext.trans ?_ (by assumption) | (dsimp only; omega))))).mono ?_; rintro e w2 ⟨rfl, hE⟩; (first | (have hK := KC.step (n := w.heap.size + 3) (by with_reducible assumption) hE) | (have hK := KC.step (KC.step (n := w.heap.size + 3) (by with_reducible assumption) (ext_alloc1 _ _)) hE) | (have hK := KC.step (KC.refl (n := w.heap.size + 3) (by simp)) hE)); have hC := hK.cell; have hF := hK.fro; have hX := hK.ext)
      | (go_at_call 14; refine (HWK.out _).mono ?_; rintro e w2 ⟨rfl, hE⟩; (first | (have hK := KC.step (n := w.heap.size + 3) (by with_reducible assumption) hE) | (have hK := KC.step (KC.step (n := w.heap.size + 3) (by with_reducible assumption) (ext_alloc1 _ _)) hE) | (have hK := KC.step (KC.refl (n := w.heap.size + 3) (by simp)) hE)); have hC := hK.cell; have hF := hK.fro; have hX := hK.ext))
    go_ret
    exact ⟨rfl, by (repeat' (first | with_reducible assumption | with_reducible exact Ext.refl _ | with_reducible refine Ext.alloc ?_ _ | with_reducible refine Ext.set ?_ ?_ _ | with_reducible refine Ext.drew ?_ | with_reducible refine Ext.drewN ?_ _ | with_reducible refine Ext.trans ?_ (by assumption) | (dsimp only; omega)))⟩
  subst h0
  obtain ⟨rfl, rfl⟩ := HOK.out rfl
  clear HOK
  by_cases h1 : 60 < hn
  · have h1i : (60 : Int) < (hn : Int) := by omega
    clear HDM HPF HHM HIF2 HTF
    go_enter Tryz.func7, Tryz.ntmps7
    go_wp2_with (first
      | (go_at_call 13; refine (HFR.out _).mono ?_; rintro e w2 ⟨rfl, hE⟩; (first | (have hK := KC.step (n := w.heap.size + 3) (by with_reducible assumption) hE) | (have hK := KC.step (KC.step (n := w.heap.size + 3) (by with_reducible assumption) (ext_alloc1 _ _)) hE) | (have hK := KC.step (KC.refl (n := w.heap.size + 3) (by simp)) hE)); have hC := hK.cell; have hF := hK.fro; have hX := hK.ext)
      | (go_at_call 42; refine (HCD.out _ (by (repeat' (first | with_reducible assumption | with_reducible exact Ext.refl _ | with_reducible refine Ext.alloc ?_ _ | with_reducible refine Ext.set ?_ ?_ _ | with_reducible refine Ext.drew ?_ | with_reducible refine Ext.drewN ?_ _ | with_reducible refine Ext.trans ?_ (by assumption) | (dsimp only; omega))))).mono ?_; rintro e w2 ⟨rfl, hE⟩; (first | (have hK := KC.step (n := w.heap.size + 3) (by with_reducible assumption) hE) | (have hK := KC.step (KC.step (n := w.heap.size + 3) (by with_reducible assumption) (ext_alloc1 _ _)) hE) | (have hK := KC.step (KC.refl (n := w.heap.size + 3) (by simp)) hE)); have hC := hK.cell; have hF := hK.fro; have hX := hK.ext)
      | (go_at_call 14; refine (HWK.out _).mono ?_; rintro e w2 ⟨rfl, hE⟩; (first | (have hK := KC.step (n := w.heap.size + 3) (by with_reducible assumption) hE) | (have hK := KC.step (KC.step (n := w.heap.size + 3) (by with_reducible assumption) (ext_alloc1 _ _)) hE) | (have hK := KC.step (KC.refl (n := w.heap.size + 3) (by simp)) hE)); have hC := hK.cell; have hF := hK.fro; have hX := hK.ext))
    go_ret
    exact ⟨rfl, by (repeat' (first | with_reducible assumption | with_reducible exact Ext.refl _ | with_reducible refine Ext.alloc ?_ _ | with_reducible refine Ext.set ?_ ?_ _ | with_reducible refine Ext.drew ?_ | with_reducible refine Ext.drewN ?_ _ | with_reducible refine Ext.trans ?_ (by assumption) | (dsimp only; omega)))⟩
  have h1i : ¬ (60 : Int) < (hn : Int) := by omega
  by_cases h2 : 60 < on
  · have h2i : (60 : Int) < (on : Int) := by omega
    clear HDM HPF HHM HIF2 HTF
    go_enter Tryz.func7, Tryz.ntmps7
    go_wp2_with (first
      | (go_at_call 13; refine (HFR.out _).mono ?_; rintro e w2 ⟨rfl, hE⟩; (first | (have hK := KC.step (n := w.heap.size + 3) (by with_reducible assumption) hE) | (have hK := KC.step (KC.step (n := w.heap.size + 3) (by with_reducible assumption) (ext_alloc1 _ _)) hE) | (have hK := KC.step (KC.refl (n := w.heap.size + 3) (by simp)) hE)); have hC := hK.cell; have hF := hK.fro; have hX := hK.ext)
      | (go_at_call 42; refine (HCD.out _ (by (repeat' (first | with_reducible assumption | with_reducible exact Ext.refl _ | with_reducible refine Ext.alloc ?_ _ | with_reducible refine Ext.set ?_ ?_ _ | with_reducible refine Ext.drew ?_ | with_reducible refine Ext.drewN ?_ _ | with_reducible refine Ext.trans ?_ (by assumption) | (dsimp only; omega))))).mono ?_; rintro e w2 ⟨rfl, hE⟩; (first | (have hK := KC.step (n := w.heap.size + 3) (by with_reducible assumption) hE) | (have hK := KC.step (KC.step (n := w.heap.size + 3) (by with_reducible assumption) (ext_alloc1 _ _)) hE) | (have hK := KC.step (KC.refl (n := w.heap.size + 3) (by simp)) hE)); have hC := hK.cell; have hF := hK.fro; have hX := hK.ext)
      | (go_at_call 14; refine (HWK.out _).mono ?_; rintro e w2 ⟨rfl, hE⟩; (first | (have hK := KC.step (n := w.heap.size + 3) (by with_reducible assumption) hE) | (have hK := KC.step (KC.step (n := w.heap.size + 3) (by with_reducible assumption) (ext_alloc1 _ _)) hE) | (have hK := KC.step (KC.refl (n := w.heap.size + 3) (by simp)) hE)); have hC := hK.cell; have hF := hK.fro; have hX := hK.ext))
    go_ret
    exact ⟨rfl, by (repeat' (first | with_reducible assumption | with_reducible exact Ext.refl _ | with_reducible refine Ext.alloc ?_ _ | with_reducible refine Ext.set ?_ ?_ _ | with_reducible refine Ext.drew ?_ | with_reducible refine Ext.drewN ?_ _ | with_reducible refine Ext.trans ?_ (by assumption) | (dsimp only; omega)))⟩
  have h2i : ¬ (60 : Int) < (on : Int) := by omega
  replace HHM := hid (HHM.out rfl rfl (by omega) (by omega))
  replace HIF2 := hid (HIF2.out rfl rfl)
  replace HTF := hid (HTF.out rfl)
  clear h1 h2
  obtain ⟨N, hb⟩ := H
  dsimp only at *
  cases hb
  case false =>
    clear HDM HPF HIF2 HTF
    go_enter Tryz.func7, Tryz.ntmps7
    go_wp2_with (first
      | (go_at_call 13; refine (HFR.out _).mono ?_; rintro e w2 ⟨rfl, hE⟩; (first | (have hK := KC.step (n := w.heap.size + 3) (by with_reducible assumption) hE) | (have hK := KC.step (KC.step (n := w.heap.size + 3) (by with_reducible assumption) (ext_alloc1 _ _)) hE) | (have hK := KC.step (KC.refl (n := w.heap.size + 3) (by simp)) hE)); have hC := hK.cell; have hF := hK.fro; have hX := hK.ext)
      | (go_at_call 42; refine (HCD.out _ (by (repeat' (first | with_reducible assumption | with_reducible exact Ext.refl _ | with_reducible refine Ext.alloc ?_ _ | with_reducible refine Ext.set ?_ ?_ _ | with_reducible refine Ext.drew ?_ | with_reducible refine Ext.drewN ?_ _ | with_reducible refine Ext.trans ?_ (by assumption) | (dsimp only; omega))))).mono ?_; rintro e w2 ⟨rfl, hE⟩; (first | (have hK := KC.step (n := w.heap.size + 3) (by with_reducible assumption) hE) | (have hK := KC.step (KC.step (n := w.heap.size + 3) (by with_reducible assumption) (ext_alloc1 _ _)) hE) | (have hK := KC.step (KC.refl (n := w.heap.size + 3) (by simp)) hE)); have hC := hK.cell; have hF := hK.fro; have hX := hK.ext)
      | (go_at_call 43; refine (HHM.out _ (by (repeat' (first | with_reducible assumption | with_reducible exact Ext.refl _ | with_reducible refine Ext.alloc ?_ _ | with_reducible refine Ext.set ?_ ?_ _ | with_reducible refine Ext.drew ?_ | with_reducible refine Ext.drewN ?_ _ | with_reducible refine Ext.trans ?_ (by assumption) | (dsimp only; omega))))).mono ?_; rintro e w2 ⟨rfl, hE⟩; (first | (have hK := KC.step (n := w.heap.size + 3) (by with_reducible assumption) hE) | (have hK := KC.step (KC.step (n := w.heap.size + 3) (by with_reducible assumption) (ext_alloc1 _ _)) hE) | (have hK := KC.step (KC.refl (n := w.heap.size + 3) (by simp)) hE)); have hC := hK.cell; have hF := hK.fro; have hX := hK.ext)
      | (go_at_call 14; refine (HWK.out _).mono ?_; rintro e w2 ⟨rfl, hE⟩; (first | (have hK := KC.step (n := w.heap.size + 3) (by with_reducible assumption) hE) | (have hK := KC.step (KC.step (n := w.heap.size + 3) (by with_reducible assumption) (ext_alloc1 _ _)) hE) | (have hK := KC.step (KC.refl (n := w.heap.size + 3) (by simp)) hE)); have hC := hK.cell; have hF := hK.fro; have hX := hK.ext))
    go_ret
    exact ⟨rfl, by (repeat' (first | with_reducible assumption | with_reducible exact Ext.refl _ | with_reducible refine Ext.alloc ?_ _ | with_reducible refine Ext.set ?_ ?_ _ | with_reducible refine Ext.drew ?_ | with_reducible refine Ext.drewN ?_ _ | with_reducible refine Ext.trans ?_ (by assumption) | (dsimp only; omega)))⟩
  obtain ⟨t1, t2, t3, t4⟩ := HTF.out rfl
  obtain ⟨V1, V2⟩ := V
  obtain ⟨F1, F2⟩ := F
  dsimp only at *
  clear HTF
  have hFF : (F1 = false ∨ fb = true) ∧ (F2 = true ∨ fb = false) := by
    constructor
    · cases F1
      · exact .inl rfl
      · exact .inr (t3 rfl)
    · cases fb
      · exact .inr rfl
      · exact .inl (t4 rfl)
  clear t3 t4
  have HFF := hid hFF
  clear hFF
  cases F1 <;> cases fb <;> cases F2 <;> first
    | (exfalso; have := HFF.out; simp at this; done)
    | (clear HFF
       go_enter Tryz.func7, Tryz.ntmps7
       go_wp2_with (first
         | (go_at_call 13; refine (HFR.out _).mono ?_; rintro e w2 ⟨rfl, hE⟩; (first | (have hK := KC.step (n := w.heap.size + 3) (by with_reducible assumption) hE) | (have hK := KC.step (KC.step (n := w.heap.size + 3) (by with_reducible assumption) (ext_alloc1 _ _)) hE) | (have hK := KC.step (KC.refl (n := w.heap.size + 3) (by simp)) hE)); have hC := hK.cell; have hF := hK.fro; have hX := hK.ext)
         | (go_at_call 42; refine (HCD.out _ (by (repeat' (first | with_reducible assumption | with_reducible exact Ext.refl _ | with_reducible refine Ext.alloc ?_ _ | with_reducible refine Ext.set ?_ ?_ _ | with_reducible refine Ext.drew ?_ | with_reducible refine Ext.drewN ?_ _ | with_reducible refine Ext.trans ?_ (by assumption) | (dsimp only; omega))))).mono ?_; rintro e w2 ⟨rfl, hE⟩; (first | (have hK := KC.step (n := w.heap.size + 3) (by with_reducible assumption) hE) | (have hK := KC.step (KC.step (n := w.heap.size + 3) (by with_reducible assumption) (ext_alloc1 _ _)) hE) | (have hK := KC.step (KC.refl (n := w.heap.size + 3) (by simp)) hE)); have hC := hK.cell; have hF := hK.fro; have hX := hK.ext)
         | (go_at_call 43; refine (HHM.out _ (by (repeat' (first | with_reducible assumption | with_reducible exact Ext.refl _ | with_reducible refine Ext.alloc ?_ _ | with_reducible refine Ext.set ?_ ?_ _ | with_reducible refine Ext.drew ?_ | with_reducible refine Ext.drewN ?_ _ | with_reducible refine Ext.trans ?_ (by assumption) | (dsimp only; omega))))).mono ?_; rintro e w2 ⟨rfl, hE⟩; (first | (have hK := KC.step (n := w.heap.size + 3) (by with_reducible assumption) hE) | (have hK := KC.step (KC.step (n := w.heap.size + 3) (by with_reducible assumption) (ext_alloc1 _ _)) hE) | (have hK := KC.step (KC.refl (n := w.heap.size + 3) (by simp)) hE)); have hC := hK.cell; have hF := hK.fro; have hX := hK.ext))
       refine Calls.mono (HDM.out _ (by (repeat' (first | with_reducible assumption | with_reducible exact Ext.refl _ | with_reducible refine Ext.alloc ?_ _ | with_reducible refine Ext.set ?_ ?_ _ | with_reducible refine Ext.drew ?_ | with_reducible refine Ext.drewN ?_ _ | with_reducible refine Ext.trans ?_ (by assumption) | (dsimp only; omega))))) ?_
       rintro e w5 ⟨rfl, hE⟩
       (first | (have hK := KC.step (n := w.heap.size + 3) (by with_reducible assumption) hE) | (have hK := KC.step (KC.step (n := w.heap.size + 3) (by with_reducible assumption) (ext_alloc1 _ _)) hE) | (have hK := KC.step (KC.refl (n := w.heap.size + 3) (by simp)) hE)); have hC := hK.cell; have hF := hK.fro; have hX := hK.ext
       have z0 : w.heap.size < w5.heap.size := by have := hK.size; omega
       have z1 : w.heap.size + 1 < w5.heap.size := by have := hK.size; omega
       have z2 : w.heap.size + 1 + 1 < w5.heap.size := by have := hK.size; omega
       have SB := hid (Blk.new w5 33 #[.int .i64 V1, .int .i64 V2])
       go_wp2_with fail
       refine Calls.mono (HPF.out _ (by (repeat' (first | with_reducible assumption | with_reducible exact Ext.refl _ | with_reducible refine Ext.alloc ?_ _ | with_reducible refine Ext.set ?_ ?_ _ | with_reducible refine Ext.drew ?_ | with_reducible refine Ext.drewN ?_ _ | with_reducible refine Ext.trans ?_ (by assumption) | (dsimp only; omega))))) ?_
       rintro e w6 ⟨rfl, hE⟩
       replace SB := hid (SB.out.ext hE)
       (first | (have hK := KC.step (n := w.heap.size + 3) (by with_reducible assumption) hE) | (have hK := KC.step (KC.step (n := w.heap.size + 3) (by with_reducible assumption) (ext_alloc1 _ _)) hE) | (have hK := KC.step (KC.refl (n := w.heap.size + 3) (by simp)) hE)); have hC := hK.cell; have hF := hK.fro; have hX := hK.ext
       go_wp2_with fail
       refine Calls.mono (HIF2.out _) ?_
       rintro e w7 ⟨rfl, hE⟩
       replace SB := hid (SB.out.ext hE)
       (first | (have hK := KC.step (n := w.heap.size + 3) (by with_reducible assumption) hE) | (have hK := KC.step (KC.step (n := w.heap.size + 3) (by with_reducible assumption) (ext_alloc1 _ _)) hE) | (have hK := KC.step (KC.refl (n := w.heap.size + 3) (by simp)) hE)); have hC := hK.cell; have hF := hK.fro; have hX := hK.ext
       have y0 := SB.out.cell 0
       have y1 := SB.out.cell 1
       simp only [List.getElem?_toArray, List.getElem?_cons_zero, List.getElem?_cons_succ] at y0 y1
       go_wp2_with (go_at_call 14; refine (HWK.out _).mono ?_; rintro e w2 ⟨rfl, hE⟩; (first | (have hK := KC.step (n := w.heap.size + 3) (by with_reducible assumption) hE) | (have hK := KC.step (KC.step (n := w.heap.size + 3) (by with_reducible assumption) (ext_alloc1 _ _)) hE) | (have hK := KC.step (KC.refl (n := w.heap.size + 3) (by simp)) hE)); have hC := hK.cell; have hF := hK.fro; have hX := hK.ext)
       go_ret
       exact ⟨rfl, by (repeat' (first | with_reducible assumption | with_reducible exact Ext.refl _ | with_reducible refine Ext.alloc ?_ _ | with_reducible refine Ext.set ?_ ?_ _ | with_reducible refine Ext.drew ?_ | with_reducible refine Ext.drewN ?_ _ | with_reducible refine Ext.trans ?_ (by assumption) | (dsimp only; omega)))⟩)
end Go.Proofs.YtdhljpngkeobcaaGreat
