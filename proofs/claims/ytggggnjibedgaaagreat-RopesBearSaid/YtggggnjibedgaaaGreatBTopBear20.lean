/- The law RopesBear returns true. -/
import Derived.Test.YtggggnjibedgaaaGreatBTopBear19
import Derived.Test.YtggggnjibedgaaaGreatB16
import Derived.Deep.QuietTactic
import Derived.BigQuiet
import Derived.Deep.DeepCutAuto
import Derived.Deep.CutRange
import Derived.Test.YtggggnjibedgaaaGreatB17
import Derived.WideShapes
set_option linter.unusedSimpArgs false
set_option linter.unusedVariables false
namespace Go.Proofs.YtggggnjibedgaaaGreat
open Go.RowKit
set_option maxRecDepth 100000 in
set_option maxHeartbeats 16000000 in
theorem ropesBear_any (ps : List Sp) (A : Option Addr) (n c : Nat) (hn : ps.length = n) (load low : Int) (xs : List Int) (SA : Option Addr) (sn sc : Nat) (hsn : xs.length = sn) (z : Sp)
    (w : World) (hx : SpsAt w A ps) (hs : IntsAt w SA xs) :
    Calls Tryz.prog 9 #[.slice A n c, .agg #[.int .i64 load, .int .i64 low, .slice SA sn sc, .int .i64 z.lo, .int .i64 z.hi]] w fun e w' => e = .returned (.bool true) ∧ Ext w w' := by
  have HWK := hid (fun W => works_any W)
  have HX := hid hx
  have HS := hid hs
  have HN := hid hn
  have HSN := hid hsn
  by_cases hb : 6 < n
  · have hbi : (6 : Int) < (n : Int) := by omega
    clear hx hs hn hsn
    go_enter Tryz.func9, Tryz.ntmps9
    go_wp2_with (go_at_call 14; refine (HWK.out _).mono ?_; rintro e w2 ⟨rfl, hE⟩; (first | (have hK := KC.step (n := w.heap.size + 1) (by with_reducible assumption) hE) | (have hK := KC.step (KC.step (n := w.heap.size + 1) (by with_reducible assumption) (ext_alloc1 _ _)) hE) | (have hK := KC.step (KC.refl (n := w.heap.size + 1) (by simp)) hE)); have hC := hK.cell; have hF := hK.fro; have hX := hK.ext)
    go_ret
    exact ⟨rfl, by (repeat' (first | with_reducible assumption | with_reducible exact Ext.refl _ | with_reducible refine Ext.alloc ?_ _ | with_reducible refine Ext.set ?_ ?_ _ | with_reducible refine Ext.drew ?_ | with_reducible refine Ext.drewN ?_ _ | with_reducible refine Ext.trans ?_ (by assumption) | (dsimp only; omega)))⟩
  have hbi : ¬ (6 : Int) < (n : Int) := by omega
  have HCL := hid (fun (W : World) (hE : Ext w W) => rCheckLoad_any ps load true A n c hn (by omega) W (hx.ext hE))
  by_cases h0 : anE ps load true = 0
  case neg =>
    have hne : (anE ps load true != 0) = true := by simp [h0]
    clear hx hs hn hsn
    generalize anE ps load true = E at *
    go_enter Tryz.func9, Tryz.ntmps9
    go_wp2_with (first
      | (go_at_call 46; refine (HCL.out _ (by (repeat' (first | with_reducible assumption | with_reducible exact Ext.refl _ | with_reducible refine Ext.alloc ?_ _ | with_reducible refine Ext.set ?_ ?_ _ | with_reducible refine Ext.drew ?_ | with_reducible refine Ext.drewN ?_ _ | with_reducible refine Ext.trans ?_ (by assumption) | (dsimp only; omega))))).mono ?_; rintro e w2 ⟨rfl, hE⟩; (first | (have hK := KC.step (n := w.heap.size + 1) (by with_reducible assumption) hE) | (have hK := KC.step (KC.step (n := w.heap.size + 1) (by with_reducible assumption) (ext_alloc1 _ _)) hE) | (have hK := KC.step (KC.refl (n := w.heap.size + 1) (by simp)) hE)); have hC := hK.cell; have hF := hK.fro; have hX := hK.ext)
      | (go_at_call 14; refine (HWK.out _).mono ?_; rintro e w2 ⟨rfl, hE⟩; (first | (have hK := KC.step (n := w.heap.size + 1) (by with_reducible assumption) hE) | (have hK := KC.step (KC.step (n := w.heap.size + 1) (by with_reducible assumption) (ext_alloc1 _ _)) hE) | (have hK := KC.step (KC.refl (n := w.heap.size + 1) (by simp)) hE)); have hC := hK.cell; have hF := hK.fro; have hX := hK.ext))
    go_ret
    exact ⟨rfl, by (repeat' (first | with_reducible assumption | with_reducible exact Ext.refl _ | with_reducible refine Ext.alloc ?_ _ | with_reducible refine Ext.set ?_ ?_ _ | with_reducible refine Ext.drew ?_ | with_reducible refine Ext.drewN ?_ _ | with_reducible refine Ext.trans ?_ (by assumption) | (dsimp only; omega)))⟩
  rw [h0] at HCL
  by_cases h1 : sn = n
  case neg =>
    have h1i : ¬ ((sn : Int) = (n : Int)) := by omega
    clear hx hs hn hsn
    go_enter Tryz.func9, Tryz.ntmps9
    go_wp2_with (first
      | (go_at_call 46; refine (HCL.out _ (by (repeat' (first | with_reducible assumption | with_reducible exact Ext.refl _ | with_reducible refine Ext.alloc ?_ _ | with_reducible refine Ext.set ?_ ?_ _ | with_reducible refine Ext.drew ?_ | with_reducible refine Ext.drewN ?_ _ | with_reducible refine Ext.trans ?_ (by assumption) | (dsimp only; omega))))).mono ?_; rintro e w2 ⟨rfl, hE⟩; (first | (have hK := KC.step (n := w.heap.size + 1) (by with_reducible assumption) hE) | (have hK := KC.step (KC.step (n := w.heap.size + 1) (by with_reducible assumption) (ext_alloc1 _ _)) hE) | (have hK := KC.step (KC.refl (n := w.heap.size + 1) (by simp)) hE)); have hC := hK.cell; have hF := hK.fro; have hX := hK.ext)
      | (go_at_call 14; refine (HWK.out _).mono ?_; rintro e w2 ⟨rfl, hE⟩; (first | (have hK := KC.step (n := w.heap.size + 1) (by with_reducible assumption) hE) | (have hK := KC.step (KC.step (n := w.heap.size + 1) (by with_reducible assumption) (ext_alloc1 _ _)) hE) | (have hK := KC.step (KC.refl (n := w.heap.size + 1) (by simp)) hE)); have hC := hK.cell; have hF := hK.fro; have hX := hK.ext))
    go_ret
    exact ⟨rfl, by (repeat' (first | with_reducible assumption | with_reducible exact Ext.refl _ | with_reducible refine Ext.alloc ?_ _ | with_reducible refine Ext.set ?_ ?_ _ | with_reducible refine Ext.drew ?_ | with_reducible refine Ext.drewN ?_ _ | with_reducible refine Ext.trans ?_ (by assumption) | (dsimp only; omega)))⟩
  have h1s := h1.symm
  subst h1s
  clear h1
  obtain ⟨-, hp, -, -⟩ := anE_ok h0
  have HPH := hid (fun (W : World) (hE : Ext w W) => pholds_any ps load A n c hn (by omega) W (hx.ext hE))
  have HLO := hid (fun (a : 1 ≤ low) (b : low ≤ load) (W : World) (hE : Ext w W) => pholds_any ps low A n c hn (by omega) W (hx.ext hE))
  have HLF := hid (fun (a : 1 ≤ low) (b : low ≤ load) => bear_low h0 a b)
  have HBM := hid (fun (h : ptsB (ps ++ [z]) = true) => bear_more h0 h)
  have HBN := hid (fun (h : inSps ps xs) => bear_now h0 h)
  have HBD := hid (fun (h : inSps ps xs) => inSps_bd h hp)
  have HBE := hid (fun (hb : ∀ s ∈ xs, 0 ≤ s ∧ s ≤ 5000) (W : World) (hE : Ext w W) => rBears_any xs hb load SA n sc hsn (by omega) W (hs.ext hE))
  rw [h0] at HPH
  have B0 := hid (Blk.new w 81 #[.int .i64 load, .int .i64 low, .slice SA n sc, .int .i64 z.lo, .int .i64 z.hi])
  clear hx hs hn hsn hp
  obtain ⟨zl, zh⟩ := z
  dsimp only at *
  go_enter Tryz.func9, Tryz.ntmps9
  go_wp2_with (go_at_call 46; refine (HCL.out _ (by (repeat' (first | with_reducible assumption | with_reducible exact Ext.refl _ | with_reducible refine Ext.alloc ?_ _ | with_reducible refine Ext.set ?_ ?_ _ | with_reducible refine Ext.drew ?_ | with_reducible refine Ext.drewN ?_ _ | with_reducible refine Ext.trans ?_ (by assumption) | (dsimp only; omega))))).mono ?_; rintro e w2 ⟨rfl, hE⟩; (first | (have hK := KC.step (n := w.heap.size + 1) (by with_reducible assumption) hE) | (have hK := KC.step (KC.step (n := w.heap.size + 1) (by with_reducible assumption) (ext_alloc1 _ _)) hE) | (have hK := KC.step (KC.refl (n := w.heap.size + 1) (by simp)) hE)); have hC := hK.cell; have hF := hK.fro; have hX := hK.ext)
  go_loopw [5] (fun i wr => Ext w wr ∧ Hid (Blk wr w.heap.size 81 #[.int .i64 load, .int .i64 low, .slice SA n sc, .int .i64 zl, .int .i64 zh]) ∧
    ∃ k : Nat, k ≤ n ∧ i = .int .i64 k ∧ Hid (∀ j, j < k → (ps.getD j zeroSp).lo ≤ xs.getD j 0 ∧ xs.getD j 0 ≤ (ps.getD j zeroSp).hi)) (fun i _ => n - (intOf i).toNat)
  case atStart => exact ⟨by (repeat' (first | with_reducible assumption | with_reducible exact Ext.refl _ | with_reducible refine Ext.alloc ?_ _ | with_reducible refine Ext.set ?_ ?_ _ | with_reducible refine Ext.drew ?_ | with_reducible refine Ext.drewN ?_ _ | with_reducible refine Ext.trans ?_ (by assumption) | (dsimp only; omega))), hid (B0.out.ext (by (repeat' (first | with_reducible assumption | with_reducible exact Ext.refl _ | with_reducible refine Ext.alloc ?_ _ | with_reducible refine Ext.set ?_ ?_ _ | with_reducible refine Ext.drew ?_ | with_reducible refine Ext.drewN ?_ _ | with_reducible refine Ext.trans ?_ (by assumption) | (dsimp only; omega))))), 0, Nat.zero_le _, rfl, hid (fun j hj => by omega)⟩
  case round =>
    obtain ⟨E1, K0, k, hk, rfl, HA⟩ := hrel
    clear B0
    have a0 := K0.out.cell 0
    have a1 := K0.out.cell 1
    have a2 := K0.out.cell 2
    have z0 := K0.out.lt
    simp only [List.getElem?_toArray, List.getElem?_cons_zero, List.getElem?_cons_succ] at a0 a1 a2
    by_cases hlt : k < n
    · obtain ⟨b, off, rfl, hb, c0, c1⟩ := (HX.out.ext E1).at_ HN.out hlt
      obtain ⟨b', off', rfl, hb', q1⟩ := (HS.out.ext E1).at_ HSN.out hlt
      have hk0 : (0 : Int) ≤ (k : Int) := by omega
      have hk1 : (k : Int) < (n : Int) := by omega
      have HA2 := hid (fun (h1 : (ps.getD k zeroSp).lo ≤ xs.getD k 0) (h2 : xs.getD k 0 ≤ (ps.getD k zeroSp).hi) => show ∀ j, j < k + 1 → (ps.getD j zeroSp).lo ≤ xs.getD j 0 ∧ xs.getD j 0 ≤ (ps.getD j zeroSp).hi from fun j hj => by
        rcases Nat.lt_succ_iff_lt_or_eq.1 hj with h | rfl
        · exact HA.out j h
        · exact ⟨h1, h2⟩)
      clear HA HPH HLO HLF HBN HBD HBE
      generalize hu : ps.getD k zeroSp = u at *
      generalize hv : xs.getD k 0 = v at *
      clear hu hv
      obtain ⟨lo, hi⟩ := u
      dsimp only at *
      by_cases v1 : v < lo
      · go_wp2_with fail
        go_quiet (fail)
        go_wp2_with fail
        refine Calls.mono (HWK.out _) ?_
        rintro e w9 ⟨rfl, hE9⟩
        go_wp2
        go_ret
        exact ⟨rfl, (E1.drewN _).trans hE9⟩
      have d1 : decide (v < lo) = false := decide_eq_false v1
      by_cases v2 : hi < v
      · go_wp2_with fail
        go_quiet (fail)
        go_wp2_with fail
        refine Calls.mono (HWK.out _) ?_
        rintro e w9 ⟨rfl, hE9⟩
        go_wp2
        go_ret
        exact ⟨rfl, (E1.drewN _).trans hE9⟩
      have d2 : decide (hi < v) = false := decide_eq_false v2
      have HA3 := hid (HA2.out (by omega) (by omega))
      have K1 := hid (K0.out.ext ((Ext.refl wr).drewN 1))
      clear HA2
      go_wp2_with fail
      go_quiet (fail)
      go_wp2
      go_roundw
      case rel => exact ⟨E1.drewN _, hid (K0.out.ext ((Ext.refl wr).drewN _)), k + 1, by omega, by go_num, HA3⟩
      case measure => simp [intOf]; omega
    obtain rfl : k = n := by omega
    have HIN := hid (show inSps ps xs from ⟨HSN.out.trans HN.out.symm, fun i hi => HA.out i (by rw [← HN.out]; exact hi)⟩)
    have HNW := hid (HBN.out HIN.out)
    replace HBE := hid (HBE.out (HBD.out HIN.out))
    clear HA HBN HBD
    go_wp2_with fail
    refine Calls.mono (HPH.out _ E1) ?_
    rintro e w2 ⟨rfl, hE2⟩
    have E2 := hid (E1.trans hE2)
    have K2 := hid (K0.out.ext hE2)
    clear a0 a1 a2 z0 K0 HPH hE2
    have a0 := K2.out.cell 0
    have a2 := K2.out.cell 2
    have z0 := K2.out.lt
    simp only [List.getElem?_toArray, List.getElem?_cons_zero, List.getElem?_cons_succ] at a0 a2
    go_wp2_with fail
    refine Calls.mono (HBE.out _ E2.out) ?_
    rintro e w3 ⟨rfl, hE3⟩
    have E3 := hid (E2.out.trans hE3)
    have K3 := hid (K2.out.ext hE3)
    clear a0 a2 z0 K2 HBE hE3 E2
    have a0 := K3.out.cell 0
    have a1 := K3.out.cell 1
    have a3 := K3.out.cell 3
    have a4 := K3.out.cell 4
    have z0 := K3.out.lt
    simp only [List.getElem?_toArray, List.getElem?_cons_zero, List.getElem?_cons_succ] at a0 a1 a3 a4
    generalize holV ps load = F at *
    generalize hldI load xs = b at *
    generalize holV ps low = F2 at *
    obtain ⟨s, m⟩ := F
    obtain ⟨s2, m2⟩ := F2
    dsimp only at *
    go_upto_region 10 with fail
    go_cut [95] from 80 to 94 (fun s95 wx => s95 = .bool false ∧ wx = w3)
    case first =>
      cases s <;> cases b <;> cases m <;> (first | (exfalso; have h := HNW.out; simp at h; done) | skip)
      all_goals
        go_wp2_with fail
        go_meet
        exact ⟨rfl, rfl⟩
    case rest =>
    obtain ⟨rfl, rfl⟩ := hcut
    go_upto_region 12 with fail
    go_cut [105] from 96 to 104 (fun s105 wx => s105 = .bool (decide (1 ≤ low) && decide (low ≤ load)) ∧ wx = wc)
    case first =>
      by_cases l1 : 1 ≤ low
      · have d1 : decide (1 ≤ low) = true := decide_eq_true l1
        go_wp2_with fail
        go_meet
        exact ⟨by first | rfl | (simp; done) | simp [d1], rfl⟩
      · have d1 : decide (1 ≤ low) = false := decide_eq_false l1
        go_wp2_with fail
        go_meet
        exact ⟨by first | rfl | (simp; done) | simp [d1], rfl⟩
    case rest =>
    obtain ⟨rfl, rfl⟩ := hcut
    obtain ⟨T, hT⟩ : ∃ T, (decide (1 ≤ low) && decide (low ≤ load)) = T := ⟨_, rfl⟩
    rw [hT]
    have HT := hid hT
    clear hT
    go_upto_if 105 with fail
    go_cut [10, 11, 12] from 107 to 129 (fun s10 s11 s12 wx => Ext w wx ∧ Hid (Blk wx w.heap.size 81 #[.int .i64 load, .int .i64 low, .slice SA k sc, .int .i64 zl, .int .i64 zh]))
    case first =>
      cases T
      case false =>
        go_wp2_with fail
        go_meet
        exact ⟨E3.out, K3⟩
      case true =>
        obtain ⟨l1, l2⟩ : 1 ≤ low ∧ low ≤ load := by
          have h := HT.out
          simp only [Bool.and_eq_true, decide_eq_true_eq] at h
          exact h
        obtain ⟨he, hf1, hf2⟩ := HLF.out l1 l2
        replace HLO := hid (HLO.out l1 l2)
        rw [he] at HLO
        have HP2 := hid (And.intro hf1 hf2)
        clear HLF he hf1 hf2 HT
        go_wp2_with fail
        refine Calls.mono (HLO.out _ E3.out) ?_
        rintro e w4 ⟨rfl, hE4⟩
        have HR4 := hid (show Ext w w4 ∧ Hid (Blk w4 w.heap.size 81 #[.int .i64 load, .int .i64 low, .slice SA k sc, .int .i64 zl, .int .i64 zh]) from ⟨E3.out.trans hE4, hid (K3.out.ext hE4)⟩)
        clear hE4 HLO a0 a1 a3 a4 z0
        cases s <;> cases s2 <;> cases m <;> cases m2 <;> (first | (exfalso; have h := HP2.out; simp at h; done) | skip)
        all_goals
          go_wp2_with fail
          go_meet
          exact HR4.out
    case rest =>
    obtain ⟨E5, K5⟩ := hcut
    clear a0 a1 a3 a4 z0 K3 E3 HLO HLF HT
    have a0 := K5.out.cell 0
    have a3 := K5.out.cell 3
    have a4 := K5.out.cell 4
    have z0 := K5.out.lt
    simp only [List.getElem?_toArray, List.getElem?_cons_zero, List.getElem?_cons_succ] at a0 a3 a4
    go_upto_region 16 with fail
    go_cut [13] from 130 to 136 (fun s13 wx => ∃ (A5 : Option Addr) (c5 : Nat), s13 = .slice A5 (k + 1) c5 ∧ Hid (SpsAt wx A5 (ps ++ [⟨zl, zh⟩])) ∧ Ext w wx ∧ Hid (Blk wx w.heap.size 81 #[.int .i64 load, .int .i64 low, .slice SA k sc, .int .i64 zl, .int .i64 zh]))
    case first =>
      have HN5 := hid HN.out
      have HX5 := hid (HX.out.ext E5)
      have HF0 := hid (show BeF wc w.heap.size 81 #[.int .i64 load, .int .i64 low, .slice SA k sc, .int .i64 zl, .int .i64 zh] ps zl zh false false false 0 0 undef wc.drew from
        ⟨Ext.drew (Ext.refl _), z0, K5.out.ext (Ext.drew (Ext.refl _)), fun h => Bool.noConfusion h, fun h => Bool.noConfusion h, fun h => Bool.noConfusion h⟩)
      obtain ⟨iS, hiS, hzS, hsS, hbS⟩ := info_parts infoSp
      have HiS := hid hiS
      have HzS := hid hzS
      have HsS := hid hsS
      clear hiS hzS hsS hbS
      go_wp2_with fail
      refine wp_region_held_drew (S := fun w' => Blk w' w.heap.size 81 #[.int .i64 load, .int .i64 low, .slice SA k sc, .int .i64 zl, .int .i64 zh]) (by kernel_rfl) ?hS0 (fun hHeld => ?_)
      case hS0 => exact HF0.out.b
      refine tk1 (i := 1) (v := ?v1be) rfl ?y1be ?r1be
      case y1be => (intro w' hSw; (try dsimp only at hSw); go_simp; (try with_reducible rfl))
      try simp only [Act.put, sq1, sq2, sq3, sq4, sq5, sq6]
      refine tk1 (i := 3) (v := ?v3be) rfl ?y3be ?r3be
      case y3be => (intro w' hSw; (try dsimp only at hSw); go_simp; (try with_reducible rfl))
      try simp only [Act.put, sq1, sq2, sq3, sq4, sq5, sq6]
      refine tk1 (i := 4) (v := .agg #[.int .i64 zl, .int .i64 zh]) rfl ?y4be ?r4be
      case y4be =>
        intro w' hSw
        (try dsimp only at hSw)
        have l0 := hSw.cell 3
        have l1 := hSw.cell 4
        simp only [List.getElem?_toArray, List.getElem?_cons_zero, List.getElem?_cons_succ] at l0 l1
        go_simp
      try simp only [Act.put, sq1, sq2, sq3, sq4, sq5, sq6]
      refine wp_frame_eq (fun fr hfr => ?_)
      have F131 := hid (show fr.eval (.tmp 131) = .slice A k c by rw [← hfr]; rfl)
      have F134 := hid (show fr.eval (.tmp 134) = .agg #[.int .i64 zl, .int .i64 zh] by rw [← hfr]; rfl)
      have HS130 := hid (show 130 < fr.tmps.size by rw [← hfr]; exact Nat.le_of_ble_eq_true (by rfl))
      have HS132 := hid (show 132 < fr.tmps.size by rw [← hfr]; exact Nat.le_of_ble_eq_true (by rfl))
      have HS135 := hid (show 135 < fr.tmps.size by rw [← hfr]; exact Nat.le_of_ble_eq_true (by rfl))
      have HFR := hid hfr
      clear hfr
      refine wp_name (fun WP hWP => ?_)
      clear hHeld
      have ST_21 := hid (show ∀ (z0 z1 : Nat) (v : Value) (X : World) (f : Nat) (l : Array Bool), f = 2 → l = #[true, true, true, true, true, true, false, false] → BeF wc w.heap.size 81 #[.int .i64 load, .int .i64 low, .slice SA k sc, .int .i64 zl, .int .i64 zh] ps zl zh true true true z0 z1 v X → WP f l (((fr.put (some 130) (.slice (some ⟨z0, 0, none⟩) 0 0)).put (some 132) v).put (some 135) (.slice (some ⟨z1, 0, none⟩) 1 1)) X from by
        rintro z0 z1 v X _ _ rfl rfl hF
        have HF := hid hF
        have hHeld := hF.b
        clear hF
        refine (hWP.out _ _ _ _).2 ?_
        refine wpAnyH_ready (rs := [6]) (by kernel_rfl) (by simp) ?_
        refine AllReadyH.cons (o := _) rfl (fun K hK => ?_) AllReadyH.nil
        · have e2 : (((fr.put (some 130) (.slice (some ⟨z0, 0, none⟩) 0 0)).put (some 132) v).put (some 135) (.slice (some ⟨z1, 0, none⟩) 1 1)).eval (.tmp 132) = v := by
            rw [Act.eval_put (by simp)]; exact eval_at (by rw [put_size]; exact HS132.out) _
          have e5 : (((fr.put (some 130) (.slice (some ⟨z0, 0, none⟩) 0 0)).put (some 132) v).put (some 135) (.slice (some ⟨z1, 0, none⟩) 1 1)).eval (.tmp 135) = .slice (some ⟨z1, 0, none⟩) 1 1 := by
            exact eval_at (by rw [put_size, put_size]; exact HS135.out) _
          refine wp_app1Sp X (.tmp 132) (.tmp 135) rfl wc.heap.size v ps e2 (HF.out.k2 rfl) z1 ⟨zl, zh⟩ e5 (HF.out.k5 rfl).2 (by have := HN5.out; omega) HF.out.e.size (fun v2 Y hO hg => ?_)
          obtain ⟨hE9, hB9⟩ := HF.out.fin hg
          obtain ⟨A9, c9, rfl, -, hs9⟩ := ownSp hO
          have HE9 := hid hE9
          have HB9 := hid hB9
          have HS9 := hid hs9
          clear hHeld hO hg hE9 hB9 hs9
          refine hK.out _ _ HB9.out (fun hHeld => ?_)
          clear hK K
          have hq := HFR.out
          subst hq
          simp only [Act.put, sq1, sq2, sq3, sq4, sq5, sq6]
          refine tk1 (i := 7) (v := ?v7be) rfl ?y7be ?r7be
          case y7be => (intro w' hSw; (try dsimp only at hSw); go_simp; (try with_reducible rfl))
          try simp only [Act.put, sq1, sq2, sq3, sq4, sq5, sq6]
          refine wpAnyH_done (by kernel_rfl) ?_ _
          clear hHeld
          go_wp2_with fail
          go_meet
          exact ⟨A9, c9, by first | (rw [List.length_append, HN5.out]; rfl) | rw [HN5.out], HS9, E5.trans HE9.out, HB9⟩)
      have ST_20 := hid (show ∀ (z0 z1 : Nat) (v : Value) (X : World) (f : Nat) (l : Array Bool), f = 3 → l = #[true, true, true, true, true, false, false, false] → BeF wc w.heap.size 81 #[.int .i64 load, .int .i64 low, .slice SA k sc, .int .i64 zl, .int .i64 zh] ps zl zh true true false z0 z1 v X → WP f l ((fr.put (some 130) (.slice (some ⟨z0, 0, none⟩) 0 0)).put (some 132) v) X from by
        rintro z0 z1 v X _ _ rfl rfl hF
        have HF := hid hF
        have hHeld := hF.b
        clear hF
        refine (hWP.out _ _ _ _).2 ?_
        refine wpAnyH_ready (rs := [5]) (by kernel_rfl) (by simp) ?_
        refine AllReadyH.cons (o := _) rfl (fun K hK => ?_) AllReadyH.nil
        · refine wp_buildSlice 42 33 1 #[(0, .tmp 134)] rfl #[.int .i64 zl, .int .i64 zh] iS (.agg #[.int .i64 0, .int .i64 0]) Tryz.underlying42 HiS.out HzS.out (by rw [HsS.out]; decide) (by rw [HsS.out]; decide) ?_ ?_
          · have e4 : ((fr.put (some 130) (.slice (some ⟨z0, 0, none⟩) 0 0)).put (some 132) v).eval (.tmp 134) = .agg #[.int .i64 zl, .int .i64 zh] := by
              rw [Act.eval_put (by simp)]; rw [Act.eval_put (by simp)]; exact F134.out
            rw [HsS.out]
            simp only [List.map_toArray, List.map_cons, List.map_nil, e4]
            exact fillSp zl zh
          have HN := hid HF.out.al5
          clear hHeld
          refine hK.out _ _ HN.out.b (fun hHeld => ?_)
          clear hK K
          exact (hWP.out _ _ _ _).1 (ST_21.out z0 X.heap.size v _ _ _ rfl (by kernel_rfl) HN.out))
      have ST_11 := hid (show ∀ (z0 z1 : Nat) (v : Value) (X : World) (f : Nat) (l : Array Bool), f = 3 → l = #[true, true, false, true, true, true, false, false] → BeF wc w.heap.size 81 #[.int .i64 load, .int .i64 low, .slice SA k sc, .int .i64 zl, .int .i64 zh] ps zl zh true false true z0 z1 v X → WP f l ((fr.put (some 130) (.slice (some ⟨z0, 0, none⟩) 0 0)).put (some 135) (.slice (some ⟨z1, 0, none⟩) 1 1)) X from by
        rintro z0 z1 v X _ _ rfl rfl hF
        have HF := hid hF
        have hHeld := hF.b
        clear hF
        refine (hWP.out _ _ _ _).2 ?_
        refine wpAnyH_ready (rs := [2]) (by kernel_rfl) (by simp) ?_
        refine AllReadyH.cons (o := _) rfl (fun K hK => ?_) AllReadyH.nil
        · have e0 : ((fr.put (some 130) (.slice (some ⟨z0, 0, none⟩) 0 0)).put (some 135) (.slice (some ⟨z1, 0, none⟩) 1 1)).eval (.tmp 130) = .slice (some ⟨z0, 0, none⟩) 0 0 := by
            rw [Act.eval_put (by simp)]; exact eval_at HS130.out _
          have e1 : ((fr.put (some 130) (.slice (some ⟨z0, 0, none⟩) 0 0)).put (some 135) (.slice (some ⟨z1, 0, none⟩) 1 1)).eval (.tmp 131) = .slice A k c := by
            rw [Act.eval_put (by simp)]; rw [Act.eval_put (by simp)]; exact F131.out
          refine wp_appAllSp X (.tmp 130) (.tmp 131) rfl wc.heap.size z0 A c ps e0 (HF.out.k0 rfl rfl).2 (HF.out.k0 rfl rfl).1 k HN5.out e1 (HX5.out.ext HF.out.e) (by omega) (fun v2 Y hO hg => ?_)
          have HN := hid (HF.out.app hg hO)
          clear hHeld hO hg
          refine hK.out _ _ HN.out.b (fun hHeld => ?_)
          clear hK K
          show wpAnyH _ _ _ _ _ _ _ (Act.put (Act.put _ (some 135) _) (some 132) _) _
          rw [Act.put_comm _ _ _ (x := some 135) (y := some 132) (by simp)]
          exact (hWP.out _ _ _ _).1 (ST_21.out z0 z1 v2 _ _ _ rfl (by kernel_rfl) HN.out))
      have ST_10 := hid (show ∀ (z0 z1 : Nat) (v : Value) (X : World) (f : Nat) (l : Array Bool), f = 4 → l = #[true, true, false, true, true, false, false, false] → BeF wc w.heap.size 81 #[.int .i64 load, .int .i64 low, .slice SA k sc, .int .i64 zl, .int .i64 zh] ps zl zh true false false z0 z1 v X → WP f l (fr.put (some 130) (.slice (some ⟨z0, 0, none⟩) 0 0)) X from by
        rintro z0 z1 v X _ _ rfl rfl hF
        have HF := hid hF
        have hHeld := hF.b
        clear hF
        refine (hWP.out _ _ _ _).2 ?_
        refine wpAnyH_ready (rs := [2, 5]) (by kernel_rfl) (by simp) ?_
        refine AllReadyH.cons (o := _) rfl (fun K hK => ?_) (AllReadyH.cons (o := _) rfl (fun K hK => ?_) AllReadyH.nil)
        · have e0 : (fr.put (some 130) (.slice (some ⟨z0, 0, none⟩) 0 0)).eval (.tmp 130) = .slice (some ⟨z0, 0, none⟩) 0 0 := by
            exact eval_at HS130.out _
          have e1 : (fr.put (some 130) (.slice (some ⟨z0, 0, none⟩) 0 0)).eval (.tmp 131) = .slice A k c := by
            rw [Act.eval_put (by simp)]; exact F131.out
          refine wp_appAllSp X (.tmp 130) (.tmp 131) rfl wc.heap.size z0 A c ps e0 (HF.out.k0 rfl rfl).2 (HF.out.k0 rfl rfl).1 k HN5.out e1 (HX5.out.ext HF.out.e) (by omega) (fun v2 Y hO hg => ?_)
          have HN := hid (HF.out.app hg hO)
          clear hHeld hO hg
          refine hK.out _ _ HN.out.b (fun hHeld => ?_)
          clear hK K
          exact (hWP.out _ _ _ _).1 (ST_20.out z0 z1 v2 _ _ _ rfl (by kernel_rfl) HN.out)
        · refine wp_buildSlice 42 33 1 #[(0, .tmp 134)] rfl #[.int .i64 zl, .int .i64 zh] iS (.agg #[.int .i64 0, .int .i64 0]) Tryz.underlying42 HiS.out HzS.out (by rw [HsS.out]; decide) (by rw [HsS.out]; decide) ?_ ?_
          · have e4 : (fr.put (some 130) (.slice (some ⟨z0, 0, none⟩) 0 0)).eval (.tmp 134) = .agg #[.int .i64 zl, .int .i64 zh] := by
              rw [Act.eval_put (by simp)]; exact F134.out
            rw [HsS.out]
            simp only [List.map_toArray, List.map_cons, List.map_nil, e4]
            exact fillSp zl zh
          have HN := hid HF.out.al5
          clear hHeld
          refine hK.out _ _ HN.out.b (fun hHeld => ?_)
          clear hK K
          exact (hWP.out _ _ _ _).1 (ST_11.out z0 X.heap.size v _ _ _ rfl (by kernel_rfl) HN.out))
      have ST_01 := hid (show ∀ (z0 z1 : Nat) (v : Value) (X : World) (f : Nat) (l : Array Bool), f = 4 → l = #[false, true, false, true, true, true, false, false] → BeF wc w.heap.size 81 #[.int .i64 load, .int .i64 low, .slice SA k sc, .int .i64 zl, .int .i64 zh] ps zl zh false false true z0 z1 v X → WP f l (fr.put (some 135) (.slice (some ⟨z1, 0, none⟩) 1 1)) X from by
        rintro z0 z1 v X _ _ rfl rfl hF
        have HF := hid hF
        have hHeld := hF.b
        clear hF
        refine (hWP.out _ _ _ _).2 ?_
        refine wpAnyH_ready (rs := [0]) (by kernel_rfl) (by simp) ?_
        refine AllReadyH.cons (o := _) rfl (fun K hK => ?_) AllReadyH.nil
        · refine wp_build0 42 33 rfl iS (.agg #[.int .i64 0, .int .i64 0]) Tryz.underlying42 HiS.out HzS.out ?_
          have HN := hid HF.out.al0
          clear hHeld
          refine hK.out _ _ HN.out.b (fun hHeld => ?_)
          clear hK K
          show wpAnyH _ _ _ _ _ _ _ (Act.put (Act.put _ (some 135) _) (some 130) _) _
          rw [Act.put_comm _ _ _ (x := some 135) (y := some 130) (by simp)]
          exact (hWP.out _ _ _ _).1 (ST_11.out X.heap.size z1 v _ _ _ rfl (by kernel_rfl) HN.out))
      have ST_00 := hid (show ∀ (z0 z1 : Nat) (v : Value) (X : World) (f : Nat) (l : Array Bool), f = 5 → l = #[false, true, false, true, true, false, false, false] → BeF wc w.heap.size 81 #[.int .i64 load, .int .i64 low, .slice SA k sc, .int .i64 zl, .int .i64 zh] ps zl zh false false false z0 z1 v X → WP f l fr X from by
        rintro z0 z1 v X _ _ rfl rfl hF
        have HF := hid hF
        have hHeld := hF.b
        clear hF
        refine (hWP.out _ _ _ _).2 ?_
        refine wpAnyH_ready (rs := [0, 5]) (by kernel_rfl) (by simp) ?_
        refine AllReadyH.cons (o := _) rfl (fun K hK => ?_) (AllReadyH.cons (o := _) rfl (fun K hK => ?_) AllReadyH.nil)
        · refine wp_build0 42 33 rfl iS (.agg #[.int .i64 0, .int .i64 0]) Tryz.underlying42 HiS.out HzS.out ?_
          have HN := hid HF.out.al0
          clear hHeld
          refine hK.out _ _ HN.out.b (fun hHeld => ?_)
          clear hK K
          exact (hWP.out _ _ _ _).1 (ST_10.out X.heap.size z1 v _ _ _ rfl (by kernel_rfl) HN.out)
        · refine wp_buildSlice 42 33 1 #[(0, .tmp 134)] rfl #[.int .i64 zl, .int .i64 zh] iS (.agg #[.int .i64 0, .int .i64 0]) Tryz.underlying42 HiS.out HzS.out (by rw [HsS.out]; decide) (by rw [HsS.out]; decide) ?_ ?_
          · have e4 : fr.eval (.tmp 134) = .agg #[.int .i64 zl, .int .i64 zh] := by
              exact F134.out
            rw [HsS.out]
            simp only [List.map_toArray, List.map_cons, List.map_nil, e4]
            exact fillSp zl zh
          have HN := hid HF.out.al5
          clear hHeld
          refine hK.out _ _ HN.out.b (fun hHeld => ?_)
          clear hK K
          exact (hWP.out _ _ _ _).1 (ST_01.out z0 X.heap.size v _ _ _ rfl (by kernel_rfl) HN.out))
      exact ST_00.out 0 0 undef wc.drew _ _ (by kernel_rfl) (by kernel_rfl) HF0.out
    case rest =>
    obtain ⟨A5, c5, rfl, H5, E6, K6⟩ := hcut
    clear a0 a3 a4 z0 K5 E5
    have hl5 : (ps ++ [(⟨zl, zh⟩ : Sp)]).length = k + 1 := by rw [List.length_append, HN.out]; rfl
    have HAP := hid (rArePoints_any _ A5 (k + 1) c5 hl5 (by omega) _ H5.out)
    have HMO := hid (fun (W : World) (hE : Ext wc W) => pholds_any _ load A5 (k + 1) c5 hl5 (by omega) W (H5.out.ext hE))
    have a0 := K6.out.cell 0
    have z0 := K6.out.lt
    simp only [List.getElem?_toArray, List.getElem?_cons_zero, List.getElem?_cons_succ] at a0
    clear hl5
    cases hq : ptsB (ps ++ [(⟨zl, zh⟩ : Sp)])
    case false =>
      rw [hq] at HAP
      clear hq HMO HBM
      go_wp2_with fail
      refine Calls.mono HAP.out ?_
      rintro e w7 ⟨rfl, hE7⟩
      go_wp2_with fail
      refine Calls.mono (HWK.out _) ?_
      rintro e w8 ⟨rfl, hE8⟩
      go_wp2
      go_ret
      exact ⟨rfl, (E6.trans hE7).trans hE8⟩
    case true =>
      rw [hq] at HAP
      obtain ⟨he, hf1, hf2⟩ := HBM.out hq
      rw [he] at HMO
      have HP2 := hid (And.intro hf1 hf2)
      clear hq HBM he hf1 hf2
      generalize holV (ps ++ [(⟨zl, zh⟩ : Sp)]) load = F3 at *
      obtain ⟨s3, m3⟩ := F3
      dsimp only at *
      go_wp2_with fail
      refine Calls.mono HAP.out ?_
      rintro e w7 ⟨rfl, hE7⟩
      replace a0 := (hE7.cell (p := ⟨w.heap.size, 0, none⟩) z0).trans a0
      replace z0 := Nat.lt_of_lt_of_le z0 hE7.size
      go_wp2_with fail
      refine Calls.mono (HMO.out _ hE7) ?_
      rintro e w8 ⟨rfl, hE8⟩
      have E8 := hid ((E6.trans hE7).trans hE8)
      clear a0 z0 hE8 hE7 HMO HAP
      cases s <;> cases s3 <;> cases m <;> cases m3 <;> (first | (exfalso; have h := HP2.out; simp at h; done) | skip)
      all_goals
        go_wp2_with fail
        refine Calls.mono (HWK.out _) ?_
        rintro e w9 ⟨rfl, hE9⟩
        go_wp2
        go_ret
        exact ⟨rfl, E8.out.trans hE9⟩
end Go.Proofs.YtggggnjibedgaaaGreat
/- Points, and a load with strengths and one more point, as arguments: opened to their cells. -/
set_option linter.unusedSimpArgs false
set_option linter.unusedVariables false
namespace Go.Proofs.YtggggnjibedgaaaGreat
open Go.RowKit
open Go.ChangeShapes Go.WideShapes Go.Deep Go.Joins
theorem cellsLoaded : Tryz.prog.cellsOf 81 = 5 := by kernel_rfl
theorem array5 {α : Type} {cs : Array α} (h : cs.size = 5) : ∃ c0 c1 c2 c3 c4, cs = #[c0, c1, c2, c3, c4] := by
  obtain ⟨l⟩ := cs
  match l, h with
  | [c0, c1, c2, c3, c4], _ => exact ⟨c0, c1, c2, c3, c4, rfl⟩
section
variable {H : Type} {enc : TypeId × Value → H} {w : World} {base : Nat} {spare : Nat → Bool} {held : Bool}
set_option maxRecDepth 100000 in
theorem open_point {fuel : Nat} {cs : List Value} {x : DataW H × List MemPlace} (h : DataW.trod enc Tryz.prog w base spare held fuel 33 cs = some x) : ∃ o : Sp, cs = [.int .i64 o.lo, .int .i64 o.hi] := by
  obtain ⟨_, _, _, _, hlen, i1, j1⟩ := trod_struct2 Tryz.underlying33 h
  rw [cellsSpan] at hlen
  match cs, hlen with
  | [c0, c1], _ =>
    rw [cellsInt] at i1 j1
    simp only [List.drop_zero, List.drop_succ_cons, List.take_succ_cons, List.take_zero] at i1 j1
    obtain ⟨a1, g1, _, _⟩ := DataW.trod_int Tryz.underlying3 i1
    obtain ⟨a2, g2, _, _⟩ := DataW.trod_int Tryz.underlying3 j1
    simp only [List.cons.injEq, and_true] at g1 g2
    subst g1 g2
    exact ⟨⟨a1, a2⟩, rfl⟩
set_option maxRecDepth 100000 in
theorem open_points {fuel : Nat} {cs : List Value} {x : DataW H × List MemPlace} (h : DataW.trod enc Tryz.prog w base spare held fuel 42 cs = some x) :
    ∃ A os c, cs = [.slice A os.length c] ∧ os.length ≤ c ∧ SpsAt w A os ∧ ∀ o : Sp, o ∈ os → True := by
  rcases open_slice Tryz.underlying42 h with ⟨rfl, _⟩ | ⟨a, len, cap, m, n, D, Pl, rfl, hb, hl, hm, hmm, hx, hi⟩
  · exact ⟨none, [], 0, rfl, Nat.le_refl _, fun h => absurd rfl h, fun o ho => by cases ho⟩
  · have hlm : len ≤ m := by rw [hmm]; split <;> omega
    have hel : ∀ i, i < len → ∃ o : Sp, SpAt w a.block (a.off + i * 2) o ∧ a.block < w.heap.size ∧ True := fun i hil => by
      obtain ⟨cs', hc, ht⟩ := hi i (by omega)
      rw [cellsSpan] at hc
      obtain ⟨_, hl2, hat⟩ := World.cells?_some hc
      obtain ⟨o, rfl⟩ := open_point ht
      have hk : ∀ k v, ([.int .i64 o.lo, .int .i64 o.hi] : List Value)[k]? = some v → k < 2 → w.cell? ⟨a.block, a.off + i * 2 + k, none⟩ = some v ∧ a.block < w.heap.size := fun k v hv hk8 => by
        have h0 := (hat k hk8).trans hv
        rw [Go.Deep.add_add] at h0
        have h1 := add_cell h0
        exact ⟨by rw [Nat.add_assoc]; exact h1.1, h1.2⟩
      exact ⟨o, ⟨(hk 0 _ rfl (by omega)).1, (hk 1 _ rfl (by omega)).1⟩, (hk 0 _ rfl (by omega)).2, trivial⟩
    obtain ⟨os, ho, hos⟩ := exists_list zeroSp _ len hel
    subst ho
    refine ⟨some a, os, cap, rfl, hl, fun hne => ?_, fun o ho => ?_⟩
    · have h0 : 0 < os.length := List.length_pos_iff.2 hne
      have hb0 := (hos 0 h0).2.1
      have hsp : a = ⟨a.block, a.off, none⟩ := by
        obtain ⟨cs', hc, ht⟩ := hi 0 (by omega)
        obtain ⟨_, hl2, hat⟩ := World.cells?_some hc
        rw [cellsSpan] at hat hl2
        exact addr_plain hl2 (by omega) hat
      exact ⟨a.block, a.off, by rw [← hsp], hb0, fun k hk => (hos k hk).1⟩
    · obtain ⟨i, hi', rfl⟩ := List.getElem_of_mem ho
      have h9 := (hos i hi').2.2
      have e9 : os.getD i zeroSp = os[i] := by simp [List.getD, List.getElem?_eq_getElem hi']
      first | trivial | (rw [e9] at h9; exact h9)
set_option maxRecDepth 100000 in
theorem open_argPoints {r : Reach} {b0 : Nat} {v : Value} {d : DataW H} {p : List MemPlace} (hv : Value.okWide Tryz.prog w r b0 42 v) (h : DataW.Trod enc Tryz.prog w base spare held 42 v d p) :
    ∃ A os c, v = .slice A (List.length os) c ∧ SpsAt w A os := by
  obtain ⟨a, len, cap, rfl⟩ := okWide_slice Tryz.underlying42 hv
  obtain ⟨fuel, hf⟩ := h
  obtain ⟨A, xs, c, e, -, hs, -⟩ := open_points hf
  have e' : [Value.slice a len cap] = [Value.slice A xs.length c] := e
  simp only [List.cons.injEq, and_true] at e'
  exact ⟨A, xs, c, e', hs⟩
set_option maxRecDepth 100000 in
theorem open_loaded {r : Reach} {b0 : Nat} {v : Value} {d : DataW H} {p : List MemPlace} (hv : Value.okWide Tryz.prog w r b0 81 v) (h : DataW.Trod enc Tryz.prog w base spare held 81 v d p) :
    ∃ (load low : Int) (SA : Option Addr) (xs : List Int) (sc : Nat) (z : Sp), v = .agg #[.int .i64 load, .int .i64 low, .slice SA (List.length xs) sc, .int .i64 z.lo, .int .i64 z.hi] ∧ IntsAt w SA xs := by
  obtain ⟨cs, rfl, hsz⟩ := okWide_struct Tryz.underlying81 hv
  obtain ⟨c0, c1, c2, c3, c4, rfl⟩ := array5 (hsz.trans cellsLoaded)
  obtain ⟨fuel, hf0⟩ := h
  obtain ⟨ys, n', hn', hy, hlen, hyl, hf⟩ := DataW.trod_struct Tryz.underlying81 hf0
  obtain ⟨y0, h0, _⟩ := field_of hyl hf 0 rfl (t := 3) (o := 0) rfl rfl cellsInt
  obtain ⟨y1, h1, _⟩ := field_of hyl hf 1 rfl (t := 3) (o := 1) rfl rfl cellsInt
  obtain ⟨y2, h2, _⟩ := field_of hyl hf 2 rfl (t := 45) (o := 2) rfl rfl cellsSlI
  obtain ⟨y3, h3, _⟩ := field_of hyl hf 3 rfl (t := 33) (o := 3) rfl rfl cellsSpan
  have h0' : DataW.trod enc Tryz.prog w base spare held n' 3 [c0] = some y0 := h0
  have h1' : DataW.trod enc Tryz.prog w base spare held n' 3 [c1] = some y1 := h1
  have h2' : DataW.trod enc Tryz.prog w base spare held n' 45 [c2] = some y2 := h2
  have h3' : DataW.trod enc Tryz.prog w base spare held n' 33 [c3, c4] = some y3 := h3
  obtain ⟨a0, g0, _, _⟩ := DataW.trod_int Tryz.underlying3 h0'
  obtain ⟨a1, g1, _, _⟩ := DataW.trod_int Tryz.underlying3 h1'
  obtain ⟨SA, xs, sc, g2, i2⟩ := open_ints h2'
  obtain ⟨z, g3⟩ := open_point h3'
  simp only [List.cons.injEq, and_true] at g0 g1 g2 g3
  obtain ⟨g3, g4⟩ := g3
  subst g0 g1 g2 g3 g4
  exact ⟨a0, a1, SA, xs, sc, z, rfl, i2⟩
end
end Go.Proofs.YtggggnjibedgaaaGreat
