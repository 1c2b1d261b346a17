/- inOrder, over wears, falls and posts. -/
import Derived.Test.YtggggnjibedgaaaGreatB05
import Derived.Test.YtggggnjibedgaaaGreatB01
set_option linter.unusedSimpArgs false
set_option linter.unusedVariables false
namespace Go.Proofs.YtggggnjibedgaaaGreat
open Go.RowKit
set_option maxRecDepth 100000 in
set_option maxHeartbeats 1000000 in
theorem ordWr_any (fn : Nat) (caps : Array Value) (eg : ∀ args w, (callFunc fn args).run Tryz.prog w = .ok (.enter fn args) w) (xs : List Wr) (p : Wr → Wr → Bool) (A : Option Addr) (n c : Nat) (hn : xs.length = n) (hm : n ≤ 10000) (w : World) (hx : WrsAt w A xs)
    (hf : ∀ (x y : Wr) (W : World), Ext w W → Calls Tryz.prog fn (#[x.val, y.val] ++ caps) W fun e W' => e = .returned (.bool (p x y)) ∧ Ext W W') :
    Calls Tryz.prog 133 #[.slice A n c, .func (.func fn) #[] caps] w fun e w' => e = .returned (.bool (ordB p zeroWr xs)) ∧ Ext w w' := by
  have HFF := hid hf
  have HX := hid hx
  have HN := hid hn
  have HEG := hid eg
  clear hf hx hn eg
  go_enter Tryz.func133, Tryz.ntmps133
  go_wp2
  go_loopw [9] (fun i wr => Ext w wr ∧ ∃ k : Nat, k ≤ n - 1 ∧ i = .int .i64 k ∧ ordK p zeroWr xs k = true) (fun i _ => n - (intOf i).toNat)
  case atStart => exact ⟨by (repeat' (first | with_reducible assumption | with_reducible exact Ext.refl _ | with_reducible refine Ext.alloc ?_ _ | with_reducible refine Ext.set ?_ ?_ _ | with_reducible refine Ext.drew ?_ | with_reducible refine Ext.drewN ?_ _ | with_reducible refine Ext.trans ?_ (by assumption) | (dsimp only; omega))), 0, Nat.zero_le _, rfl, rfl⟩
  case round =>
    obtain ⟨hE, k, hk, rfl, ha⟩ := hrel
    have HA := hid ha
    clear ha
    by_cases hlt : k + 1 < n
    · obtain ⟨b, off, hAe, hb, hck⟩ := (HX.out.ext hE).at_ HN.out (show k < n by omega)
      obtain ⟨b', off', hAe', hb', hck'⟩ := (HX.out.ext hE).at_ HN.out hlt
      rw [hAe] at hAe'
      cases hAe'
      subst hAe
      have HS := hid (ordK_succ p zeroWr xs k)
      have HY := hid (ordK_bad p zeroWr xs k (by rw [HN.out]; omega))
      have hi1 : (k : Int) < (n : Int) - 1 := by omega
      have hkn : k < n := by omega
      have hj0 : (0 : Int) ≤ (k : Int) + 1 := by omega
      have hj1 : (k : Int) + 1 < (n : Int) := by omega
      clear HX
      generalize xs.getD k zeroWr = x at *
      generalize xs.getD (k + 1) zeroWr = y at *
      obtain ⟨c0, c1⟩ := hck
      obtain ⟨d0, d1⟩ := hck'
      have hw' : IntKind.i64.wrap ((k : Int) + 1) = ((k + 1 : Nat) : Int) := by rw [IntKind.wrap_i64]; omega
      go_wp2_with fail
      refine wp_region_held_drew (S := fun w' => (∀ b o, b < wr.heap.size → w'.cell? ⟨b, o, none⟩ = wr.cell? ⟨b, o, none⟩) ∧ wr.heap.size ≤ w'.heap.size ∧ Ext wr w') (by kernel_rfl) ?hS0 (fun hHeld => ?_)
      case hS0 => exact sK (Ext.drew (Ext.refl _))
      have X0 : Ext wr wr.drew := Ext.drew (Ext.refl wr)
      refine tk1 (i := 0) (v := ?v0a) rfl ?y0a ?r0a
      case y0a => (intro w' hSw; (try dsimp only at hSw); go_simp; (try with_reducible rfl))
      try simp only [Act.put, sq1, sq2, sq3, sq4, sq5, sq6]
      refine tk1 (i := 1) (v := ?v1a) rfl ?y1a ?r1a
      case y1a => (intro w' hSw; (try dsimp only at hSw); go_simp; (try with_reducible rfl))
      try simp only [Act.put, sq1, sq2, sq3, sq4, sq5, sq6]
      refine tk1 (i := 2) (v := ?v2a) rfl ?y2a ?r2a
      case y2a => (intro w' hSw; (try dsimp only at hSw); go_simp; (try with_reducible rfl))
      try simp only [Act.put, sq1, sq2, sq3, sq4, sq5, sq6]
      refine tk1 (i := 3) (v := ?v3a) rfl ?y3a ?r3a
      case y3a => (intro w' hSw; (try dsimp only at hSw); go_simp; (try with_reducible rfl))
      try simp only [Act.put, sq1, sq2, sq3, sq4, sq5, sq6]
      refine tk1 (i := 4) (v := ?v4a) rfl ?y4a ?r4a
      case y4a => (intro w' hSw; (try dsimp only at hSw); go_simp; (try with_reducible rfl))
      try simp only [Act.put, sq1, sq2, sq3, sq4, sq5, sq6]
      refine tk1 (i := 5) (v := ?v5a) rfl ?y5a ?r5a
      case y5a => (intro w' hSw; (try dsimp only at hSw); go_simp; (try with_reducible rfl))
      try simp only [Act.put, sq1, sq2, sq3, sq4, sq5, sq6]
      refine tk1 (i := 6) (v := ?v6a) rfl ?y6a ?r6a
      case y6a => (intro w' hSw; (try dsimp only at hSw); go_simp; (try with_reducible rfl))
      try simp only [Act.put, sq1, sq2, sq3, sq4, sq5, sq6]
      refine tk1 (i := 7) (v := ?v7b) rfl ?y7b ?r7b
      case y7b => (intro w' hSw; (try dsimp only at hSw); go_simp; (try with_reducible rfl))
      try simp only [Act.put, sq1, sq2, sq3, sq4, sq5, sq6]
      refine tk1 (i := 8) (v := ?v8c) rfl ?y8c ?r8c
      case y8c => (intro w' hSw; (try dsimp only at hSw); go_simp; (try with_reducible rfl))
      try simp only [Act.put, sq1, sq2, sq3, sq4, sq5, sq6]
      refine tk1 (i := 9) (v := ?v9c) rfl ?y9c ?r9c
      case y9c => (intro w' hSw; (try dsimp only at hSw); go_simp; (try with_reducible rfl))
      try simp only [Act.put, sq1, sq2, sq3, sq4, sq5, sq6]
      refine wpAnyH_ready (rs := [10]) (by kernel_rfl) (by simp) ?_
      refine AllReadyH.cons (o := _) rfl (fun K hK => ?_) AllReadyH.nil
      go_simp
      rw [HEG.out]
      refine Calls.mono (HFF.out x y _ (hE.trans X0)) ?_
      rintro e w2 ⟨rfl, hE2⟩
      dsimp only
      have X2 := X0.trans hE2
      clear hHeld
      refine hK.out _ _ (sK X2) (fun hHeld => ?_)
      clear hK K
      try simp only [Act.put, sq1, sq2, sq3, sq4, sq5, sq6]
      refine tk1 (i := 11) (v := ?v11d) rfl ?y11d ?r11d
      case y11d => (intro w' hSw; (try dsimp only at hSw); go_simp; (try with_reducible rfl))
      try simp only [Act.put, sq1, sq2, sq3, sq4, sq5, sq6]
      clear hHeld
      refine wpAnyH_done (by kernel_rfl) ?_ _
      rcases Bool.eq_false_or_eq_true (p x y) with hp | hp
      · rw [hp]
        have HP := hid (HS.out.trans (by rw [HA.out, hp]))
        clear hp
        go_wp2
        go_roundw
        case rel => exact ⟨by (repeat' (first | with_reducible assumption | with_reducible exact Ext.refl _ | with_reducible refine Ext.alloc ?_ _ | with_reducible refine Ext.set ?_ ?_ _ | with_reducible refine Ext.drew ?_ | with_reducible refine Ext.drewN ?_ _ | with_reducible refine Ext.trans ?_ (by assumption) | (dsimp only; omega))), k + 1, by omega, by go_num, HP.out⟩
        case measure => simp [intOf]; omega
      · rw [hp]
        have HP := hid (HY.out hp)
        clear hp
        go_wp2
        go_ret
        exact ⟨ret_bool HP.out.symm, by (repeat' (first | with_reducible assumption | with_reducible exact Ext.refl _ | with_reducible refine Ext.alloc ?_ _ | with_reducible refine Ext.set ?_ ?_ _ | with_reducible refine Ext.drew ?_ | with_reducible refine Ext.drewN ?_ _ | with_reducible refine Ext.trans ?_ (by assumption) | (dsimp only; omega)))⟩
    · have HP := hid (ordK_end p zeroWr xs k (by rw [HN.out]; omega) HA.out)
      have hi1 : ¬ (k : Int) < (n : Int) - 1 := by omega
      go_wp2
      go_ret
      exact ⟨ret_bool HP.out.symm, by (repeat' (first | with_reducible assumption | with_reducible exact Ext.refl _ | with_reducible refine Ext.alloc ?_ _ | with_reducible refine Ext.set ?_ ?_ _ | with_reducible refine Ext.drew ?_ | with_reducible refine Ext.drewN ?_ _ | with_reducible refine Ext.trans ?_ (by assumption) | (dsimp only; omega)))⟩
set_option maxRecDepth 100000 in
set_option maxHeartbeats 1000000 in
theorem ordFl_any (fn : Nat) (caps : Array Value) (eg : ∀ args w, (callFunc fn args).run Tryz.prog w = .ok (.enter fn args) w) (xs : List Fl) (p : Fl → Fl → Bool) (A : Option Addr) (n c : Nat) (hn : xs.length = n) (hm : n ≤ 10000) (w : World) (hx : FlsAt w A xs)
    (hf : ∀ (x y : Fl) (W : World), Ext w W → Calls Tryz.prog fn (#[x.val, y.val] ++ caps) W fun e W' => e = .returned (.bool (p x y)) ∧ Ext W W') :
    Calls Tryz.prog 138 #[.slice A n c, .func (.func fn) #[] caps] w fun e w' => e = .returned (.bool (ordB p zeroFl xs)) ∧ Ext w w' := by
  have HFF := hid hf
  have HX := hid hx
  have HN := hid hn
  have HEG := hid eg
  clear hf hx hn eg
  go_enter Tryz.func138, Tryz.ntmps138
  go_wp2
  go_loopw [9] (fun i wr => Ext w wr ∧ ∃ k : Nat, k ≤ n - 1 ∧ i = .int .i64 k ∧ ordK p zeroFl xs k = true) (fun i _ => n - (intOf i).toNat)
  case atStart => exact ⟨by (repeat' (first | with_reducible assumption | with_reducible exact Ext.refl _ | with_reducible refine Ext.alloc ?_ _ | with_reducible refine Ext.set ?_ ?_ _ | with_reducible refine Ext.drew ?_ | with_reducible refine Ext.drewN ?_ _ | with_reducible refine Ext.trans ?_ (by assumption) | (dsimp only; omega))), 0, Nat.zero_le _, rfl, rfl⟩
  case round =>
    obtain ⟨hE, k, hk, rfl, ha⟩ := hrel
    have HA := hid ha
    clear ha
    by_cases hlt : k + 1 < n
    · obtain ⟨b, off, hAe, hb, hck⟩ := (HX.out.ext hE).at_ HN.out (show k < n by omega)
      obtain ⟨b', off', hAe', hb', hck'⟩ := (HX.out.ext hE).at_ HN.out hlt
      rw [hAe] at hAe'
      cases hAe'
      subst hAe
      have HS := hid (ordK_succ p zeroFl xs k)
      have HY := hid (ordK_bad p zeroFl xs k (by rw [HN.out]; omega))
      have hi1 : (k : Int) < (n : Int) - 1 := by omega
      have hkn : k < n := by omega
      have hj0 : (0 : Int) ≤ (k : Int) + 1 := by omega
      have hj1 : (k : Int) + 1 < (n : Int) := by omega
      clear HX
      generalize xs.getD k zeroFl = x at *
      generalize xs.getD (k + 1) zeroFl = y at *
      obtain ⟨c0, c1, c2, c3, c4⟩ := hck
      obtain ⟨d0, d1, d2, d3, d4⟩ := hck'
      have hw' : IntKind.i64.wrap ((k : Int) + 1) = ((k + 1 : Nat) : Int) := by rw [IntKind.wrap_i64]; omega
      go_wp2_with fail
      refine wp_region_held_drew (S := fun w' => (∀ b o, b < wr.heap.size → w'.cell? ⟨b, o, none⟩ = wr.cell? ⟨b, o, none⟩) ∧ wr.heap.size ≤ w'.heap.size ∧ Ext wr w') (by kernel_rfl) ?hS0 (fun hHeld => ?_)
      case hS0 => exact sK (Ext.drew (Ext.refl _))
      have X0 : Ext wr wr.drew := Ext.drew (Ext.refl wr)
      refine tk1 (i := 0) (v := ?v0a) rfl ?y0a ?r0a
      case y0a => (intro w' hSw; (try dsimp only at hSw); go_simp; (try with_reducible rfl))
      try simp only [Act.put, sq1, sq2, sq3, sq4, sq5, sq6]
      refine tk1 (i := 1) (v := ?v1a) rfl ?y1a ?r1a
      case y1a => (intro w' hSw; (try dsimp only at hSw); go_simp; (try with_reducible rfl))
      try simp only [Act.put, sq1, sq2, sq3, sq4, sq5, sq6]
      refine tk1 (i := 2) (v := ?v2a) rfl ?y2a ?r2a
      case y2a => (intro w' hSw; (try dsimp only at hSw); go_simp; (try with_reducible rfl))
      try simp only [Act.put, sq1, sq2, sq3, sq4, sq5, sq6]
      refine tk1 (i := 3) (v := ?v3a) rfl ?y3a ?r3a
      case y3a => (intro w' hSw; (try dsimp only at hSw); go_simp; (try with_reducible rfl))
      try simp only [Act.put, sq1, sq2, sq3, sq4, sq5, sq6]
      refine tk1 (i := 4) (v := ?v4a) rfl ?y4a ?r4a
      case y4a => (intro w' hSw; (try dsimp only at hSw); go_simp; (try with_reducible rfl))
      try simp only [Act.put, sq1, sq2, sq3, sq4, sq5, sq6]
      refine tk1 (i := 5) (v := ?v5a) rfl ?y5a ?r5a
      case y5a => (intro w' hSw; (try dsimp only at hSw); go_simp; (try with_reducible rfl))
      try simp only [Act.put, sq1, sq2, sq3, sq4, sq5, sq6]
      refine tk1 (i := 6) (v := ?v6a) rfl ?y6a ?r6a
      case y6a => (intro w' hSw; (try dsimp only at hSw); go_simp; (try with_reducible rfl))
      try simp only [Act.put, sq1, sq2, sq3, sq4, sq5, sq6]
      refine tk1 (i := 7) (v := ?v7b) rfl ?y7b ?r7b
      case y7b => (intro w' hSw; (try dsimp only at hSw); go_simp; (try with_reducible rfl))
      try simp only [Act.put, sq1, sq2, sq3, sq4, sq5, sq6]
      refine tk1 (i := 8) (v := ?v8c) rfl ?y8c ?r8c
      case y8c => (intro w' hSw; (try dsimp only at hSw); go_simp; (try with_reducible rfl))
      try simp only [Act.put, sq1, sq2, sq3, sq4, sq5, sq6]
      refine tk1 (i := 9) (v := ?v9c) rfl ?y9c ?r9c
      case y9c => (intro w' hSw; (try dsimp only at hSw); go_simp; (try with_reducible rfl))
      try simp only [Act.put, sq1, sq2, sq3, sq4, sq5, sq6]
      refine wpAnyH_ready (rs := [10]) (by kernel_rfl) (by simp) ?_
      refine AllReadyH.cons (o := _) rfl (fun K hK => ?_) AllReadyH.nil
      go_simp
      rw [HEG.out]
      refine Calls.mono (HFF.out x y _ (hE.trans X0)) ?_
      rintro e w2 ⟨rfl, hE2⟩
      dsimp only
      have X2 := X0.trans hE2
      clear hHeld
      refine hK.out _ _ (sK X2) (fun hHeld => ?_)
      clear hK K
      try simp only [Act.put, sq1, sq2, sq3, sq4, sq5, sq6]
      refine tk1 (i := 11) (v := ?v11d) rfl ?y11d ?r11d
      case y11d => (intro w' hSw; (try dsimp only at hSw); go_simp; (try with_reducible rfl))
      try simp only [Act.put, sq1, sq2, sq3, sq4, sq5, sq6]
      clear hHeld
      refine wpAnyH_done (by kernel_rfl) ?_ _
      rcases Bool.eq_false_or_eq_true (p x y) with hp | hp
      · rw [hp]
        have HP := hid (HS.out.trans (by rw [HA.out, hp]))
        clear hp
        go_wp2
        go_roundw
        case rel => exact ⟨by (repeat' (first | with_reducible assumption | with_reducible exact Ext.refl _ | with_reducible refine Ext.alloc ?_ _ | with_reducible refine Ext.set ?_ ?_ _ | with_reducible refine Ext.drew ?_ | with_reducible refine Ext.drewN ?_ _ | with_reducible refine Ext.trans ?_ (by assumption) | (dsimp only; omega))), k + 1, by omega, by go_num, HP.out⟩
        case measure => simp [intOf]; omega
      · rw [hp]
        have HP := hid (HY.out hp)
        clear hp
        go_wp2
        go_ret
        exact ⟨ret_bool HP.out.symm, by (repeat' (first | with_reducible assumption | with_reducible exact Ext.refl _ | with_reducible refine Ext.alloc ?_ _ | with_reducible refine Ext.set ?_ ?_ _ | with_reducible refine Ext.drew ?_ | with_reducible refine Ext.drewN ?_ _ | with_reducible refine Ext.trans ?_ (by assumption) | (dsimp only; omega)))⟩
    · have HP := hid (ordK_end p zeroFl xs k (by rw [HN.out]; omega) HA.out)
      have hi1 : ¬ (k : Int) < (n : Int) - 1 := by omega
      go_wp2
      go_ret
      exact ⟨ret_bool HP.out.symm, by (repeat' (first | with_reducible assumption | with_reducible exact Ext.refl _ | with_reducible refine Ext.alloc ?_ _ | with_reducible refine Ext.set ?_ ?_ _ | with_reducible refine Ext.drew ?_ | with_reducible refine Ext.drewN ?_ _ | with_reducible refine Ext.trans ?_ (by assumption) | (dsimp only; omega)))⟩
set_option maxRecDepth 100000 in
set_option maxHeartbeats 1000000 in
theorem ordPo_any (fn : Nat) (caps : Array Value) (eg : ∀ args w, (callFunc fn args).run Tryz.prog w = .ok (.enter fn args) w) (xs : List Po) (p : Po → Po → Bool) (A : Option Addr) (n c : Nat) (hn : xs.length = n) (hm : n ≤ 10000) (w : World) (hx : PosAt w A xs)
    (hf : ∀ (x y : Po) (W : World), Ext w W → Calls Tryz.prog fn (#[x.val, y.val] ++ caps) W fun e W' => e = .returned (.bool (p x y)) ∧ Ext W W') :
    Calls Tryz.prog 126 #[.slice A n c, .func (.func fn) #[] caps] w fun e w' => e = .returned (.bool (ordB p zeroPo xs)) ∧ Ext w w' := by
  have HFF := hid hf
  have HX := hid hx
  have HN := hid hn
  have HEG := hid eg
  clear hf hx hn eg
  go_enter Tryz.func126, Tryz.ntmps126
  go_wp2
  go_loopw [9] (fun i wr => Ext w wr ∧ ∃ k : Nat, k ≤ n - 1 ∧ i = .int .i64 k ∧ ordK p zeroPo xs k = true) (fun i _ => n - (intOf i).toNat)
  case atStart => exact ⟨by (repeat' (first | with_reducible assumption | with_reducible exact Ext.refl _ | with_reducible refine Ext.alloc ?_ _ | with_reducible refine Ext.set ?_ ?_ _ | with_reducible refine Ext.drew ?_ | with_reducible refine Ext.drewN ?_ _ | with_reducible refine Ext.trans ?_ (by assumption) | (dsimp only; omega))), 0, Nat.zero_le _, rfl, rfl⟩
  case round =>
    obtain ⟨hE, k, hk, rfl, ha⟩ := hrel
    have HA := hid ha
    clear ha
    by_cases hlt : k + 1 < n
    · obtain ⟨b, off, hAe, hb, hck⟩ := (HX.out.ext hE).at_ HN.out (show k < n by omega)
      obtain ⟨b', off', hAe', hb', hck'⟩ := (HX.out.ext hE).at_ HN.out hlt
      rw [hAe] at hAe'
      cases hAe'
      subst hAe
      have HS := hid (ordK_succ p zeroPo xs k)
      have HY := hid (ordK_bad p zeroPo xs k (by rw [HN.out]; omega))
      have hi1 : (k : Int) < (n : Int) - 1 := by omega
      have hkn : k < n := by omega
      have hj0 : (0 : Int) ≤ (k : Int) + 1 := by omega
      have hj1 : (k : Int) + 1 < (n : Int) := by omega
      clear HX
      generalize xs.getD k zeroPo = x at *
      generalize xs.getD (k + 1) zeroPo = y at *
      obtain ⟨c0, c1, c2⟩ := hck
      obtain ⟨d0, d1, d2⟩ := hck'
      have hw' : IntKind.i64.wrap ((k : Int) + 1) = ((k + 1 : Nat) : Int) := by rw [IntKind.wrap_i64]; omega
      go_wp2_with fail
      refine wp_region_held_drew (S := fun w' => (∀ b o, b < wr.heap.size → w'.cell? ⟨b, o, none⟩ = wr.cell? ⟨b, o, none⟩) ∧ wr.heap.size ≤ w'.heap.size ∧ Ext wr w') (by kernel_rfl) ?hS0 (fun hHeld => ?_)
      case hS0 => exact sK (Ext.drew (Ext.refl _))
      have X0 : Ext wr wr.drew := Ext.drew (Ext.refl wr)
      refine tk1 (i := 0) (v := ?v0a) rfl ?y0a ?r0a
      case y0a => (intro w' hSw; (try dsimp only at hSw); go_simp; (try with_reducible rfl))
      try simp only [Act.put, sq1, sq2, sq3, sq4, sq5, sq6]
      refine tk1 (i := 1) (v := ?v1a) rfl ?y1a ?r1a
      case y1a => (intro w' hSw; (try dsimp only at hSw); go_simp; (try with_reducible rfl))
      try simp only [Act.put, sq1, sq2, sq3, sq4, sq5, sq6]
      refine tk1 (i := 2) (v := ?v2a) rfl ?y2a ?r2a
      case y2a => (intro w' hSw; (try dsimp only at hSw); go_simp; (try with_reducible rfl))
      try simp only [Act.put, sq1, sq2, sq3, sq4, sq5, sq6]
      refine tk1 (i := 3) (v := ?v3a) rfl ?y3a ?r3a
      case y3a => (intro w' hSw; (try dsimp only at hSw); go_simp; (try with_reducible rfl))
      try simp only [Act.put, sq1, sq2, sq3, sq4, sq5, sq6]
      refine tk1 (i := 4) (v := ?v4a) rfl ?y4a ?r4a
      case y4a => (intro w' hSw; (try dsimp only at hSw); go_simp; (try with_reducible rfl))
      try simp only [Act.put, sq1, sq2, sq3, sq4, sq5, sq6]
      refine tk1 (i := 5) (v := ?v5a) rfl ?y5a ?r5a
      case y5a => (intro w' hSw; (try dsimp only at hSw); go_simp; (try with_reducible rfl))
      try simp only [Act.put, sq1, sq2, sq3, sq4, sq5, sq6]
      refine tk1 (i := 6) (v := ?v6a) rfl ?y6a ?r6a
      case y6a => (intro w' hSw; (try dsimp only at hSw); go_simp; (try with_reducible rfl))
      try simp only [Act.put, sq1, sq2, sq3, sq4, sq5, sq6]
      refine tk1 (i := 7) (v := ?v7b) rfl ?y7b ?r7b
      case y7b => (intro w' hSw; (try dsimp only at hSw); go_simp; (try with_reducible rfl))
      try simp only [Act.put, sq1, sq2, sq3, sq4, sq5, sq6]
      refine tk1 (i := 8) (v := ?v8c) rfl ?y8c ?r8c
      case y8c => (intro w' hSw; (try dsimp only at hSw); go_simp; (try with_reducible rfl))
      try simp only [Act.put, sq1, sq2, sq3, sq4, sq5, sq6]
      refine tk1 (i := 9) (v := ?v9c) rfl ?y9c ?r9c
      case y9c => (intro w' hSw; (try dsimp only at hSw); go_simp; (try with_reducible rfl))
      try simp only [Act.put, sq1, sq2, sq3, sq4, sq5, sq6]
      refine wpAnyH_ready (rs := [10]) (by kernel_rfl) (by simp) ?_
      refine AllReadyH.cons (o := _) rfl (fun K hK => ?_) AllReadyH.nil
      go_simp
      rw [HEG.out]
      refine Calls.mono (HFF.out x y _ (hE.trans X0)) ?_
      rintro e w2 ⟨rfl, hE2⟩
      dsimp only
      have X2 := X0.trans hE2
      clear hHeld
      refine hK.out _ _ (sK X2) (fun hHeld => ?_)
      clear hK K
      try simp only [Act.put, sq1, sq2, sq3, sq4, sq5, sq6]
      refine tk1 (i := 11) (v := ?v11d) rfl ?y11d ?r11d
      case y11d => (intro w' hSw; (try dsimp only at hSw); go_simp; (try with_reducible rfl))
      try simp only [Act.put, sq1, sq2, sq3, sq4, sq5, sq6]
      clear hHeld
      refine wpAnyH_done (by kernel_rfl) ?_ _
      rcases Bool.eq_false_or_eq_true (p x y) with hp | hp
      · rw [hp]
        have HP := hid (HS.out.trans (by rw [HA.out, hp]))
        clear hp
        go_wp2
        go_roundw
        case rel => exact ⟨by (repeat' (first | with_reducible assumption | with_reducible exact Ext.refl _ | with_reducible refine Ext.alloc ?_ _ | with_reducible refine Ext.set ?_ ?_ _ | with_reducible refine Ext.drew ?_ | with_reducible refine Ext.drewN ?_ _ | with_reducible refine Ext.trans ?_ (by assumption) | (dsimp only; omega))), k + 1, by omega, by go_num, HP.out⟩
        case measure => simp [intOf]; omega
      · rw [hp]
        have HP := hid (HY.out hp)
        clear hp
        go_wp2
        go_ret
        exact ⟨ret_bool HP.out.symm, by (repeat' (first | with_reducible assumption | with_reducible exact Ext.refl _ | with_reducible refine Ext.alloc ?_ _ | with_reducible refine Ext.set ?_ ?_ _ | with_reducible refine Ext.drew ?_ | with_reducible refine Ext.drewN ?_ _ | with_reducible refine Ext.trans ?_ (by assumption) | (dsimp only; omega)))⟩
    · have HP := hid (ordK_end p zeroPo xs k (by rw [HN.out]; omega) HA.out)
      have hi1 : ¬ (k : Int) < (n : Int) - 1 := by omega
      go_wp2
      go_ret
      exact ⟨ret_bool HP.out.symm, by (repeat' (first | with_reducible assumption | with_reducible exact Ext.refl _ | with_reducible refine Ext.alloc ?_ _ | with_reducible refine Ext.set ?_ ?_ _ | with_reducible refine Ext.drew ?_ | with_reducible refine Ext.drewN ?_ _ | with_reducible refine Ext.trans ?_ (by assumption) | (dsimp only; omega)))⟩
end Go.Proofs.YtggggnjibedgaaaGreat
/- Which models and ropes are valid: the code. -/
set_option linter.unusedSimpArgs false
set_option linter.unusedVariables false
namespace Go.Proofs.YtggggnjibedgaaaGreat
open Go.RowKit
set_option maxHeartbeats 1000000 in
theorem isWear_any (x : Wr) (w : World) : Calls Tryz.prog 130 #[x.val] w fun e w' => e = .returned (.bool (wrB x)) ∧ Ext w w' := by
  unfold wrB Wr.val
  obtain ⟨f, d⟩ := x
  dsimp only
  have HW := hid (fun a b c W => within_any a b c W)
  obtain ⟨b1, h1⟩ : ∃ b, inI f 1 200 = b := ⟨_, rfl⟩
  obtain ⟨b2, h2⟩ : ∃ b, inI d 0 100 = b := ⟨_, rfl⟩
  rw [h1, h2]
  cases b1 <;>
  (go_enter Tryz.func130, Tryz.ntmps130
   go_wp2_with (go_at_call 72; refine (HW.out _ _ _ _).mono ?_; rintro e w2 ⟨rfl, rfl⟩; simp only [h1, h2])
   go_ret
   exact ⟨ret_bool (by simp), by (repeat' (first | with_reducible assumption | with_reducible exact Ext.refl _ | with_reducible refine Ext.alloc ?_ _ | with_reducible refine Ext.set ?_ ?_ _ | with_reducible refine Ext.drew ?_ | with_reducible refine Ext.drewN ?_ _ | with_reducible refine Ext.trans ?_ (by assumption) | (dsimp only; omega)))⟩)
set_option maxHeartbeats 1000000 in
theorem wearO_any (x y : Wr) (w : World) : Calls Tryz.prog 131 #[x.val, y.val] w fun e w' => e = .returned (.bool (wrO x y)) ∧ Ext w w' := by
  unfold wrO Wr.val
  obtain ⟨f, d⟩ := x
  obtain ⟨f', d'⟩ := y
  dsimp only
  go_enter Tryz.func131, Tryz.ntmps131
  go_wp2
  all_goals (go_ret; exact ⟨ret_bool (by first | (simp [*]; done) | (simp [*]; omega)), by (repeat' (first | with_reducible assumption | with_reducible exact Ext.refl _ | with_reducible refine Ext.alloc ?_ _ | with_reducible refine Ext.set ?_ ?_ _ | with_reducible refine Ext.drew ?_ | with_reducible refine Ext.drewN ?_ _ | with_reducible refine Ext.trans ?_ (by assumption) | (dsimp only; omega)))⟩)
set_option maxHeartbeats 2000000 in
theorem isModel_any (m : Md) (A : Option Addr) (c : Nat) (hm : m.wears.length ≤ 1000) (w : World) (hx : WrsAt w A m.wears) :
    Calls Tryz.prog 101 #[m.val A c] w fun e w' => e = .returned (.bool (mdB m)) ∧ Ext w w' := by
  have HA := hid (fun (W : World) (hE : Ext w W) => allWr_any 130 #[] (fun _ _ => by kernel_rfl) m.wears wrB A m.wears.length c rfl (by omega) W (hx.ext hE) (fun x W' _ _ => isWear_any x W'))
  have HO := hid (fun (W : World) (hE : Ext w W) => ordWr_any 131 #[] (fun _ _ => by kernel_rfl) m.wears wrO A m.wears.length c rfl (by omega) W (hx.ext hE) (fun x y W' _ => wearO_any x y W'))
  have HW := hid (fun a b c W => within_any a b c W)
  clear hx
  unfold mdB Md.val
  obtain ⟨sh, us, be, ws⟩ := m
  dsimp only at *
  generalize ws.all wrB = b5 at *
  generalize ordB wrO zeroWr ws = b6 at *
  generalize ws.length = n at *
  obtain ⟨b1, h1⟩ : ∃ b, inI sh 1 10000 = b := ⟨_, rfl⟩
  obtain ⟨b2, h2⟩ : ∃ b, inI us 1 10000 = b := ⟨_, rfl⟩
  obtain ⟨b3, h3⟩ : ∃ b, inI be 0 100 = b := ⟨_, rfl⟩
  rw [h1, h2, h3]
  cases b1
  case false => go_enter Tryz.func101, Tryz.ntmps101
                go_wp2_with (first
                  | (go_at_call 72; refine (HW.out _ _ _ _).mono ?_; rintro e w2 ⟨rfl, rfl⟩; simp only [h1, h2, h3])
                  | (go_at_call 132; refine (HA.out _ (by (repeat' (first | with_reducible assumption | with_reducible exact Ext.refl _ | with_reducible refine Ext.alloc ?_ _ | with_reducible refine Ext.set ?_ ?_ _ | with_reducible refine Ext.drew ?_ | with_reducible refine Ext.drewN ?_ _ | with_reducible refine Ext.trans ?_ (by assumption) | (dsimp only; omega))))).mono ?_; rintro e w2 ⟨rfl, hE⟩; (first | (have hK := KC.step (n := w.heap.size + 1) (by with_reducible assumption) hE) | (have hK := KC.step (KC.step (n := w.heap.size + 1) (by with_reducible assumption) (ext_alloc1 _ _)) hE) | (have hK := KC.step (KC.refl (n := w.heap.size + 1) (by simp)) hE)); have hC := hK.cell; have hF := hK.fro; have hX := hK.ext)
                  | (go_at_call 133; refine (HO.out _ (by (repeat' (first | with_reducible assumption | with_reducible exact Ext.refl _ | with_reducible refine Ext.alloc ?_ _ | with_reducible refine Ext.set ?_ ?_ _ | with_reducible refine Ext.drew ?_ | with_reducible refine Ext.drewN ?_ _ | with_reducible refine Ext.trans ?_ (by assumption) | (dsimp only; omega))))).mono ?_; rintro e w2 ⟨rfl, hE⟩; (first | (have hK := KC.step (n := w.heap.size + 1) (by with_reducible assumption) hE) | (have hK := KC.step (KC.step (n := w.heap.size + 1) (by with_reducible assumption) (ext_alloc1 _ _)) hE) | (have hK := KC.step (KC.refl (n := w.heap.size + 1) (by simp)) hE)); have hC := hK.cell; have hF := hK.fro; have hX := hK.ext))
                go_ret
                exact ⟨ret_bool (by simp [*]), by (repeat' (first | with_reducible assumption | with_reducible exact Ext.refl _ | with_reducible refine Ext.alloc ?_ _ | with_reducible refine Ext.set ?_ ?_ _ | with_reducible refine Ext.drew ?_ | with_reducible refine Ext.drewN ?_ _ | with_reducible refine Ext.trans ?_ (by assumption) | (dsimp only; omega)))⟩
  cases b2
  case false => go_enter Tryz.func101, Tryz.ntmps101
                go_wp2_with (first
                  | (go_at_call 72; refine (HW.out _ _ _ _).mono ?_; rintro e w2 ⟨rfl, rfl⟩; simp only [h1, h2, h3])
                  | (go_at_call 132; refine (HA.out _ (by (repeat' (first | with_reducible assumption | with_reducible exact Ext.refl _ | with_reducible refine Ext.alloc ?_ _ | with_reducible refine Ext.set ?_ ?_ _ | with_reducible refine Ext.drew ?_ | with_reducible refine Ext.drewN ?_ _ | with_reducible refine Ext.trans ?_ (by assumption) | (dsimp only; omega))))).mono ?_; rintro e w2 ⟨rfl, hE⟩; (first | (have hK := KC.step (n := w.heap.size + 1) (by with_reducible assumption) hE) | (have hK := KC.step (KC.step (n := w.heap.size + 1) (by with_reducible assumption) (ext_alloc1 _ _)) hE) | (have hK := KC.step (KC.refl (n := w.heap.size + 1) (by simp)) hE)); have hC := hK.cell; have hF := hK.fro; have hX := hK.ext)
                  | (go_at_call 133; refine (HO.out _ (by (repeat' (first | with_reducible assumption | with_reducible exact Ext.refl _ | with_reducible refine Ext.alloc ?_ _ | with_reducible refine Ext.set ?_ ?_ _ | with_reducible refine Ext.drew ?_ | with_reducible refine Ext.drewN ?_ _ | with_reducible refine Ext.trans ?_ (by assumption) | (dsimp only; omega))))).mono ?_; rintro e w2 ⟨rfl, hE⟩; (first | (have hK := KC.step (n := w.heap.size + 1) (by with_reducible assumption) hE) | (have hK := KC.step (KC.step (n := w.heap.size + 1) (by with_reducible assumption) (ext_alloc1 _ _)) hE) | (have hK := KC.step (KC.refl (n := w.heap.size + 1) (by simp)) hE)); have hC := hK.cell; have hF := hK.fro; have hX := hK.ext))
                go_ret
                exact ⟨ret_bool (by simp [*]), by (repeat' (first | with_reducible assumption | with_reducible exact Ext.refl _ | with_reducible refine Ext.alloc ?_ _ | with_reducible refine Ext.set ?_ ?_ _ | with_reducible refine Ext.drew ?_ | with_reducible refine Ext.drewN ?_ _ | with_reducible refine Ext.trans ?_ (by assumption) | (dsimp only; omega)))⟩
  cases b3
  case false => go_enter Tryz.func101, Tryz.ntmps101
                go_wp2_with (first
                  | (go_at_call 72; refine (HW.out _ _ _ _).mono ?_; rintro e w2 ⟨rfl, rfl⟩; simp only [h1, h2, h3])
                  | (go_at_call 132; refine (HA.out _ (by (repeat' (first | with_reducible assumption | with_reducible exact Ext.refl _ | with_reducible refine Ext.alloc ?_ _ | with_reducible refine Ext.set ?_ ?_ _ | with_reducible refine Ext.drew ?_ | with_reducible refine Ext.drewN ?_ _ | with_reducible refine Ext.trans ?_ (by assumption) | (dsimp only; omega))))).mono ?_; rintro e w2 ⟨rfl, hE⟩; (first | (have hK := KC.step (n := w.heap.size + 1) (by with_reducible assumption) hE) | (have hK := KC.step (KC.step (n := w.heap.size + 1) (by with_reducible assumption) (ext_alloc1 _ _)) hE) | (have hK := KC.step (KC.refl (n := w.heap.size + 1) (by simp)) hE)); have hC := hK.cell; have hF := hK.fro; have hX := hK.ext)
                  | (go_at_call 133; refine (HO.out _ (by (repeat' (first | with_reducible assumption | with_reducible exact Ext.refl _ | with_reducible refine Ext.alloc ?_ _ | with_reducible refine Ext.set ?_ ?_ _ | with_reducible refine Ext.drew ?_ | with_reducible refine Ext.drewN ?_ _ | with_reducible refine Ext.trans ?_ (by assumption) | (dsimp only; omega))))).mono ?_; rintro e w2 ⟨rfl, hE⟩; (first | (have hK := KC.step (n := w.heap.size + 1) (by with_reducible assumption) hE) | (have hK := KC.step (KC.step (n := w.heap.size + 1) (by with_reducible assumption) (ext_alloc1 _ _)) hE) | (have hK := KC.step (KC.refl (n := w.heap.size + 1) (by simp)) hE)); have hC := hK.cell; have hF := hK.fro; have hX := hK.ext))
                go_ret
                exact ⟨ret_bool (by simp [*]), by (repeat' (first | with_reducible assumption | with_reducible exact Ext.refl _ | with_reducible refine Ext.alloc ?_ _ | with_reducible refine Ext.set ?_ ?_ _ | with_reducible refine Ext.drew ?_ | with_reducible refine Ext.drewN ?_ _ | with_reducible refine Ext.trans ?_ (by assumption) | (dsimp only; omega)))⟩
  by_cases h4 : n ≤ 6
  case neg => go_enter Tryz.func101, Tryz.ntmps101
              go_wp2_with (first
                | (go_at_call 72; refine (HW.out _ _ _ _).mono ?_; rintro e w2 ⟨rfl, rfl⟩; simp only [h1, h2, h3])
                | (go_at_call 132; refine (HA.out _ (by (repeat' (first | with_reducible assumption | with_reducible exact Ext.refl _ | with_reducible refine Ext.alloc ?_ _ | with_reducible refine Ext.set ?_ ?_ _ | with_reducible refine Ext.drew ?_ | with_reducible refine Ext.drewN ?_ _ | with_reducible refine Ext.trans ?_ (by assumption) | (dsimp only; omega))))).mono ?_; rintro e w2 ⟨rfl, hE⟩; (first | (have hK := KC.step (n := w.heap.size + 1) (by with_reducible assumption) hE) | (have hK := KC.step (KC.step (n := w.heap.size + 1) (by with_reducible assumption) (ext_alloc1 _ _)) hE) | (have hK := KC.step (KC.refl (n := w.heap.size + 1) (by simp)) hE)); have hC := hK.cell; have hF := hK.fro; have hX := hK.ext)
                | (go_at_call 133; refine (HO.out _ (by (repeat' (first | with_reducible assumption | with_reducible exact Ext.refl _ | with_reducible refine Ext.alloc ?_ _ | with_reducible refine Ext.set ?_ ?_ _ | with_reducible refine Ext.drew ?_ | with_reducible refine Ext.drewN ?_ _ | with_reducible refine Ext.trans ?_ (by assumption) | (dsimp only; omega))))).mono ?_; rintro e w2 ⟨rfl, hE⟩; (first | (have hK := KC.step (n := w.heap.size + 1) (by with_reducible assumption) hE) | (have hK := KC.step (KC.step (n := w.heap.size + 1) (by with_reducible assumption) (ext_alloc1 _ _)) hE) | (have hK := KC.step (KC.refl (n := w.heap.size + 1) (by simp)) hE)); have hC := hK.cell; have hF := hK.fro; have hX := hK.ext))
              go_ret
              exact ⟨ret_bool (by simp [*]), by (repeat' (first | with_reducible assumption | with_reducible exact Ext.refl _ | with_reducible refine Ext.alloc ?_ _ | with_reducible refine Ext.set ?_ ?_ _ | with_reducible refine Ext.drew ?_ | with_reducible refine Ext.drewN ?_ _ | with_reducible refine Ext.trans ?_ (by assumption) | (dsimp only; omega)))⟩
  cases b5
  case false => go_enter Tryz.func101, Tryz.ntmps101
                go_wp2_with (first
                  | (go_at_call 72; refine (HW.out _ _ _ _).mono ?_; rintro e w2 ⟨rfl, rfl⟩; simp only [h1, h2, h3])
                  | (go_at_call 132; refine (HA.out _ (by (repeat' (first | with_reducible assumption | with_reducible exact Ext.refl _ | with_reducible refine Ext.alloc ?_ _ | with_reducible refine Ext.set ?_ ?_ _ | with_reducible refine Ext.drew ?_ | with_reducible refine Ext.drewN ?_ _ | with_reducible refine Ext.trans ?_ (by assumption) | (dsimp only; omega))))).mono ?_; rintro e w2 ⟨rfl, hE⟩; (first | (have hK := KC.step (n := w.heap.size + 1) (by with_reducible assumption) hE) | (have hK := KC.step (KC.step (n := w.heap.size + 1) (by with_reducible assumption) (ext_alloc1 _ _)) hE) | (have hK := KC.step (KC.refl (n := w.heap.size + 1) (by simp)) hE)); have hC := hK.cell; have hF := hK.fro; have hX := hK.ext)
                  | (go_at_call 133; refine (HO.out _ (by (repeat' (first | with_reducible assumption | with_reducible exact Ext.refl _ | with_reducible refine Ext.alloc ?_ _ | with_reducible refine Ext.set ?_ ?_ _ | with_reducible refine Ext.drew ?_ | with_reducible refine Ext.drewN ?_ _ | with_reducible refine Ext.trans ?_ (by assumption) | (dsimp only; omega))))).mono ?_; rintro e w2 ⟨rfl, hE⟩; (first | (have hK := KC.step (n := w.heap.size + 1) (by with_reducible assumption) hE) | (have hK := KC.step (KC.step (n := w.heap.size + 1) (by with_reducible assumption) (ext_alloc1 _ _)) hE) | (have hK := KC.step (KC.refl (n := w.heap.size + 1) (by simp)) hE)); have hC := hK.cell; have hF := hK.fro; have hX := hK.ext))
                go_ret
                exact ⟨ret_bool (by simp [*]), by (repeat' (first | with_reducible assumption | with_reducible exact Ext.refl _ | with_reducible refine Ext.alloc ?_ _ | with_reducible refine Ext.set ?_ ?_ _ | with_reducible refine Ext.drew ?_ | with_reducible refine Ext.drewN ?_ _ | with_reducible refine Ext.trans ?_ (by assumption) | (dsimp only; omega)))⟩
  go_enter Tryz.func101, Tryz.ntmps101
  go_wp2_with (first
    | (go_at_call 72; refine (HW.out _ _ _ _).mono ?_; rintro e w2 ⟨rfl, rfl⟩; simp only [h1, h2, h3])
    | (go_at_call 132; refine (HA.out _ (by (repeat' (first | with_reducible assumption | with_reducible exact Ext.refl _ | with_reducible refine Ext.alloc ?_ _ | with_reducible refine Ext.set ?_ ?_ _ | with_reducible refine Ext.drew ?_ | with_reducible refine Ext.drewN ?_ _ | with_reducible refine Ext.trans ?_ (by assumption) | (dsimp only; omega))))).mono ?_; rintro e w2 ⟨rfl, hE⟩; (first | (have hK := KC.step (n := w.heap.size + 1) (by with_reducible assumption) hE) | (have hK := KC.step (KC.step (n := w.heap.size + 1) (by with_reducible assumption) (ext_alloc1 _ _)) hE) | (have hK := KC.step (KC.refl (n := w.heap.size + 1) (by simp)) hE)); have hC := hK.cell; have hF := hK.fro; have hX := hK.ext)
    | (go_at_call 133; refine (HO.out _ (by (repeat' (first | with_reducible assumption | with_reducible exact Ext.refl _ | with_reducible refine Ext.alloc ?_ _ | with_reducible refine Ext.set ?_ ?_ _ | with_reducible refine Ext.drew ?_ | with_reducible refine Ext.drewN ?_ _ | with_reducible refine Ext.trans ?_ (by assumption) | (dsimp only; omega))))).mono ?_; rintro e w2 ⟨rfl, hE⟩; (first | (have hK := KC.step (n := w.heap.size + 1) (by with_reducible assumption) hE) | (have hK := KC.step (KC.step (n := w.heap.size + 1) (by with_reducible assumption) (ext_alloc1 _ _)) hE) | (have hK := KC.step (KC.refl (n := w.heap.size + 1) (by simp)) hE)); have hC := hK.cell; have hF := hK.fro; have hX := hK.ext))
  go_ret
  exact ⟨ret_bool (by simp [*]), by (repeat' (first | with_reducible assumption | with_reducible exact Ext.refl _ | with_reducible refine Ext.alloc ?_ _ | with_reducible refine Ext.set ?_ ?_ _ | with_reducible refine Ext.drew ?_ | with_reducible refine Ext.drewN ?_ _ | with_reducible refine Ext.trans ?_ (by assumption) | (dsimp only; omega)))⟩
set_option maxHeartbeats 2000000 in
theorem isFall_any (r : Ro) (x : Fl) (q : Nat) (w : World) (hq : q < w.heap.size) (c1 : w.cell? ⟨q, 1, none⟩ = some (.int .i64 r.first)) :
    Calls Tryz.prog 134 #[x.val, .pointer (some ⟨q, 0, none⟩)] w fun e w' => e = .returned (.bool (flB r.first x)) ∧ Ext w w' := by
  unfold flB Fl.val
  have HW := hid (fun a b c W => within_any a b c W)
  have HS := hid (fun s b c W => spanW_any s b c W)
  obtain ⟨d, hl, hh, ol, oh⟩ := x
  dsimp only
  generalize r.first = f at *
  unfold Sp.val at HS
  obtain ⟨b2, h2⟩ : ∃ b, inI d f 99999 = b := ⟨_, rfl⟩
  obtain ⟨b3, h3⟩ : ∃ b, spB hl hh 1 1000 = b := ⟨_, rfl⟩
  obtain ⟨b4, h4⟩ : ∃ b, spB ol oh 1 1000 = b := ⟨_, rfl⟩
  rw [h2, h3, h4]
  by_cases h1 : f = -1
  · subst h1
    go_enter Tryz.func134, Tryz.ntmps134
    go_wp2_with (first
      | (go_at_call 72; refine (HW.out _ _ _ _).mono ?_; rintro e w2 ⟨rfl, rfl⟩; simp only [h2])
      | (go_at_call 104; refine (HS.out ⟨_, _⟩ _ _ _).mono ?_; rintro e w2 ⟨rfl, hE⟩; dsimp only; simp only [h3, h4]; (first | (have hK := KC.step (n := w.heap.size + 1) (by with_reducible assumption) hE) | (have hK := KC.step (KC.step (n := w.heap.size + 1) (by with_reducible assumption) (ext_alloc1 _ _)) hE) | (have hK := KC.step (KC.refl (n := w.heap.size + 1) (by simp)) hE)); have hC := hK.cell; have hF := hK.fro; have hX := hK.ext))
    go_ret
    exact ⟨ret_bool (by simp [*, bne]), by (repeat' (first | with_reducible assumption | with_reducible exact Ext.refl _ | with_reducible refine Ext.alloc ?_ _ | with_reducible refine Ext.set ?_ ?_ _ | with_reducible refine Ext.drew ?_ | with_reducible refine Ext.drewN ?_ _ | with_reducible refine Ext.trans ?_ (by assumption) | (dsimp only; omega)))⟩
  cases b2
  case false => go_enter Tryz.func134, Tryz.ntmps134
                go_wp2_with (first
                  | (go_at_call 72; refine (HW.out _ _ _ _).mono ?_; rintro e w2 ⟨rfl, rfl⟩; simp only [h2])
                  | (go_at_call 104; refine (HS.out ⟨_, _⟩ _ _ _).mono ?_; rintro e w2 ⟨rfl, hE⟩; dsimp only; simp only [h3, h4]; (first | (have hK := KC.step (n := w.heap.size + 1) (by with_reducible assumption) hE) | (have hK := KC.step (KC.step (n := w.heap.size + 1) (by with_reducible assumption) (ext_alloc1 _ _)) hE) | (have hK := KC.step (KC.refl (n := w.heap.size + 1) (by simp)) hE)); have hC := hK.cell; have hF := hK.fro; have hX := hK.ext))
                go_ret
                exact ⟨ret_bool (by simp [*, bne]), by (repeat' (first | with_reducible assumption | with_reducible exact Ext.refl _ | with_reducible refine Ext.alloc ?_ _ | with_reducible refine Ext.set ?_ ?_ _ | with_reducible refine Ext.drew ?_ | with_reducible refine Ext.drewN ?_ _ | with_reducible refine Ext.trans ?_ (by assumption) | (dsimp only; omega)))⟩
  cases b3
  case false => go_enter Tryz.func134, Tryz.ntmps134
                go_wp2_with (first
                  | (go_at_call 72; refine (HW.out _ _ _ _).mono ?_; rintro e w2 ⟨rfl, rfl⟩; simp only [h2])
                  | (go_at_call 104; refine (HS.out ⟨_, _⟩ _ _ _).mono ?_; rintro e w2 ⟨rfl, hE⟩; dsimp only; simp only [h3, h4]; (first | (have hK := KC.step (n := w.heap.size + 1) (by with_reducible assumption) hE) | (have hK := KC.step (KC.step (n := w.heap.size + 1) (by with_reducible assumption) (ext_alloc1 _ _)) hE) | (have hK := KC.step (KC.refl (n := w.heap.size + 1) (by simp)) hE)); have hC := hK.cell; have hF := hK.fro; have hX := hK.ext))
                go_ret
                exact ⟨ret_bool (by simp [*, bne]), by (repeat' (first | with_reducible assumption | with_reducible exact Ext.refl _ | with_reducible refine Ext.alloc ?_ _ | with_reducible refine Ext.set ?_ ?_ _ | with_reducible refine Ext.drew ?_ | with_reducible refine Ext.drewN ?_ _ | with_reducible refine Ext.trans ?_ (by assumption) | (dsimp only; omega)))⟩
  go_enter Tryz.func134, Tryz.ntmps134
  go_wp2_with (first
    | (go_at_call 72; refine (HW.out _ _ _ _).mono ?_; rintro e w2 ⟨rfl, rfl⟩; simp only [h2])
    | (go_at_call 104; refine (HS.out ⟨_, _⟩ _ _ _).mono ?_; rintro e w2 ⟨rfl, hE⟩; dsimp only; simp only [h3, h4]; (first | (have hK := KC.step (n := w.heap.size + 1) (by with_reducible assumption) hE) | (have hK := KC.step (KC.step (n := w.heap.size + 1) (by with_reducible assumption) (ext_alloc1 _ _)) hE) | (have hK := KC.step (KC.refl (n := w.heap.size + 1) (by simp)) hE)); have hC := hK.cell; have hF := hK.fro; have hX := hK.ext))
  go_ret
  exact ⟨ret_bool (by simp [*, bne]), by (repeat' (first | with_reducible assumption | with_reducible exact Ext.refl _ | with_reducible refine Ext.alloc ?_ _ | with_reducible refine Ext.set ?_ ?_ _ | with_reducible refine Ext.drew ?_ | with_reducible refine Ext.drewN ?_ _ | with_reducible refine Ext.trans ?_ (by assumption) | (dsimp only; omega)))⟩
set_option maxHeartbeats 1000000 in
theorem fallO_any (x y : Fl) (w : World) : Calls Tryz.prog 135 #[x.val, y.val] w fun e w' => e = .returned (.bool (flO x y)) ∧ Ext w w' := by
  unfold flO Fl.val
  obtain ⟨d, hl, hh, ol, oh⟩ := x
  obtain ⟨d', hl', hh', ol', oh'⟩ := y
  dsimp only
  go_enter Tryz.func135, Tryz.ntmps135
  go_wp2
  all_goals (go_ret; exact ⟨ret_bool (by first | (simp [*]; done) | (simp [*]; omega)), by (repeat' (first | with_reducible assumption | with_reducible exact Ext.refl _ | with_reducible refine Ext.alloc ?_ _ | with_reducible refine Ext.set ?_ ?_ _ | with_reducible refine Ext.drew ?_ | with_reducible refine Ext.drewN ?_ _ | with_reducible refine Ext.trans ?_ (by assumption) | (dsimp only; omega)))⟩)
set_option maxHeartbeats 2000000 in
theorem isRope_any (r : Ro) (A : Option Addr) (c : Nat) (hm : r.falls.length ≤ 1000) (w : World) (hx : FlsAt w A r.falls) :
    Calls Tryz.prog 102 #[r.val A c] w fun e w' => e = .returned (.bool (roB r)) ∧ Ext w w' := by
  have HA := hid (fun (W : World) (hE : Ext w W) (hq : w.heap.size < W.heap.size) (c1 : W.cell? ⟨w.heap.size, 1, none⟩ = some (.int .i64 r.first)) =>
    allFl_any 134 #[.pointer (some ⟨w.heap.size, 0, none⟩)] (fun _ _ => by kernel_rfl) r.falls (flB r.first) A r.falls.length c rfl (by omega) W (hx.ext hE)
      (fun x W' hW _ => isFall_any r x w.heap.size W' (Nat.lt_of_lt_of_le hq hW.size) ((hW.cell (p := ⟨w.heap.size, 1, none⟩) hq).trans c1)))
  have HO := hid (fun (W : World) (hE : Ext w W) => ordFl_any 135 #[] (fun _ _ => by kernel_rfl) r.falls flO A r.falls.length c rfl (by omega) W (hx.ext hE) (fun x y W' _ => fallO_any x y W'))
  have HW := hid (fun a b c W => within_any a b c W)
  have HD := hid (fun a W => isDay_any a W)
  clear hx
  unfold roB Ro.val
  obtain ⟨ma, fi, le, fs⟩ := r
  dsimp only at *
  generalize fs.all (flB fi) = b5 at *
  generalize ordB flO zeroFl fs = b6 at *
  generalize fs.length = n at *
  obtain ⟨b1, h1⟩ : ∃ b, inI ma 0 99999 = b := ⟨_, rfl⟩
  obtain ⟨b2, h2⟩ : ∃ b, inI fi ma 99999 = b := ⟨_, rfl⟩
  obtain ⟨b3, h3⟩ : ∃ b, inI le 1 100 = b := ⟨_, rfl⟩
  rw [h1, h2, h3]
  cases b1
  case false => go_enter Tryz.func102, Tryz.ntmps102
                go_wp2_with (first
                  | (go_at_call 136; refine (HD.out _ _).mono ?_; rintro e w2 ⟨rfl, rfl⟩; simp only [h1, h2, h3])
                  | (go_at_call 72; refine (HW.out _ _ _ _).mono ?_; rintro e w2 ⟨rfl, rfl⟩; simp only [h1, h2, h3])
                  | (go_at_call 137; refine (HA.out _ (by (repeat' (first | with_reducible assumption | with_reducible exact Ext.refl _ | with_reducible refine Ext.alloc ?_ _ | with_reducible refine Ext.set ?_ ?_ _ | with_reducible refine Ext.drew ?_ | with_reducible refine Ext.drewN ?_ _ | with_reducible refine Ext.trans ?_ (by assumption) | (dsimp only; omega)))) (by first | (have := hK.size; omega) | (simp; done) | (simp; omega)) (by first | (rw [hC _ _ (by omega)]; go_simp; done) | (go_simp; done))).mono ?_; rintro e w2 ⟨rfl, hE⟩; (first | (have hK := KC.step (n := w.heap.size + 1) (by with_reducible assumption) hE) | (have hK := KC.step (KC.step (n := w.heap.size + 1) (by with_reducible assumption) (ext_alloc1 _ _)) hE) | (have hK := KC.step (KC.refl (n := w.heap.size + 1) (by simp)) hE)); have hC := hK.cell; have hF := hK.fro; have hX := hK.ext)
                  | (go_at_call 138; refine (HO.out _ (by (repeat' (first | with_reducible assumption | with_reducible exact Ext.refl _ | with_reducible refine Ext.alloc ?_ _ | with_reducible refine Ext.set ?_ ?_ _ | with_reducible refine Ext.drew ?_ | with_reducible refine Ext.drewN ?_ _ | with_reducible refine Ext.trans ?_ (by assumption) | (dsimp only; omega))))).mono ?_; rintro e w2 ⟨rfl, hE⟩; (first | (have hK := KC.step (n := w.heap.size + 1) (by with_reducible assumption) hE) | (have hK := KC.step (KC.step (n := w.heap.size + 1) (by with_reducible assumption) (ext_alloc1 _ _)) hE) | (have hK := KC.step (KC.refl (n := w.heap.size + 1) (by simp)) hE)); have hC := hK.cell; have hF := hK.fro; have hX := hK.ext))
                go_ret
                exact ⟨ret_bool (by simp [*]), by (repeat' (first | with_reducible assumption | with_reducible exact Ext.refl _ | with_reducible refine Ext.alloc ?_ _ | with_reducible refine Ext.set ?_ ?_ _ | with_reducible refine Ext.drew ?_ | with_reducible refine Ext.drewN ?_ _ | with_reducible refine Ext.trans ?_ (by assumption) | (dsimp only; omega)))⟩
  by_cases h0 : fi = -1
  case pos =>
    subst h0
    cases b3
    case false => go_enter Tryz.func102, Tryz.ntmps102
                  go_wp2_with (first
                    | (go_at_call 136; refine (HD.out _ _).mono ?_; rintro e w2 ⟨rfl, rfl⟩; simp only [h1, h2, h3])
                    | (go_at_call 72; refine (HW.out _ _ _ _).mono ?_; rintro e w2 ⟨rfl, rfl⟩; simp only [h1, h2, h3])
                    | (go_at_call 137; refine (HA.out _ (by (repeat' (first | with_reducible assumption | with_reducible exact Ext.refl _ | with_reducible refine Ext.alloc ?_ _ | with_reducible refine Ext.set ?_ ?_ _ | with_reducible refine Ext.drew ?_ | with_reducible refine Ext.drewN ?_ _ | with_reducible refine Ext.trans ?_ (by assumption) | (dsimp only; omega)))) (by first | (have := hK.size; omega) | (simp; done) | (simp; omega)) (by first | (rw [hC _ _ (by omega)]; go_simp; done) | (go_simp; done))).mono ?_; rintro e w2 ⟨rfl, hE⟩; (first | (have hK := KC.step (n := w.heap.size + 1) (by with_reducible assumption) hE) | (have hK := KC.step (KC.step (n := w.heap.size + 1) (by with_reducible assumption) (ext_alloc1 _ _)) hE) | (have hK := KC.step (KC.refl (n := w.heap.size + 1) (by simp)) hE)); have hC := hK.cell; have hF := hK.fro; have hX := hK.ext)
                    | (go_at_call 138; refine (HO.out _ (by (repeat' (first | with_reducible assumption | with_reducible exact Ext.refl _ | with_reducible refine Ext.alloc ?_ _ | with_reducible refine Ext.set ?_ ?_ _ | with_reducible refine Ext.drew ?_ | with_reducible refine Ext.drewN ?_ _ | with_reducible refine Ext.trans ?_ (by assumption) | (dsimp only; omega))))).mono ?_; rintro e w2 ⟨rfl, hE⟩; (first | (have hK := KC.step (n := w.heap.size + 1) (by with_reducible assumption) hE) | (have hK := KC.step (KC.step (n := w.heap.size + 1) (by with_reducible assumption) (ext_alloc1 _ _)) hE) | (have hK := KC.step (KC.refl (n := w.heap.size + 1) (by simp)) hE)); have hC := hK.cell; have hF := hK.fro; have hX := hK.ext))
                  go_ret
                  exact ⟨ret_bool (by simp [*]), by (repeat' (first | with_reducible assumption | with_reducible exact Ext.refl _ | with_reducible refine Ext.alloc ?_ _ | with_reducible refine Ext.set ?_ ?_ _ | with_reducible refine Ext.drew ?_ | with_reducible refine Ext.drewN ?_ _ | with_reducible refine Ext.trans ?_ (by assumption) | (dsimp only; omega)))⟩
    by_cases h4 : n ≤ 10
    case neg => go_enter Tryz.func102, Tryz.ntmps102
                go_wp2_with (first
                  | (go_at_call 136; refine (HD.out _ _).mono ?_; rintro e w2 ⟨rfl, rfl⟩; simp only [h1, h2, h3])
                  | (go_at_call 72; refine (HW.out _ _ _ _).mono ?_; rintro e w2 ⟨rfl, rfl⟩; simp only [h1, h2, h3])
                  | (go_at_call 137; refine (HA.out _ (by (repeat' (first | with_reducible assumption | with_reducible exact Ext.refl _ | with_reducible refine Ext.alloc ?_ _ | with_reducible refine Ext.set ?_ ?_ _ | with_reducible refine Ext.drew ?_ | with_reducible refine Ext.drewN ?_ _ | with_reducible refine Ext.trans ?_ (by assumption) | (dsimp only; omega)))) (by first | (have := hK.size; omega) | (simp; done) | (simp; omega)) (by first | (rw [hC _ _ (by omega)]; go_simp; done) | (go_simp; done))).mono ?_; rintro e w2 ⟨rfl, hE⟩; (first | (have hK := KC.step (n := w.heap.size + 1) (by with_reducible assumption) hE) | (have hK := KC.step (KC.step (n := w.heap.size + 1) (by with_reducible assumption) (ext_alloc1 _ _)) hE) | (have hK := KC.step (KC.refl (n := w.heap.size + 1) (by simp)) hE)); have hC := hK.cell; have hF := hK.fro; have hX := hK.ext)
                  | (go_at_call 138; refine (HO.out _ (by (repeat' (first | with_reducible assumption | with_reducible exact Ext.refl _ | with_reducible refine Ext.alloc ?_ _ | with_reducible refine Ext.set ?_ ?_ _ | with_reducible refine Ext.drew ?_ | with_reducible refine Ext.drewN ?_ _ | with_reducible refine Ext.trans ?_ (by assumption) | (dsimp only; omega))))).mono ?_; rintro e w2 ⟨rfl, hE⟩; (first | (have hK := KC.step (n := w.heap.size + 1) (by with_reducible assumption) hE) | (have hK := KC.step (KC.step (n := w.heap.size + 1) (by with_reducible assumption) (ext_alloc1 _ _)) hE) | (have hK := KC.step (KC.refl (n := w.heap.size + 1) (by simp)) hE)); have hC := hK.cell; have hF := hK.fro; have hX := hK.ext))
                go_ret
                exact ⟨ret_bool (by simp [*]), by (repeat' (first | with_reducible assumption | with_reducible exact Ext.refl _ | with_reducible refine Ext.alloc ?_ _ | with_reducible refine Ext.set ?_ ?_ _ | with_reducible refine Ext.drew ?_ | with_reducible refine Ext.drewN ?_ _ | with_reducible refine Ext.trans ?_ (by assumption) | (dsimp only; omega)))⟩
    cases b5
    case false => go_enter Tryz.func102, Tryz.ntmps102
                  go_wp2_with (first
                    | (go_at_call 136; refine (HD.out _ _).mono ?_; rintro e w2 ⟨rfl, rfl⟩; simp only [h1, h2, h3])
                    | (go_at_call 72; refine (HW.out _ _ _ _).mono ?_; rintro e w2 ⟨rfl, rfl⟩; simp only [h1, h2, h3])
                    | (go_at_call 137; refine (HA.out _ (by (repeat' (first | with_reducible assumption | with_reducible exact Ext.refl _ | with_reducible refine Ext.alloc ?_ _ | with_reducible refine Ext.set ?_ ?_ _ | with_reducible refine Ext.drew ?_ | with_reducible refine Ext.drewN ?_ _ | with_reducible refine Ext.trans ?_ (by assumption) | (dsimp only; omega)))) (by first | (have := hK.size; omega) | (simp; done) | (simp; omega)) (by first | (rw [hC _ _ (by omega)]; go_simp; done) | (go_simp; done))).mono ?_; rintro e w2 ⟨rfl, hE⟩; (first | (have hK := KC.step (n := w.heap.size + 1) (by with_reducible assumption) hE) | (have hK := KC.step (KC.step (n := w.heap.size + 1) (by with_reducible assumption) (ext_alloc1 _ _)) hE) | (have hK := KC.step (KC.refl (n := w.heap.size + 1) (by simp)) hE)); have hC := hK.cell; have hF := hK.fro; have hX := hK.ext)
                    | (go_at_call 138; refine (HO.out _ (by (repeat' (first | with_reducible assumption | with_reducible exact Ext.refl _ | with_reducible refine Ext.alloc ?_ _ | with_reducible refine Ext.set ?_ ?_ _ | with_reducible refine Ext.drew ?_ | with_reducible refine Ext.drewN ?_ _ | with_reducible refine Ext.trans ?_ (by assumption) | (dsimp only; omega))))).mono ?_; rintro e w2 ⟨rfl, hE⟩; (first | (have hK := KC.step (n := w.heap.size + 1) (by with_reducible assumption) hE) | (have hK := KC.step (KC.step (n := w.heap.size + 1) (by with_reducible assumption) (ext_alloc1 _ _)) hE) | (have hK := KC.step (KC.refl (n := w.heap.size + 1) (by simp)) hE)); have hC := hK.cell; have hF := hK.fro; have hX := hK.ext))
                  go_ret
                  exact ⟨ret_bool (by simp [*]), by (repeat' (first | with_reducible assumption | with_reducible exact Ext.refl _ | with_reducible refine Ext.alloc ?_ _ | with_reducible refine Ext.set ?_ ?_ _ | with_reducible refine Ext.drew ?_ | with_reducible refine Ext.drewN ?_ _ | with_reducible refine Ext.trans ?_ (by assumption) | (dsimp only; omega)))⟩
    go_enter Tryz.func102, Tryz.ntmps102
    go_wp2_with (first
      | (go_at_call 136; refine (HD.out _ _).mono ?_; rintro e w2 ⟨rfl, rfl⟩; simp only [h1, h2, h3])
      | (go_at_call 72; refine (HW.out _ _ _ _).mono ?_; rintro e w2 ⟨rfl, rfl⟩; simp only [h1, h2, h3])
      | (go_at_call 137; refine (HA.out _ (by (repeat' (first | with_reducible assumption | with_reducible exact Ext.refl _ | with_reducible refine Ext.alloc ?_ _ | with_reducible refine Ext.set ?_ ?_ _ | with_reducible refine Ext.drew ?_ | with_reducible refine Ext.drewN ?_ _ | with_reducible refine Ext.trans ?_ (by assumption) | (dsimp only; omega)))) (by first | (have := hK.size; omega) | (simp; done) | (simp; omega)) (by first | (rw [hC _ _ (by omega)]; go_simp; done) | (go_simp; done))).mono ?_; rintro e w2 ⟨rfl, hE⟩; (first | (have hK := KC.step (n := w.heap.size + 1) (by with_reducible assumption) hE) | (have hK := KC.step (KC.step (n := w.heap.size + 1) (by with_reducible assumption) (ext_alloc1 _ _)) hE) | (have hK := KC.step (KC.refl (n := w.heap.size + 1) (by simp)) hE)); have hC := hK.cell; have hF := hK.fro; have hX := hK.ext)
      | (go_at_call 138; refine (HO.out _ (by (repeat' (first | with_reducible assumption | with_reducible exact Ext.refl _ | with_reducible refine Ext.alloc ?_ _ | with_reducible refine Ext.set ?_ ?_ _ | with_reducible refine Ext.drew ?_ | with_reducible refine Ext.drewN ?_ _ | with_reducible refine Ext.trans ?_ (by assumption) | (dsimp only; omega))))).mono ?_; rintro e w2 ⟨rfl, hE⟩; (first | (have hK := KC.step (n := w.heap.size + 1) (by with_reducible assumption) hE) | (have hK := KC.step (KC.step (n := w.heap.size + 1) (by with_reducible assumption) (ext_alloc1 _ _)) hE) | (have hK := KC.step (KC.refl (n := w.heap.size + 1) (by simp)) hE)); have hC := hK.cell; have hF := hK.fro; have hX := hK.ext))
    go_ret
    exact ⟨ret_bool (by simp [*]), by (repeat' (first | with_reducible assumption | with_reducible exact Ext.refl _ | with_reducible refine Ext.alloc ?_ _ | with_reducible refine Ext.set ?_ ?_ _ | with_reducible refine Ext.drew ?_ | with_reducible refine Ext.drewN ?_ _ | with_reducible refine Ext.trans ?_ (by assumption) | (dsimp only; omega)))⟩
  cases b2
  case false => go_enter Tryz.func102, Tryz.ntmps102
                go_wp2_with (first
                  | (go_at_call 136; refine (HD.out _ _).mono ?_; rintro e w2 ⟨rfl, rfl⟩; simp only [h1, h2, h3])
                  | (go_at_call 72; refine (HW.out _ _ _ _).mono ?_; rintro e w2 ⟨rfl, rfl⟩; simp only [h1, h2, h3])
                  | (go_at_call 137; refine (HA.out _ (by (repeat' (first | with_reducible assumption | with_reducible exact Ext.refl _ | with_reducible refine Ext.alloc ?_ _ | with_reducible refine Ext.set ?_ ?_ _ | with_reducible refine Ext.drew ?_ | with_reducible refine Ext.drewN ?_ _ | with_reducible refine Ext.trans ?_ (by assumption) | (dsimp only; omega)))) (by first | (have := hK.size; omega) | (simp; done) | (simp; omega)) (by first | (rw [hC _ _ (by omega)]; go_simp; done) | (go_simp; done))).mono ?_; rintro e w2 ⟨rfl, hE⟩; (first | (have hK := KC.step (n := w.heap.size + 1) (by with_reducible assumption) hE) | (have hK := KC.step (KC.step (n := w.heap.size + 1) (by with_reducible assumption) (ext_alloc1 _ _)) hE) | (have hK := KC.step (KC.refl (n := w.heap.size + 1) (by simp)) hE)); have hC := hK.cell; have hF := hK.fro; have hX := hK.ext)
                  | (go_at_call 138; refine (HO.out _ (by (repeat' (first | with_reducible assumption | with_reducible exact Ext.refl _ | with_reducible refine Ext.alloc ?_ _ | with_reducible refine Ext.set ?_ ?_ _ | with_reducible refine Ext.drew ?_ | with_reducible refine Ext.drewN ?_ _ | with_reducible refine Ext.trans ?_ (by assumption) | (dsimp only; omega))))).mono ?_; rintro e w2 ⟨rfl, hE⟩; (first | (have hK := KC.step (n := w.heap.size + 1) (by with_reducible assumption) hE) | (have hK := KC.step (KC.step (n := w.heap.size + 1) (by with_reducible assumption) (ext_alloc1 _ _)) hE) | (have hK := KC.step (KC.refl (n := w.heap.size + 1) (by simp)) hE)); have hC := hK.cell; have hF := hK.fro; have hX := hK.ext))
                go_ret
                exact ⟨ret_bool (by simp [*]), by (repeat' (first | with_reducible assumption | with_reducible exact Ext.refl _ | with_reducible refine Ext.alloc ?_ _ | with_reducible refine Ext.set ?_ ?_ _ | with_reducible refine Ext.drew ?_ | with_reducible refine Ext.drewN ?_ _ | with_reducible refine Ext.trans ?_ (by assumption) | (dsimp only; omega)))⟩
  cases b3
  case false => go_enter Tryz.func102, Tryz.ntmps102
                go_wp2_with (first
                  | (go_at_call 136; refine (HD.out _ _).mono ?_; rintro e w2 ⟨rfl, rfl⟩; simp only [h1, h2, h3])
                  | (go_at_call 72; refine (HW.out _ _ _ _).mono ?_; rintro e w2 ⟨rfl, rfl⟩; simp only [h1, h2, h3])
                  | (go_at_call 137; refine (HA.out _ (by (repeat' (first | with_reducible assumption | with_reducible exact Ext.refl _ | with_reducible refine Ext.alloc ?_ _ | with_reducible refine Ext.set ?_ ?_ _ | with_reducible refine Ext.drew ?_ | with_reducible refine Ext.drewN ?_ _ | with_reducible refine Ext.trans ?_ (by assumption) | (dsimp only; omega)))) (by first | (have := hK.size; omega) | (simp; done) | (simp; omega)) (by first | (rw [hC _ _ (by omega)]; go_simp; done) | (go_simp; done))).mono ?_; rintro e w2 ⟨rfl, hE⟩; (first | (have hK := KC.step (n := w.heap.size + 1) (by with_reducible assumption) hE) | (have hK := KC.step (KC.step (n := w.heap.size + 1) (by with_reducible assumption) (ext_alloc1 _ _)) hE) | (have hK := KC.step (KC.refl (n := w.heap.size + 1) (by simp)) hE)); have hC := hK.cell; have hF := hK.fro; have hX := hK.ext)
                  | (go_at_call 138; refine (HO.out _ (by (repeat' (first | with_reducible assumption | with_reducible exact Ext.refl _ | with_reducible refine Ext.alloc ?_ _ | with_reducible refine Ext.set ?_ ?_ _ | with_reducible refine Ext.drew ?_ | with_reducible refine Ext.drewN ?_ _ | with_reducible refine Ext.trans ?_ (by assumption) | (dsimp only; omega))))).mono ?_; rintro e w2 ⟨rfl, hE⟩; (first | (have hK := KC.step (n := w.heap.size + 1) (by with_reducible assumption) hE) | (have hK := KC.step (KC.step (n := w.heap.size + 1) (by with_reducible assumption) (ext_alloc1 _ _)) hE) | (have hK := KC.step (KC.refl (n := w.heap.size + 1) (by simp)) hE)); have hC := hK.cell; have hF := hK.fro; have hX := hK.ext))
                go_ret
                exact ⟨ret_bool (by simp [*]), by (repeat' (first | with_reducible assumption | with_reducible exact Ext.refl _ | with_reducible refine Ext.alloc ?_ _ | with_reducible refine Ext.set ?_ ?_ _ | with_reducible refine Ext.drew ?_ | with_reducible refine Ext.drewN ?_ _ | with_reducible refine Ext.trans ?_ (by assumption) | (dsimp only; omega)))⟩
  by_cases h4 : n ≤ 10
  case neg => go_enter Tryz.func102, Tryz.ntmps102
              go_wp2_with (first
                | (go_at_call 136; refine (HD.out _ _).mono ?_; rintro e w2 ⟨rfl, rfl⟩; simp only [h1, h2, h3])
                | (go_at_call 72; refine (HW.out _ _ _ _).mono ?_; rintro e w2 ⟨rfl, rfl⟩; simp only [h1, h2, h3])
                | (go_at_call 137; refine (HA.out _ (by (repeat' (first | with_reducible assumption | with_reducible exact Ext.refl _ | with_reducible refine Ext.alloc ?_ _ | with_reducible refine Ext.set ?_ ?_ _ | with_reducible refine Ext.drew ?_ | with_reducible refine Ext.drewN ?_ _ | with_reducible refine Ext.trans ?_ (by assumption) | (dsimp only; omega)))) (by first | (have := hK.size; omega) | (simp; done) | (simp; omega)) (by first | (rw [hC _ _ (by omega)]; go_simp; done) | (go_simp; done))).mono ?_; rintro e w2 ⟨rfl, hE⟩; (first | (have hK := KC.step (n := w.heap.size + 1) (by with_reducible assumption) hE) | (have hK := KC.step (KC.step (n := w.heap.size + 1) (by with_reducible assumption) (ext_alloc1 _ _)) hE) | (have hK := KC.step (KC.refl (n := w.heap.size + 1) (by simp)) hE)); have hC := hK.cell; have hF := hK.fro; have hX := hK.ext)
                | (go_at_call 138; refine (HO.out _ (by (repeat' (first | with_reducible assumption | with_reducible exact Ext.refl _ | with_reducible refine Ext.alloc ?_ _ | with_reducible refine Ext.set ?_ ?_ _ | with_reducible refine Ext.drew ?_ | with_reducible refine Ext.drewN ?_ _ | with_reducible refine Ext.trans ?_ (by assumption) | (dsimp only; omega))))).mono ?_; rintro e w2 ⟨rfl, hE⟩; (first | (have hK := KC.step (n := w.heap.size + 1) (by with_reducible assumption) hE) | (have hK := KC.step (KC.step (n := w.heap.size + 1) (by with_reducible assumption) (ext_alloc1 _ _)) hE) | (have hK := KC.step (KC.refl (n := w.heap.size + 1) (by simp)) hE)); have hC := hK.cell; have hF := hK.fro; have hX := hK.ext))
              go_ret
              exact ⟨ret_bool (by simp [*]), by (repeat' (first | with_reducible assumption | with_reducible exact Ext.refl _ | with_reducible refine Ext.alloc ?_ _ | with_reducible refine Ext.set ?_ ?_ _ | with_reducible refine Ext.drew ?_ | with_reducible refine Ext.drewN ?_ _ | with_reducible refine Ext.trans ?_ (by assumption) | (dsimp only; omega)))⟩
  cases b5
  case false => go_enter Tryz.func102, Tryz.ntmps102
                go_wp2_with (first
                  | (go_at_call 136; refine (HD.out _ _).mono ?_; rintro e w2 ⟨rfl, rfl⟩; simp only [h1, h2, h3])
                  | (go_at_call 72; refine (HW.out _ _ _ _).mono ?_; rintro e w2 ⟨rfl, rfl⟩; simp only [h1, h2, h3])
                  | (go_at_call 137; refine (HA.out _ (by (repeat' (first | with_reducible assumption | with_reducible exact Ext.refl _ | with_reducible refine Ext.alloc ?_ _ | with_reducible refine Ext.set ?_ ?_ _ | with_reducible refine Ext.drew ?_ | with_reducible refine Ext.drewN ?_ _ | with_reducible refine Ext.trans ?_ (by assumption) | (dsimp only; omega)))) (by first | (have := hK.size; omega) | (simp; done) | (simp; omega)) (by first | (rw [hC _ _ (by omega)]; go_simp; done) | (go_simp; done))).mono ?_; rintro e w2 ⟨rfl, hE⟩; (first | (have hK := KC.step (n := w.heap.size + 1) (by with_reducible assumption) hE) | (have hK := KC.step (KC.step (n := w.heap.size + 1) (by with_reducible assumption) (ext_alloc1 _ _)) hE) | (have hK := KC.step (KC.refl (n := w.heap.size + 1) (by simp)) hE)); have hC := hK.cell; have hF := hK.fro; have hX := hK.ext)
                  | (go_at_call 138; refine (HO.out _ (by (repeat' (first | with_reducible assumption | with_reducible exact Ext.refl _ | with_reducible refine Ext.alloc ?_ _ | with_reducible refine Ext.set ?_ ?_ _ | with_reducible refine Ext.drew ?_ | with_reducible refine Ext.drewN ?_ _ | with_reducible refine Ext.trans ?_ (by assumption) | (dsimp only; omega))))).mono ?_; rintro e w2 ⟨rfl, hE⟩; (first | (have hK := KC.step (n := w.heap.size + 1) (by with_reducible assumption) hE) | (have hK := KC.step (KC.step (n := w.heap.size + 1) (by with_reducible assumption) (ext_alloc1 _ _)) hE) | (have hK := KC.step (KC.refl (n := w.heap.size + 1) (by simp)) hE)); have hC := hK.cell; have hF := hK.fro; have hX := hK.ext))
                go_ret
                exact ⟨ret_bool (by simp [*]), by (repeat' (first | with_reducible assumption | with_reducible exact Ext.refl _ | with_reducible refine Ext.alloc ?_ _ | with_reducible refine Ext.set ?_ ?_ _ | with_reducible refine Ext.drew ?_ | with_reducible refine Ext.drewN ?_ _ | with_reducible refine Ext.trans ?_ (by assumption) | (dsimp only; omega)))⟩
  go_enter Tryz.func102, Tryz.ntmps102
  go_wp2_with (first
    | (go_at_call 136; refine (HD.out _ _).mono ?_; rintro e w2 ⟨rfl, rfl⟩; simp only [h1, h2, h3])
    | (go_at_call 72; refine (HW.out _ _ _ _).mono ?_; rintro e w2 ⟨rfl, rfl⟩; simp only [h1, h2, h3])
    | (go_at_call 137; refine (HA.out _ (by (repeat' (first | with_reducible assumption | with_reducible exact Ext.refl _ | with_reducible refine Ext.alloc ?_ _ | with_reducible refine Ext.set ?_ ?_ _ | with_reducible refine Ext.drew ?_ | with_reducible refine Ext.drewN ?_ _ | with_reducible refine Ext.trans ?_ (by assumption) | (dsimp only; omega)))) (by first | (have := hK.size; omega) | (simp; done) | (simp; omega)) (by first | (rw [hC _ _ (by omega)]; go_simp; done) | (go_simp; done))).mono ?_; rintro e w2 ⟨rfl, hE⟩; (first | (have hK := KC.step (n := w.heap.size + 1) (by with_reducible assumption) hE) | (have hK := KC.step (KC.step (n := w.heap.size + 1) (by with_reducible assumption) (ext_alloc1 _ _)) hE) | (have hK := KC.step (KC.refl (n := w.heap.size + 1) (by simp)) hE)); have hC := hK.cell; have hF := hK.fro; have hX := hK.ext)
    | (go_at_call 138; refine (HO.out _ (by (repeat' (first | with_reducible assumption | with_reducible exact Ext.refl _ | with_reducible refine Ext.alloc ?_ _ | with_reducible refine Ext.set ?_ ?_ _ | with_reducible refine Ext.drew ?_ | with_reducible refine Ext.drewN ?_ _ | with_reducible refine Ext.trans ?_ (by assumption) | (dsimp only; omega))))).mono ?_; rintro e w2 ⟨rfl, hE⟩; (first | (have hK := KC.step (n := w.heap.size + 1) (by with_reducible assumption) hE) | (have hK := KC.step (KC.step (n := w.heap.size + 1) (by with_reducible assumption) (ext_alloc1 _ _)) hE) | (have hK := KC.step (KC.refl (n := w.heap.size + 1) (by simp)) hE)); have hC := hK.cell; have hF := hK.fro; have hX := hK.ext))
  go_ret
  exact ⟨ret_bool (by simp [*]), by (repeat' (first | with_reducible assumption | with_reducible exact Ext.refl _ | with_reducible refine Ext.alloc ?_ _ | with_reducible refine Ext.set ?_ ?_ _ | with_reducible refine Ext.drew ?_ | with_reducible refine Ext.drewN ?_ _ | with_reducible refine Ext.trans ?_ (by assumption) | (dsimp only; omega)))⟩
end Go.Proofs.YtggggnjibedgaaaGreat
/- take and takeOn: a model and a rope, checked. -/
set_option linter.unusedSimpArgs false
set_option linter.unusedVariables false
namespace Go.Proofs.YtggggnjibedgaaaGreat
open Go.RowKit
/-- A model and a rope as one value. -/
def cordV (m : Md) (r : Ro) (A : Option Addr) (c : Nat) (B : Option Addr) (d : Nat) : Value :=
  .agg #[.int .i64 m.shelf, .int .i64 m.use, .int .i64 m.bears, .slice A m.wears.length c, .int .i64 r.made, .int .i64 r.first, .int .i64 r.len, .slice B r.falls.length d]
def zeroC : Value := .agg #[.int .i64 0, .int .i64 0, .int .i64 0, .slice none 0 0, .int .i64 0, .int .i64 0, .int .i64 0, .slice none 0 0]
set_option maxHeartbeats 2000000 in
theorem take_any (m : Md) (r : Ro) (A : Option Addr) (c : Nat) (B : Option Addr) (d : Nat) (hm : m.wears.length ≤ 1000) (hr : r.falls.length ≤ 1000) (w : World) (hx : WrsAt w A m.wears) (hy : FlsAt w B r.falls) :
    Calls Tryz.prog 60 #[m.val A c, r.val B d] w fun e w' => e = .returned (.tuple #[if takE m r = 0 then cordV m r A c B d else zeroC, .int .i64 (takE m r)]) ∧ Ext w w' := by
  have HM := hid (fun (W : World) (hE : Ext w W) => isModel_any m A c hm W (hx.ext hE))
  have HR := hid (fun (W : World) (hE : Ext w W) => isRope_any r B d hr W (hy.ext hE))
  clear hx hy
  unfold takE cordV zeroC
  unfold Md.val Ro.val at *
  obtain ⟨b1, h1⟩ : ∃ b, mdB m = b := ⟨_, rfl⟩
  obtain ⟨b2, h2⟩ : ∃ b, roB r = b := ⟨_, rfl⟩
  rw [h1] at HM ⊢
  rw [h2] at HR ⊢
  clear h1 h2
  obtain ⟨sh, us, be, ws⟩ := m
  obtain ⟨ma, fi, le, fs⟩ := r
  dsimp only at *
  generalize ws.length = n at *
  generalize fs.length = k at *
  cases b1
  case false => simp only [Bool.false_eq_true, reduceIte, Int.reduceEq]
                have B3 := hid ((blks3 w (.cells #[.int .i64 sh, .int .i64 us, .int .i64 be, .slice A n c] 24) (.cells #[.int .i64 ma, .int .i64 fi, .int .i64 le, .slice B k d] 27) (.cells #[.int .i64 0, .int .i64 0, .int .i64 0, .slice none 0 0, .int .i64 0, .int .i64 0, .int .i64 0, .slice none 0 0] 102)).2.2)
                go_enter Tryz.func60, Tryz.ntmps60
                go_wp2_with (first
                  | (go_at_call 101; refine (HM.out _ (by (repeat' (first | with_reducible assumption | with_reducible exact Ext.refl _ | with_reducible refine Ext.alloc ?_ _ | with_reducible refine Ext.set ?_ ?_ _ | with_reducible refine Ext.drew ?_ | with_reducible refine Ext.drewN ?_ _ | with_reducible refine Ext.trans ?_ (by assumption) | (dsimp only; omega))))).mono ?_; rintro e w2 ⟨rfl, hE⟩; (first | (have hK := KC.step (n := w.heap.size + 3) (by with_reducible assumption) hE) | (have hK := KC.step (KC.step (n := w.heap.size + 3) (by with_reducible assumption) (ext_alloc1 _ _)) hE) | (have hK := KC.step (KC.refl (n := w.heap.size + 3) (by simp)) hE)); have hC := hK.cell; have hF := hK.fro; have hX := hK.ext)
                  | (go_at_call 102; refine (HR.out _ (by (repeat' (first | with_reducible assumption | with_reducible exact Ext.refl _ | with_reducible refine Ext.alloc ?_ _ | with_reducible refine Ext.set ?_ ?_ _ | with_reducible refine Ext.drew ?_ | with_reducible refine Ext.drewN ?_ _ | with_reducible refine Ext.trans ?_ (by assumption) | (dsimp only; omega))))).mono ?_; rintro e w2 ⟨rfl, hE⟩; (first | (have hK := KC.step (n := w.heap.size + 3) (by with_reducible assumption) hE) | (have hK := KC.step (KC.step (n := w.heap.size + 3) (by with_reducible assumption) (ext_alloc1 _ _)) hE) | (have hK := KC.step (KC.refl (n := w.heap.size + 3) (by simp)) hE)); have hC := hK.cell; have hF := hK.fro; have hX := hK.ext))
                refine body_abs (fun X => Blk X (w.heap.size + 1 + 1) 102 #[.int .i64 0, .int .i64 0, .int .i64 0, .slice none 0 0, .int .i64 0, .int .i64 0, .int .i64 0, .slice none 0 0] ∧ Ext w X) ⟨Blk.st8 (Blk.ext B3.out hX) _ _ _ _ _ _ _ _, by (repeat' (first | with_reducible assumption | with_reducible exact Ext.refl _ | with_reducible refine Ext.alloc ?_ _ | with_reducible refine Ext.set ?_ ?_ _ | with_reducible refine Ext.drew ?_ | with_reducible refine Ext.drewN ?_ _ | with_reducible refine Ext.trans ?_ (by assumption) | (dsimp only; omega)))⟩ ?_
                rintro X ⟨hB, XE⟩
                have r0 := hB.cell 0
                have r1 := hB.cell 1
                have r2 := hB.cell 2
                have r3 := hB.cell 3
                have r4 := hB.cell 4
                have r5 := hB.cell 5
                have r6 := hB.cell 6
                have r7 := hB.cell 7
                simp only [List.getElem?_toArray, List.getElem?_cons_zero, List.getElem?_cons_succ] at r0 r1 r2 r3 r4 r5 r6 r7
                exact bodyPost_ret (v := .tuple #[.agg #[.int .i64 0, .int .i64 0, .int .i64 0, .slice none 0 0, .int .i64 0, .int .i64 0, .int .i64 0, .slice none 0 0], .int .i64 90]) (by simp [results, Tryz.results60, go_sem, r0, r1, r2, r3, r4, r5, r6, r7]) rfl ⟨rfl, XE⟩
  cases b2
  case false => simp only [Bool.false_eq_true, reduceIte, Int.reduceEq]
                have B3 := hid ((blks3 w (.cells #[.int .i64 sh, .int .i64 us, .int .i64 be, .slice A n c] 24) (.cells #[.int .i64 ma, .int .i64 fi, .int .i64 le, .slice B k d] 27) (.cells #[.int .i64 0, .int .i64 0, .int .i64 0, .slice none 0 0, .int .i64 0, .int .i64 0, .int .i64 0, .slice none 0 0] 102)).2.2)
                go_enter Tryz.func60, Tryz.ntmps60
                go_wp2_with (first
                  | (go_at_call 101; refine (HM.out _ (by (repeat' (first | with_reducible assumption | with_reducible exact Ext.refl _ | with_reducible refine Ext.alloc ?_ _ | with_reducible refine Ext.set ?_ ?_ _ | with_reducible refine Ext.drew ?_ | with_reducible refine Ext.drewN ?_ _ | with_reducible refine Ext.trans ?_ (by assumption) | (dsimp only; omega))))).mono ?_; rintro e w2 ⟨rfl, hE⟩; (first | (have hK := KC.step (n := w.heap.size + 3) (by with_reducible assumption) hE) | (have hK := KC.step (KC.step (n := w.heap.size + 3) (by with_reducible assumption) (ext_alloc1 _ _)) hE) | (have hK := KC.step (KC.refl (n := w.heap.size + 3) (by simp)) hE)); have hC := hK.cell; have hF := hK.fro; have hX := hK.ext)
                  | (go_at_call 102; refine (HR.out _ (by (repeat' (first | with_reducible assumption | with_reducible exact Ext.refl _ | with_reducible refine Ext.alloc ?_ _ | with_reducible refine Ext.set ?_ ?_ _ | with_reducible refine Ext.drew ?_ | with_reducible refine Ext.drewN ?_ _ | with_reducible refine Ext.trans ?_ (by assumption) | (dsimp only; omega))))).mono ?_; rintro e w2 ⟨rfl, hE⟩; (first | (have hK := KC.step (n := w.heap.size + 3) (by with_reducible assumption) hE) | (have hK := KC.step (KC.step (n := w.heap.size + 3) (by with_reducible assumption) (ext_alloc1 _ _)) hE) | (have hK := KC.step (KC.refl (n := w.heap.size + 3) (by simp)) hE)); have hC := hK.cell; have hF := hK.fro; have hX := hK.ext))
                refine body_abs (fun X => Blk X (w.heap.size + 1 + 1) 102 #[.int .i64 0, .int .i64 0, .int .i64 0, .slice none 0 0, .int .i64 0, .int .i64 0, .int .i64 0, .slice none 0 0] ∧ Ext w X) ⟨Blk.st8 (Blk.ext B3.out hX) _ _ _ _ _ _ _ _, by (repeat' (first | with_reducible assumption | with_reducible exact Ext.refl _ | with_reducible refine Ext.alloc ?_ _ | with_reducible refine Ext.set ?_ ?_ _ | with_reducible refine Ext.drew ?_ | with_reducible refine Ext.drewN ?_ _ | with_reducible refine Ext.trans ?_ (by assumption) | (dsimp only; omega)))⟩ ?_
                rintro X ⟨hB, XE⟩
                have r0 := hB.cell 0
                have r1 := hB.cell 1
                have r2 := hB.cell 2
                have r3 := hB.cell 3
                have r4 := hB.cell 4
                have r5 := hB.cell 5
                have r6 := hB.cell 6
                have r7 := hB.cell 7
                simp only [List.getElem?_toArray, List.getElem?_cons_zero, List.getElem?_cons_succ] at r0 r1 r2 r3 r4 r5 r6 r7
                exact bodyPost_ret (v := .tuple #[.agg #[.int .i64 0, .int .i64 0, .int .i64 0, .slice none 0 0, .int .i64 0, .int .i64 0, .int .i64 0, .slice none 0 0], .int .i64 91]) (by simp [results, Tryz.results60, go_sem, r0, r1, r2, r3, r4, r5, r6, r7]) rfl ⟨rfl, XE⟩
  simp only [Bool.false_eq_true, reduceIte, Int.reduceEq]
  have B3 := hid ((blks3 w (.cells #[.int .i64 sh, .int .i64 us, .int .i64 be, .slice A n c] 24) (.cells #[.int .i64 ma, .int .i64 fi, .int .i64 le, .slice B k d] 27) (.cells #[.int .i64 0, .int .i64 0, .int .i64 0, .slice none 0 0, .int .i64 0, .int .i64 0, .int .i64 0, .slice none 0 0] 102)).2.2)
  go_enter Tryz.func60, Tryz.ntmps60
  go_wp2_with (first
    | (go_at_call 101; refine (HM.out _ (by (repeat' (first | with_reducible assumption | with_reducible exact Ext.refl _ | with_reducible refine Ext.alloc ?_ _ | with_reducible refine Ext.set ?_ ?_ _ | with_reducible refine Ext.drew ?_ | with_reducible refine Ext.drewN ?_ _ | with_reducible refine Ext.trans ?_ (by assumption) | (dsimp only; omega))))).mono ?_; rintro e w2 ⟨rfl, hE⟩; (first | (have hK := KC.step (n := w.heap.size + 3) (by with_reducible assumption) hE) | (have hK := KC.step (KC.step (n := w.heap.size + 3) (by with_reducible assumption) (ext_alloc1 _ _)) hE) | (have hK := KC.step (KC.refl (n := w.heap.size + 3) (by simp)) hE)); have hC := hK.cell; have hF := hK.fro; have hX := hK.ext)
    | (go_at_call 102; refine (HR.out _ (by (repeat' (first | with_reducible assumption | with_reducible exact Ext.refl _ | with_reducible refine Ext.alloc ?_ _ | with_reducible refine Ext.set ?_ ?_ _ | with_reducible refine Ext.drew ?_ | with_reducible refine Ext.drewN ?_ _ | with_reducible refine Ext.trans ?_ (by assumption) | (dsimp only; omega))))).mono ?_; rintro e w2 ⟨rfl, hE⟩; (first | (have hK := KC.step (n := w.heap.size + 3) (by with_reducible assumption) hE) | (have hK := KC.step (KC.step (n := w.heap.size + 3) (by with_reducible assumption) (ext_alloc1 _ _)) hE) | (have hK := KC.step (KC.refl (n := w.heap.size + 3) (by simp)) hE)); have hC := hK.cell; have hF := hK.fro; have hX := hK.ext))
  refine body_abs (fun X => Blk X (w.heap.size + 1 + 1) 102 #[.int .i64 sh, .int .i64 us, .int .i64 be, .slice A n c, .int .i64 ma, .int .i64 fi, .int .i64 le, .slice B k d] ∧ Ext w X) ⟨Blk.st8 (Blk.ext B3.out hX) _ _ _ _ _ _ _ _, by (repeat' (first | with_reducible assumption | with_reducible exact Ext.refl _ | with_reducible refine Ext.alloc ?_ _ | with_reducible refine Ext.set ?_ ?_ _ | with_reducible refine Ext.drew ?_ | with_reducible refine Ext.drewN ?_ _ | with_reducible refine Ext.trans ?_ (by assumption) | (dsimp only; omega)))⟩ ?_
  rintro X ⟨hB, XE⟩
  have r0 := hB.cell 0
  have r1 := hB.cell 1
  have r2 := hB.cell 2
  have r3 := hB.cell 3
  have r4 := hB.cell 4
  have r5 := hB.cell 5
  have r6 := hB.cell 6
  have r7 := hB.cell 7
  simp only [List.getElem?_toArray, List.getElem?_cons_zero, List.getElem?_cons_succ] at r0 r1 r2 r3 r4 r5 r6 r7
  exact bodyPost_ret (v := .tuple #[.agg #[.int .i64 sh, .int .i64 us, .int .i64 be, .slice A n c, .int .i64 ma, .int .i64 fi, .int .i64 le, .slice B k d], .int .i64 0]) (by simp [results, Tryz.results60, go_sem, r0, r1, r2, r3, r4, r5, r6, r7]) rfl ⟨rfl, XE⟩
end Go.Proofs.YtggggnjibedgaaaGreat
