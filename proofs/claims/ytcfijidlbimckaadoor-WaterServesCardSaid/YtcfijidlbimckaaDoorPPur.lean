/- Pure, of the program. -/
import Derived.Test.YtcfijidlbimckaaDoorBeginP
import Derived.Test.YtcfijidlbimckaaDoorPServe
import Derived.Test.YtcfijidlbimckaaDoorRCle
set_option linter.unusedSimpArgs false
set_option linter.unusedVariables false
namespace Go.Proofs.YtcfijidlbimckaaDoor
open Go.RowKit
def purE (d : Wat) (x : Int) : Int := if watB d = true then if mixB d.spr.length x = true then if truthsL d = [] then 3 else 0 else 1 else 40
def purS (d : Wat) (x : Int) : Bool := if purE d x = 0 then decide (cleanN x.toNat (truthsL d) = (truthsL d).length) else false
def purM (d : Wat) (x : Int) : Bool := if purE d x = 0 then decide (0 < cleanN x.toNat (truthsL d)) else false
def PureIs (d : Wat) (x : Int) (w : World) (e : Ending) (w' : World) : Prop :=
  e = .returned (.tuple #[.bool (purS d x), .bool (purM d x), .int .i64 (purE d x)]) ∧ Ext w w'
theorem PureIs.err {d : Wat} {x : Int} {w : World} {r : Int} (h : purE d x = r) (h0 : r ≠ 0) : PureIs d x w = fun e w' => e = .returned (.tuple #[.bool false, .bool false, .int .i64 r]) ∧ Ext w w' := by
  unfold PureIs purS purM
  rw [h, if_neg h0, if_neg h0]
theorem PureIs.ok {d : Wat} {x : Int} {w : World} (h : purE d x = 0) : PureIs d x w = fun e w' => e = .returned (.tuple #[.bool (decide (cleanN x.toNat (truthsL d) = (truthsL d).length)), .bool (decide (0 < cleanN x.toNat (truthsL d))), .int .i64 0]) ∧ Ext w w' := by
  unfold PureIs purS purM
  rw [h, if_pos rfl, if_pos rfl]
set_option maxHeartbeats 1000000 in
theorem pure1_any (d : Wat) (A : WA) (T : Value) (x : Int) (q : Nat) (hn : d.spr.length ≤ 30) (w : World) (hq : Blk w q 3 #[.int .i64 x]) :
    Calls Tryd.prog 53 (#[fval d A T] ++ #[.pointer (some ⟨q, 0, none⟩)]) w fun e w' => e = .returned (.bool (mixB d.spr.length x)) ∧ Ext w w' := by
  have HM := hid (fun W => isMix_any d A x hn W)
  generalize mixB d.spr.length x = b at *
  have cq := hq.cell 0
  have zq := hq.lt
  simp only [List.getElem?_toArray, List.getElem?_cons_zero] at cq
  clear hq
  unfold fval fcells wval wcells at *
  obtain ⟨spr, most, miss, al, smp⟩ := d
  obtain ⟨SA, sc, MA, mc⟩ := A
  dsimp only at *
  generalize spr.length = n at *
  generalize smp.length = m at *
  go_enter Tryd.func53, Tryd.ntmps53
  go_wp2_with (go_at_call 54; refine (HM.out _).mono ?_; rintro e w2 ⟨rfl, hE⟩)
  go_ret
  exact ⟨rfl, by (repeat' (first | with_reducible assumption | with_reducible exact Ext.refl _ | with_reducible refine Ext.alloc ?_ _ | with_reducible refine Ext.set ?_ ?_ _ | with_reducible refine Ext.drew ?_ | with_reducible refine Ext.drewN ?_ _ | with_reducible refine Ext.trans ?_ (by assumption) | (dsimp only; omega)))⟩
set_option maxHeartbeats 4000000 in
set_option maxRecDepth 100000 in
theorem ppure_any (d : Wat) (A : WA) (x : Int) (hn : d.spr.length ≤ 30) (hm : d.smp.length ≤ 1000) (w : World) (hW : WIn w d A) (hT : TabW w) :
    Calls Tryd.prog 20 #[wval d A, .int .i64 x] w (PureIs d x w) := by
  have t0 := blks2 w (.cells (wcells d A) 25) (.cells #[.int .i64 x] 3)
  have BN := hid (show Blk ((w.alloc (.cells (wcells d A) 25)).alloc (.cells #[.int .i64 x] 3)) (w.heap.size + 1) 3 #[.int .i64 x] from t0.2)
  clear t0
  cases hc : watB d
  case false =>
    rw [PureIs.err (r := 40) (by unfold purE; rw [hc]; rfl) (by decide)]
    have HB := hid (fun (W : World) (hE : Ext w W) caps => beginP_check d A (by omega) hm hc caps W (hW.ext hE))
    clear BN
    clear hT hW
    unfold wval at *
    obtain ⟨spr, most, miss, al, smp⟩ := d
    obtain ⟨SA, sc, MA, mc⟩ := A
    unfold wcells at *
    dsimp only at *
    generalize spr.length = n at *
    generalize smp.length = m at *
    go_enter Tryd.func20, Tryd.ntmps20
    go_wp2_with fail
    (go_at_call 43; refine (HB.out _ (by (repeat' (first | with_reducible assumption | with_reducible exact Ext.refl _ | with_reducible refine Ext.alloc ?_ _ | with_reducible refine Ext.set ?_ ?_ _ | with_reducible refine Ext.drew ?_ | with_reducible refine Ext.drewN ?_ _ | with_reducible refine Ext.trans ?_ (by assumption) | (dsimp only; omega)))) _).mono ?_; rintro e w2 ⟨rfl, hE⟩; (first | (have hK := KC.step (n := w.heap.size + 2) (by with_reducible assumption) hE) | (have hK := KC.step (KC.step (n := w.heap.size + 2) (by with_reducible assumption) (ext_alloc1 _ _)) hE) | (have hK := KC.step (KC.refl (n := w.heap.size + 2) (by simp)) hE)); have hC := hK.cell; have hF := hK.fro; have hX := hK.ext)
    go_wp2
    go_ret3
    exact ⟨rfl, by (repeat' (first | with_reducible assumption | with_reducible exact Ext.refl _ | with_reducible refine Ext.alloc ?_ _ | with_reducible refine Ext.set ?_ ?_ _ | with_reducible refine Ext.drew ?_ | with_reducible refine Ext.drewN ?_ _ | with_reducible refine Ext.trans ?_ (by assumption) | (dsimp only; omega)))⟩
  have hok := watB_ok hc
  cases hq : mixB d.spr.length x
  case false =>
    rw [PureIs.err (r := 1) (by unfold purE; rw [hc, hq]; rfl) (by decide)]
    have HB := hid (fun (W : World) (hE : Ext w W) b (hb : Blk W b 3 #[.int .i64 x]) => beginP_asked d A (by omega) hm hc #[.pointer (some ⟨b, 0, none⟩)] W (hW.ext hE) (fun W' hE' => by have := pure1_any d A (.slice none 0 0) x b hn W' (hb.ext hE'); rw [hq] at this; exact this))
    clear hq
    clear hT hW
    unfold wval at *
    obtain ⟨spr, most, miss, al, smp⟩ := d
    obtain ⟨SA, sc, MA, mc⟩ := A
    unfold wcells at *
    dsimp only at *
    generalize spr.length = n at *
    generalize smp.length = m at *
    go_enter Tryd.func20, Tryd.ntmps20
    go_wp2_with fail
    (go_at_call 43; refine (HB.out _ (by (repeat' (first | with_reducible assumption | with_reducible exact Ext.refl _ | with_reducible refine Ext.alloc ?_ _ | with_reducible refine Ext.set ?_ ?_ _ | with_reducible refine Ext.drew ?_ | with_reducible refine Ext.drewN ?_ _ | with_reducible refine Ext.trans ?_ (by assumption) | (dsimp only; omega)))) _ BN.out).mono ?_; rintro e w2 ⟨rfl, hE⟩; (first | (have hK := KC.step (n := w.heap.size + 2) (by with_reducible assumption) hE) | (have hK := KC.step (KC.step (n := w.heap.size + 2) (by with_reducible assumption) (ext_alloc1 _ _)) hE) | (have hK := KC.step (KC.refl (n := w.heap.size + 2) (by simp)) hE)); have hC := hK.cell; have hF := hK.fro; have hX := hK.ext)
    go_wp2
    go_ret3
    exact ⟨rfl, by (repeat' (first | with_reducible assumption | with_reducible exact Ext.refl _ | with_reducible refine Ext.alloc ?_ _ | with_reducible refine Ext.set ?_ ?_ _ | with_reducible refine Ext.drew ?_ | with_reducible refine Ext.drewN ?_ _ | with_reducible refine Ext.trans ?_ (by assumption) | (dsimp only; omega)))⟩
  have HB := hid (fun (W : World) (hE : Ext w W) b (hb : Blk W b 3 #[.int .i64 x]) => beginP_ok d A hok hc #[.pointer (some ⟨b, 0, none⟩)] W (hW.ext hE) (hT.ext hE) (fun W' hE' => by have := pure1_any d A (.slice none 0 0) x b hn W' (hb.ext hE'); rw [hq] at this; exact this))
  unfold BeginIs at HB
  by_cases hnil : truthsL d = []
  · rw [PureIs.err (r := 3) (by unfold purE; rw [hc, hq, hnil]; rfl) (by decide)]
    have HB2 := hid (fun W hE b hb => (HB.out W hE b hb).mono fun e w' h => h.1 hnil)
    clear hq HB hnil
    clear hT hW
    unfold wval at *
    obtain ⟨spr, most, miss, al, smp⟩ := d
    obtain ⟨SA, sc, MA, mc⟩ := A
    unfold wcells at *
    dsimp only at *
    generalize spr.length = n at *
    generalize smp.length = m at *
    go_enter Tryd.func20, Tryd.ntmps20
    go_wp2_with fail
    (go_at_call 43; refine (HB2.out _ (by (repeat' (first | with_reducible assumption | with_reducible exact Ext.refl _ | with_reducible refine Ext.alloc ?_ _ | with_reducible refine Ext.set ?_ ?_ _ | with_reducible refine Ext.drew ?_ | with_reducible refine Ext.drewN ?_ _ | with_reducible refine Ext.trans ?_ (by assumption) | (dsimp only; omega)))) _ BN.out).mono ?_; rintro e w2 ⟨rfl, hE⟩; (first | (have hK := KC.step (n := w.heap.size + 2) (by with_reducible assumption) hE) | (have hK := KC.step (KC.step (n := w.heap.size + 2) (by with_reducible assumption) (ext_alloc1 _ _)) hE) | (have hK := KC.step (KC.refl (n := w.heap.size + 2) (by simp)) hE)); have hC := hK.cell; have hF := hK.fro; have hX := hK.ext)
    go_wp2
    go_ret3
    exact ⟨rfl, by (repeat' (first | with_reducible assumption | with_reducible exact Ext.refl _ | with_reducible refine Ext.alloc ?_ _ | with_reducible refine Ext.set ?_ ?_ _ | with_reducible refine Ext.drew ?_ | with_reducible refine Ext.drewN ?_ _ | with_reducible refine Ext.trans ?_ (by assumption) | (dsimp only; omega)))⟩
  rw [PureIs.ok (by unfold purE; rw [hc, hq, if_neg hnil]; rfl)]
  have HB2 := hid (fun W hE b hb => (HB.out W hE b hb).mono fun e w' h => h.2 hnil)
  have HLT := hid (truths_lt hok)
  have hlen := truths_len hok
  have hx : 1 ≤ x ∧ x ≤ ((2 ^ d.spr.length - 1 : Nat) : Int) := wB_true.1 hq
  have h256 := two8 hok.n8
  obtain ⟨xn, rfl⟩ := Int.eq_ofNat_of_zero_le (show 0 ≤ x by omega)
  have HCL := hid (fun (TA : Option Addr) (tc : Nat) (W : World) (hS : SetsAt W TA (truthsL d)) => cleanIn_any d A TA tc (truthsL d) xn (by omega) HLT.out hlen W hS)
  have hcl : cleanN xn (truthsL d) ≤ (truthsL d).length := List.length_filter_le _ _
  rw [Int.toNat_natCast]
  clear HB hnil hq
  unfold fval fcells at *
  generalize truthsL d = tl at *
  generalize cleanN xn tl = cl at *
  obtain ⟨k, hk⟩ : ∃ k, tl.length = k := ⟨_, rfl⟩
  rw [hk] at hcl hlen HCL ⊢
  have HKK := hid hk
  clear hk
  obtain ⟨r1, hr1⟩ : ∃ r, decide (cl = k) = r := ⟨_, rfl⟩
  obtain ⟨r2, hr2⟩ : ∃ r, decide (0 < cl) = r := ⟨_, rfl⟩
  rw [hr1, hr2]
  have HR1 := hid (show decide ((cl : Int) = (k : Int)) = r1 by rw [← hr1]; exact decide_eq_decide.2 (by omega))
  have HR2 := hid (show decide (0 < (cl : Int)) = r2 by rw [← hr2]; exact decide_eq_decide.2 (by omega))
  clear hr1 hr2
  clear hT hW
  unfold wval at *
  obtain ⟨spr, most, miss, al, smp⟩ := d
  obtain ⟨SA, sc, MA, mc⟩ := A
  unfold wcells at *
  dsimp only at *
  generalize spr.length = n at *
  generalize smp.length = m at *
  have hxn : xn < 256 := by omega
  have hwr : IntKind.u64.wrap (xn : Int) = (xn : Int) := by
    rw [show IntKind.u64.wrap (xn : Int) = (xn : Int) % 18446744073709551616 by simp [IntKind.wrap, IntKind.bits, IntKind.signed]]
    omega
  clear hx h256
  go_enter Tryd.func20, Tryd.ntmps20
  go_wp2_with fail
  refine (HB2.out _ (by (repeat' (first | with_reducible assumption | with_reducible exact Ext.refl _ | with_reducible refine Ext.alloc ?_ _ | with_reducible refine Ext.set ?_ ?_ _ | with_reducible refine Ext.drew ?_ | with_reducible refine Ext.drewN ?_ _ | with_reducible refine Ext.trans ?_ (by assumption) | (dsimp only; omega)))) _ BN.out).mono ?_
  rintro e w2 ⟨v, rfl, hown, hE⟩
  obtain ⟨TA, tc, rfl, hS⟩ := hown.form
  have HS := hid hS
  have E2 : Ext w w2 := by (repeat' (first | with_reducible assumption | with_reducible exact Ext.refl _ | with_reducible refine Ext.alloc ?_ _ | with_reducible refine Ext.set ?_ ?_ _ | with_reducible refine Ext.drew ?_ | with_reducible refine Ext.drewN ?_ _ | with_reducible refine Ext.trans ?_ (by assumption) | (dsimp only; omega)))
  have BN2 := BN.out.ext hE
  have b0 := BN2.cell 0
  have bz := BN2.lt
  simp only [List.getElem?_toArray, List.getElem?_cons_zero] at b0
  clear hown hS hE BN2
  rw [HKK.out]
  go_wp2_with fail
  have BQ := hid (Blk.new w2 72 #[.slice SA n sc, .int .i64 most, .int .i64 miss, .int .i64 al, .slice MA m mc, .slice TA k tc])
  refine (HCL.out _ _ _ (HS.out.ext (ext_alloc1 _ _))).mono ?_
  rintro e w3 ⟨rfl, hE3⟩
  have BQ3 := BQ.out.ext hE3
  have c5 := BQ3.cell 5
  have z5 := BQ3.lt
  simp only [List.getElem?_toArray, List.getElem?_cons_zero, List.getElem?_cons_succ] at c5
  have E3 : Ext w w3 := (E2.alloc _).trans hE3
  clear hE3 BQ3 BQ
  go_wp2
  go_ret3
  exact ⟨by rw [← HR1.out, ← HR2.out]; first | rfl | (simp; done) | (simp; rw [Bool.eq_iff_iff]; simp; done), E3⟩
end Go.Proofs.YtcfijidlbimckaaDoor
