/- Which springs are clean in all of the truths, and in some; in how many a mix is. -/
import Derived.Test.YtcfijidlbimckaaDoorBegin
import Derived.Laws.BitsAllLaws
set_option linter.unusedSimpArgs false
set_option linter.unusedVariables false
namespace Go.Proofs.YtcfijidlbimckaaDoor
open Go.RowKit
def dif (a b : Nat) : Nat := a &&& (18446744073709551615 - b)
theorem dif_le (a b : Nat) : dif a b ≤ a := Nat.and_le_left
def con (a b : Nat) : Nat := a &&& b
theorem con_le (a b : Nat) : con a b ≤ a := Nat.and_le_left
/-- The springs that are clean in all truths of a list; that are foul in all. -/
def sureN (n : Nat) (tl : List Nat) : Nat := tl.foldl dif (2 ^ n - 1)
def foulN (n : Nat) (tl : List Nat) : Nat := tl.foldl con (2 ^ n - 1)
def mayN (n : Nat) (tl : List Nat) : Nat := dif (2 ^ n - 1) (foulN n tl)
/-- In how many truths of a list a mix is clean. -/
def cleanN (x : Nat) (tl : List Nat) : Nat := (tl.filter fun t => x &&& t == 0).length
theorem take_snoc {α : Type} (xs : List α) (d : α) {k : Nat} (h : k < xs.length) : xs.take (k + 1) = xs.take k ++ [xs.getD k d] := by
  rw [List.take_succ_eq_append_getElem h]; simp [List.getD, List.getElem?_eq_getElem h]
theorem foldl_le {f : Nat → Nat → Nat} (hf : ∀ a b, f a b ≤ a) : ∀ (l : List Nat) (a : Nat), l.foldl f a ≤ a
  | [], a => Nat.le_refl a
  | b :: l, a => Nat.le_trans (foldl_le hf l (f a b)) (hf a b)
theorem sureN_le (n : Nat) (tl : List Nat) : sureN n tl ≤ 2 ^ n - 1 := foldl_le dif_le tl _
theorem foulN_le (n : Nat) (tl : List Nat) : foulN n tl ≤ 2 ^ n - 1 := foldl_le con_le tl _
theorem SetsAt.at_ {w : World} {A : Option Addr} {xs : List Nat} (h : SetsAt w A xs) {n k : Nat} (hn : xs.length = n) (hk : k < n) : ∃ b off, A = some ⟨b, off, none⟩ ∧ b < w.heap.size ∧ w.cell? ⟨b, off + k, none⟩ = some (.int .u64 (xs.getD k 0 : Nat)) := by
  obtain ⟨b, off, hA, hb, hc⟩ := h (by rintro rfl; simp at hn; omega)
  exact ⟨b, off, hA, hb, hc k (by omega)⟩
theorem getD_mem {α : Type} {xs : List α} {d : α} {k : Nat} (h : k < xs.length) : xs.getD k d ∈ xs := by
  simp [List.getD, List.getElem?_eq_getElem h]
theorem and_not_u64 {a b : Nat} (ha : a < 18446744073709551616) (hb : b < 18446744073709551616) : bits BinOp.andNot IntKind.u64 (a : Int) (b : Int) = ((dif a b : Nat) : Int) := u64_andNot_nat a b ha hb
theorem con_u64 {a b : Nat} (ha : a < 18446744073709551616) (hb : b < 18446744073709551616) : bits BinOp.and IntKind.u64 (a : Int) (b : Int) = ((con a b : Nat) : Int) := bits_and_u64_nat a b ha hb
theorem two8 {n : Nat} (h : n ≤ 8) : 2 ^ n - 1 < 256 := by
  have h1 : 2 ^ n ≤ 2 ^ 8 := Nat.pow_le_pow_right (n := 2) (by decide) h
  have h2 : 0 < 2 ^ n := Nat.two_pow_pos n
  omega

set_option maxHeartbeats 2000000 in
theorem surelyClean_any (d : Wat) (A : WA) (TA : Option Addr) (tc : Nat) (tl : List Nat) (hn : d.spr.length ≤ 8) (ht : ∀ t ∈ tl, t < 256) (hlen : tl.length ≤ 256) (w : World) (hS : SetsAt w TA tl) :
    Calls Tryd.prog 45 #[fval d A (.slice TA tl.length tc)] w fun e w' => e = .returned (.int .u64 (sureN d.spr.length tl : Nat)) ∧ Ext w w' := by
  have HSP := hid (fun (W : World) => springs_any d A (.slice TA tl.length tc) (by omega) W)
  have HT := hid ht
  have HS := hid hS
  have H8 := two8 hn
  have HF := hid (fun k (h : k < tl.length) => (show (tl.take (k + 1)).foldl dif (2 ^ d.spr.length - 1) = dif ((tl.take k).foldl dif (2 ^ d.spr.length - 1)) (tl.getD k 0) by rw [take_snoc tl 0 h, List.foldl_append]; rfl))
  have HL := hid (fun k => foldl_le dif_le (tl.take k) (2 ^ d.spr.length - 1))
  unfold sureN fval fcells at *
  obtain ⟨spr, most, miss, al, smp⟩ := d
  obtain ⟨SA, sc, MA, mc⟩ := A
  dsimp only at *
  generalize spr.length = n at *
  generalize smp.length = m at *
  generalize 2 ^ n - 1 = z at *
  obtain ⟨k0, hk0⟩ : ∃ k, tl.length = k := ⟨_, rfl⟩
  rw [hk0] at hlen HSP HF ⊢
  have HK := hid hk0
  clear hk0 hS ht
  go_enter Tryd.func45, Tryd.ntmps45
  go_wp2_with (go_at_call 52; refine (HSP.out _).mono ?_; rintro e w2 ⟨rfl, hE⟩; (first | (have hK := KC.step (n := w.heap.size + 1) (by with_reducible assumption) hE) | (have hK := KC.step (KC.step (n := w.heap.size + 1) (by with_reducible assumption) (ext_alloc1 _ _)) hE) | (have hK := KC.step (KC.refl (n := w.heap.size + 1) (by simp)) hE)); have hC := hK.cell; have hF := hK.fro; have hX := hK.ext)
  have E2 : Ext w w2 := by (repeat' (first | with_reducible assumption | with_reducible exact Ext.refl _ | with_reducible refine Ext.alloc ?_ _ | with_reducible refine Ext.set ?_ ?_ _ | with_reducible refine Ext.drew ?_ | with_reducible refine Ext.drewN ?_ _ | with_reducible refine Ext.trans ?_ (by assumption) | (dsimp only; omega)))
  have HS2 := hid (HS.out.ext E2)
  clear hK hF hX hE
  go_loop [3, 11] (fun c i => ∃ j : Nat, j ≤ k0 ∧ i = .int .i64 j ∧ c = .int .u64 ((tl.take j).foldl dif z : Nat)) (fun _ i => k0 - (intOf i).toNat)
  case atStart => exact ⟨0, Nat.zero_le _, rfl, rfl⟩
  case round =>
    obtain ⟨j, hj, rfl, rfl⟩ := hrel
    by_cases hlt : j < k0
    · obtain ⟨b, off, rfl, hb, c0⟩ := HS2.out.at_ HK.out hlt
      have HJ := hid (HF.out j hlt)
      have hle := HL.out j
      have htj := HT.out _ (getD_mem (d := 0) (show j < tl.length by rw [HK.out]; exact hlt))
      generalize tl.getD j 0 = t at *
      generalize (tl.take j).foldl dif z = cc at *
      have hand := and_not_u64 (show cc < 18446744073709551616 by omega) (show t < 18446744073709551616 by omega)
      go_wp2_with (simp only [hand])
      go_round
      case rel => exact ⟨j + 1, by omega, by go_num, by rw [HJ.out]⟩
      case measure => simp [intOf]; omega
    · have HE := hid (List.take_of_length_le (l := tl) (i := j) (by rw [HK.out]; omega))
      go_wp2
      go_ret
      exact ⟨by rw [HE.out]; rfl, E2⟩
set_option maxHeartbeats 2000000 in
theorem maybeClean_any (d : Wat) (A : WA) (TA : Option Addr) (tc : Nat) (tl : List Nat) (hn : d.spr.length ≤ 8) (ht : ∀ t ∈ tl, t < 256) (hlen : tl.length ≤ 256) (w : World) (hS : SetsAt w TA tl) :
    Calls Tryd.prog 46 #[fval d A (.slice TA tl.length tc)] w fun e w' => e = .returned (.int .u64 (mayN d.spr.length tl : Nat)) ∧ Ext w w' := by
  have HSP := hid (fun (W : World) => springs_any d A (.slice TA tl.length tc) (by omega) W)
  have HT := hid ht
  have HS := hid hS
  have H8 := two8 hn
  have HF := hid (fun k (h : k < tl.length) => (show (tl.take (k + 1)).foldl con (2 ^ d.spr.length - 1) = con ((tl.take k).foldl con (2 ^ d.spr.length - 1)) (tl.getD k 0) by rw [take_snoc tl 0 h, List.foldl_append]; rfl))
  have HL := hid (fun k => foldl_le con_le (tl.take k) (2 ^ d.spr.length - 1))
  unfold mayN foulN fval fcells at *
  obtain ⟨spr, most, miss, al, smp⟩ := d
  obtain ⟨SA, sc, MA, mc⟩ := A
  dsimp only at *
  generalize spr.length = n at *
  generalize smp.length = m at *
  generalize 2 ^ n - 1 = z at *
  obtain ⟨k0, hk0⟩ : ∃ k, tl.length = k := ⟨_, rfl⟩
  rw [hk0] at hlen HSP HF ⊢
  have HK := hid hk0
  clear hk0 hS ht
  go_enter Tryd.func46, Tryd.ntmps46
  go_wp2_with (go_at_call 52; refine (HSP.out _).mono ?_; rintro e w2 ⟨rfl, hE⟩; (first | (have hK := KC.step (n := w.heap.size + 1) (by with_reducible assumption) hE) | (have hK := KC.step (KC.step (n := w.heap.size + 1) (by with_reducible assumption) (ext_alloc1 _ _)) hE) | (have hK := KC.step (KC.refl (n := w.heap.size + 1) (by simp)) hE)); have hC := hK.cell; have hF := hK.fro; have hX := hK.ext)
  have E2 : Ext w w2 := by (repeat' (first | with_reducible assumption | with_reducible exact Ext.refl _ | with_reducible refine Ext.alloc ?_ _ | with_reducible refine Ext.set ?_ ?_ _ | with_reducible refine Ext.drew ?_ | with_reducible refine Ext.drewN ?_ _ | with_reducible refine Ext.trans ?_ (by assumption) | (dsimp only; omega)))
  have HS2 := hid (HS.out.ext E2)
  clear hK hF hX hE
  go_loop [3, 11] (fun c i => ∃ j : Nat, j ≤ k0 ∧ i = .int .i64 j ∧ c = .int .u64 ((tl.take j).foldl con z : Nat)) (fun _ i => k0 - (intOf i).toNat)
  case atStart => exact ⟨0, Nat.zero_le _, rfl, rfl⟩
  case round =>
    obtain ⟨j, hj, rfl, rfl⟩ := hrel
    by_cases hlt : j < k0
    · obtain ⟨b, off, rfl, hb, c0⟩ := HS2.out.at_ HK.out hlt
      have HJ := hid (HF.out j hlt)
      have hle := HL.out j
      have htj := HT.out _ (getD_mem (d := 0) (show j < tl.length by rw [HK.out]; exact hlt))
      generalize tl.getD j 0 = t at *
      generalize (tl.take j).foldl con z = cc at *
      have hand := con_u64 (show cc < 18446744073709551616 by omega) (show t < 18446744073709551616 by omega)
      go_wp2_with (simp only [hand])
      go_round
      case rel => exact ⟨j + 1, by omega, by go_num, by rw [HJ.out]⟩
      case measure => simp [intOf]; omega
    · have HE := hid (List.take_of_length_le (l := tl) (i := j) (by rw [HK.out]; omega))
      have hle := HL.out j
      rw [HE.out] at hle ⊢
      obtain ⟨cc, hcc⟩ : ∃ cc, tl.foldl con z = cc := ⟨_, rfl⟩
      rw [hcc] at hle ⊢
      have HCC := hid hcc
      clear hcc
      have hand := and_not_u64 (show z < 18446744073709551616 by omega) (show cc < 18446744073709551616 by omega)
      go_wp2_with fail
      refine (HSP.out _).mono ?_
      rintro e w3 ⟨rfl, hE3⟩
      go_wp2_with (simp only [hand])
      go_ret
      exact ⟨by rw [HCC.out]; rfl, E2.trans hE3⟩
set_option maxHeartbeats 2000000 in
theorem cleanIn_any (d : Wat) (A : WA) (TA : Option Addr) (tc : Nat) (tl : List Nat) (x : Nat) (hx : x < 256) (ht : ∀ t ∈ tl, t < 256) (hlen : tl.length ≤ 256) (w : World) (hS : SetsAt w TA tl) :
    Calls Tryd.prog 55 #[fval d A (.slice TA tl.length tc), .int .u64 x] w fun e w' => e = .returned (.int .i64 (cleanN x tl : Nat)) ∧ Ext w w' := by
  have HT := hid ht
  have HS := hid hS
  have HF := hid (fun k (h : k < tl.length) => (show cleanN x (tl.take (k + 1)) = cleanN x (tl.take k) + if (x &&& tl.getD k 0 == 0) = true then 1 else 0 by
    unfold cleanN
    rw [take_snoc tl 0 h, List.filter_append, List.length_append, List.filter_cons]
    by_cases hh : (x &&& tl.getD k 0 == 0) = true <;> simp only [hh, if_true, if_false, List.filter_nil] <;> rfl))
  have HL := hid (fun k => show cleanN x (tl.take k) ≤ tl.length by unfold cleanN; exact Nat.le_trans (List.length_filter_le _ _) (by rw [List.length_take]; omega))
  unfold fval fcells at *
  obtain ⟨spr, most, miss, al, smp⟩ := d
  obtain ⟨SA, sc, MA, mc⟩ := A
  dsimp only at *
  generalize spr.length = n at *
  generalize smp.length = m at *
  obtain ⟨k0, hk0⟩ : ∃ k, tl.length = k := ⟨_, rfl⟩
  rw [hk0] at hlen HF HL ⊢
  have HK := hid hk0
  clear hk0 hS ht
  go_enter Tryd.func55, Tryd.ntmps55
  go_wp2
  have HE0 := hid (ext_alloc1 w (.cells #[.slice SA n sc, .int .i64 most, .int .i64 miss, .int .i64 al, .slice MA m mc, .slice TA k0 tc] 72))
  have HS2 := hid (HS.out.ext HE0.out)
  go_loop [5, 11] (fun c i => ∃ j : Nat, j ≤ k0 ∧ i = .int .i64 j ∧ c = .int .i64 (cleanN x (tl.take j) : Nat)) (fun _ i => k0 - (intOf i).toNat)
  case atStart => exact ⟨0, Nat.zero_le _, rfl, rfl⟩
  case round =>
    obtain ⟨j, hj, rfl, rfl⟩ := hrel
    by_cases hlt : j < k0
    · obtain ⟨b, off, rfl, hb, c0⟩ := HS2.out.at_ HK.out hlt
      have HJ := hid (HF.out j hlt)
      have hle := HL.out j
      have htj := HT.out _ (getD_mem (d := 0) (show j < tl.length by rw [HK.out]; exact hlt))
      generalize tl.getD j 0 = t at *
      generalize cleanN x (tl.take j) = cc at *
      have HM := hid (fun W => meets_any x t (by omega) (by omega) W)
      generalize (x &&& t == 0) = bm at *
      cases bm
      · go_wp2_with (go_at_call 71; refine (HM.out _).mono ?_; rintro e w2 ⟨rfl, rfl⟩)
        go_round
        case rel => exact ⟨j + 1, by omega, by go_num, by rw [HJ.out]; rfl⟩
        case measure => simp [intOf]; omega
      · go_wp2_with (go_at_call 71; refine (HM.out _).mono ?_; rintro e w2 ⟨rfl, rfl⟩)
        go_round
        case rel => exact ⟨j + 1, by omega, by go_num, by rw [HJ.out]; simp⟩
        case measure => simp [intOf]; omega
    · have HE := hid (List.take_of_length_le (l := tl) (i := j) (by rw [HK.out]; omega))
      go_wp2
      go_ret
      exact ⟨by rw [HE.out]; rfl, HE0.out⟩
end Go.Proofs.YtcfijidlbimckaaDoor
