/- Clean, of the specification. -/
import Derived.Test.YtcfijidlbimckaaDoorRTru
import Derived.Test.YtcfijidlbimckaaDoorPClean
set_option linter.unusedSimpArgs false
set_option linter.unusedVariables false
namespace Go.Proofs.YtcfijidlbimckaaDoor
open Go.RowKit
theorem IntsAt.at_ {w : World} {A : Option Addr} {xs : List Int} (h : IntsAt w A xs) {n k : Nat} (hn : xs.length = n) (hk : k < n) : ∃ b off, A = some ⟨b, off, none⟩ ∧ b < w.heap.size ∧ w.cell? ⟨b, off + k, none⟩ = some (.int .i64 (xs.getD k 0)) := by
  obtain ⟨b, off, hA, hb, hc⟩ := h (by rintro rfl; simp at hn; omega)
  exact ⟨b, off, hA, hb, hc k (by omega)⟩
theorem dif_tb {a b : Nat} (ha : a < 18446744073709551616) (hb : b < 18446744073709551616) (i : Nat) : (dif a b).testBit i = (a.testBit i && !b.testBit i) := by
  unfold dif
  have e : 18446744073709551615 - b = 2 ^ 64 - (b + 1) := by omega
  rw [Nat.testBit_and, e, Nat.testBit_two_pow_sub_succ (by omega)]
  by_cases hi : i < 64
  · simp [hi]
  · have : a.testBit i = false := Nat.testBit_lt_two_pow (Nat.lt_of_lt_of_le ha (Nat.pow_le_pow_right (n := 2) (by decide) (show 64 ≤ i by omega)))
    simp [this]
theorem con_tb (a b i : Nat) : (con a b).testBit i = (a.testBit i && b.testBit i) := by unfold con; exact Nat.testBit_and ..
theorem dif_self {a : Nat} (ha : a < 18446744073709551616) : dif a a = 0 := by
  apply Nat.eq_of_testBit_eq; intro i
  rw [dif_tb ha ha]; simp
theorem sure_step {s a t : Nat} (hs : s < 18446744073709551616) (ha : a < 18446744073709551616) (ht : t < 18446744073709551616) (hsub : con s a = s) : con s (dif a t) = dif s t := by
  apply Nat.eq_of_testBit_eq; intro i
  have h := congrArg (fun x => x.testBit i) hsub
  simp only [con_tb] at h
  rw [con_tb, dif_tb ha ht, dif_tb hs ht, ← Bool.and_assoc, h]
theorem sub_step {s a t : Nat} (hs : s < 18446744073709551616) (ht : t < 18446744073709551616) (hsub : con s a = s) : con (dif s t) a = dif s t := by
  apply Nat.eq_of_testBit_eq; intro i
  have h := congrArg (fun x => x.testBit i) hsub
  simp only [con_tb] at h
  rw [con_tb, dif_tb hs ht]
  revert h
  cases s.testBit i <;> cases a.testBit i <;> cases t.testBit i <;> simp
theorem may_step {a f t : Nat} (ha : a < 18446744073709551616) (hf : f < 18446744073709551616) (ht : t < 18446744073709551616) : dif a (con f t) = dif a f ||| dif a t := by
  have hc : con f t < 18446744073709551616 := Nat.lt_of_le_of_lt (con_le f t) hf
  apply Nat.eq_of_testBit_eq; intro i
  rw [Nat.testBit_or, dif_tb ha hc, dif_tb ha hf, dif_tb ha ht, con_tb]
  cases a.testBit i <;> cases f.testBit i <;> cases t.testBit i <;> rfl
theorem sub_fold {a : Nat} (ha : a < 18446744073709551616) : ∀ (l : List Nat) (s : Nat), s < 18446744073709551616 → (∀ t ∈ l, t < 256) → con s a = s → con (l.foldl dif s) a = l.foldl dif s
  | [], s, _, _, h => h
  | t :: l, s, hs, hl, h => sub_fold ha l (dif s t) (Nat.lt_of_le_of_lt (dif_le s t) hs) (fun u hu => hl u (by simp [hu])) (sub_step hs (by have := hl t (by simp); omega) h)
set_option maxRecDepth 100000 in
set_option maxHeartbeats 4000000 in
theorem rClean_any (d : Wat) (A : WA) (hn : d.spr.length ≤ 30) (hm : d.smp.length ≤ 1000) (w : World) (hW : WIn w d A) :
    Calls Tryd.prog 34 #[wval d A] w fun e w' => e = .returned (.tuple #[.int .i64 (surV d : Nat), .int .i64 (mayV d : Nat), .int .i64 (watE d)]) ∧ Ext w w' := by
  have HT := hid (fun W (hE : Ext w W) => rTruths_any d A hn hm W (hW.ext hE))
  have HA := hid (fun W => rAll_any d A hn W)
  by_cases h0 : watE d = 0
  case neg =>
    have hs : surV d = 0 := by unfold surV; rw [if_neg h0]
    have hy : mayV d = 0 := by unfold mayV; rw [if_neg h0]
    rw [hs, hy]
    clear hW hs hy
    generalize watE d = e0 at *
    generalize tlI d = tl at *
    unfold wval wcells at *
    obtain ⟨spr, most, miss, al, smp⟩ := d
    obtain ⟨SA, sc, MA, mc⟩ := A
    dsimp only at *
    generalize spr.length = n at *
    generalize smp.length = m at *
    go_enter Tryd.func34, Tryd.ntmps34
    go_wp2_with fail
    refine (HT.out _ (by (repeat' (first | with_reducible assumption | with_reducible exact Ext.refl _ | with_reducible refine Ext.alloc ?_ _ | with_reducible refine Ext.set ?_ ?_ _ | with_reducible refine Ext.drew ?_ | with_reducible refine Ext.drewN ?_ _ | with_reducible refine Ext.trans ?_ (by assumption) | (dsimp only; omega))))).mono ?_
    rintro e w2 ⟨v, rfl, hown, hE⟩
    have E2 : Ext w w2 := by (repeat' (first | with_reducible assumption | with_reducible exact Ext.refl _ | with_reducible refine Ext.alloc ?_ _ | with_reducible refine Ext.set ?_ ?_ _ | with_reducible refine Ext.drew ?_ | with_reducible refine Ext.drewN ?_ _ | with_reducible refine Ext.trans ?_ (by assumption) | (dsimp only; omega)))
    clear hown hE
    go_wp2
    go_ret3
    exact ⟨rfl, E2⟩
  have hb : watB d = true := by
    revert h0; unfold watE; cases watB d <;> simp
  have hok := watB_ok hb
  have ht : tlI d = (truthsL d).map Int.ofNat := by unfold tlI; rw [if_pos hb]
  have hs : surV d = sureN d.spr.length (truthsL d) := by unfold surV; rw [if_pos h0]
  have hy : mayV d = mayN d.spr.length (truthsL d) := by unfold mayV; rw [if_pos h0]
  rw [ht, h0] at HT
  rw [hs, hy, h0]
  have HLT := hid (truths_lt hok)
  have hlen := truths_len hok
  have h8 := two8 hok.n8
  unfold sureN mayN foulN
  generalize truthsL d = tl at *
  have HF1 := hid (fun k (h : k < tl.length) => (show (tl.take (k + 1)).foldl dif (2 ^ d.spr.length - 1) = dif ((tl.take k).foldl dif (2 ^ d.spr.length - 1)) (tl.getD k 0) by rw [take_snoc tl 0 h, List.foldl_append]; rfl))
  have HL1 := hid (fun k => foldl_le dif_le (tl.take k) (2 ^ d.spr.length - 1))
  have HF2 := hid (fun k (h : k < tl.length) => (show (tl.take (k + 1)).foldl con (2 ^ d.spr.length - 1) = con ((tl.take k).foldl con (2 ^ d.spr.length - 1)) (tl.getD k 0) by rw [take_snoc tl 0 h, List.foldl_append]; rfl))
  have HL2 := hid (fun k => foldl_le con_le (tl.take k) (2 ^ d.spr.length - 1))
  have HSB := hid (fun k => sub_fold (a := 2 ^ d.spr.length - 1) (by omega) (tl.take k) (2 ^ d.spr.length - 1) (by omega) (fun t h => HLT.out t (List.mem_of_mem_take h)) (by unfold con; exact Nat.and_self _))
  clear hW h0 hb hok ht hs hy
  unfold wval wcells at *
  obtain ⟨spr, most, miss, al, smp⟩ := d
  obtain ⟨SA, sc, MA, mc⟩ := A
  dsimp only at *
  generalize spr.length = n at *
  generalize smp.length = m at *
  generalize 2 ^ n - 1 = z at *
  obtain ⟨k0, hk0⟩ : ∃ k, tl.length = k := ⟨_, rfl⟩
  rw [hk0] at hlen HF1 HF2
  have HK := hid hk0
  clear hk0
  go_enter Tryd.func34, Tryd.ntmps34
  go_wp2_with fail
  refine (HT.out _ (by (repeat' (first | with_reducible assumption | with_reducible exact Ext.refl _ | with_reducible refine Ext.alloc ?_ _ | with_reducible refine Ext.set ?_ ?_ _ | with_reducible refine Ext.drew ?_ | with_reducible refine Ext.drewN ?_ _ | with_reducible refine Ext.trans ?_ (by assumption) | (dsimp only; omega))))).mono ?_
  rintro e w2 ⟨v, rfl, hown, hE⟩
  have HQ2 := hid ((Blk.new w 25 #[.slice SA n sc, .int .i64 most, .int .i64 miss, .int .i64 al, .slice MA m mc]).ext hE)
  have E2 : Ext w w2 := by (repeat' (first | with_reducible assumption | with_reducible exact Ext.refl _ | with_reducible refine Ext.alloc ?_ _ | with_reducible refine Ext.set ?_ ?_ _ | with_reducible refine Ext.drew ?_ | with_reducible refine Ext.drewN ?_ _ | with_reducible refine Ext.trans ?_ (by assumption) | (dsimp only; omega)))
  have d0 := HQ2.out.cell 0
  have d1 := HQ2.out.cell 1
  have d2 := HQ2.out.cell 2
  have d3 := HQ2.out.cell 3
  have d4 := HQ2.out.cell 4
  simp only [List.getElem?_toArray, List.getElem?_cons_zero, List.getElem?_cons_succ] at d0 d1 d2 d3 d4
  have dz := HQ2.out.lt
  obtain ⟨TA, tc, rfl, hS⟩ := hown.form
  have HS := hid hS
  have hlm : (tl.map Int.ofNat).length = k0 := by rw [List.length_map, HK.out]
  rw [hlm]
  have HLM := hid hlm
  clear hown hS hE hlm HT
  go_wp2_with fail
  refine (HA.out _).mono ?_
  rintro e w3 ⟨rfl, hE3⟩
  have E3 := E2.trans hE3
  have HQ3 := hid (HQ2.out.ext hE3)
  have HS3 := hid (HS.out.ext hE3)
  clear d0 d1 d2 d3 d4 HS HQ2 hE3 dz E2
  go_wp2
  go_loopw [2, 3, 6] (fun a b i wr => Ext w3 wr ∧ ∃ j : Nat, j ≤ k0 ∧ i = .int .i64 j ∧ a = .int .i64 ((tl.take j).foldl dif z : Nat) ∧ b = .int .i64 (dif z ((tl.take j).foldl con z) : Nat)) (fun _ _ i _ => k0 - (intOf i).toNat)
  case atStart => exact ⟨Ext.refl _, 0, Nat.zero_le _, rfl, rfl, by rw [List.take_zero, List.foldl_nil, dif_self (by omega)]; rfl⟩
  case round =>
    obtain ⟨hE, j, hj, rfl, rfl, rfl⟩ := hrel
    have HE := hid hE
    have HQ4 := hid (HQ3.out.ext hE)
    have HS4 := hid (HS3.out.ext hE)
    have d0 := HQ4.out.cell 0
    have d1 := HQ4.out.cell 1
    have d2 := HQ4.out.cell 2
    have d3 := HQ4.out.cell 3
    have d4 := HQ4.out.cell 4
    simp only [List.getElem?_toArray, List.getElem?_cons_zero, List.getElem?_cons_succ] at d0 d1 d2 d3 d4
    have dz := HQ4.out.lt
    by_cases hlt : j < k0
    · obtain ⟨b, off, rfl, hb, c0⟩ := HS4.out.at_ HLM.out hlt
      have hgd : (tl.map Int.ofNat).getD j 0 = ((tl.getD j 0 : Nat) : Int) := by
        have h1 : j < tl.length := by rw [HK.out]; exact hlt
        simp [List.getD, List.getElem?_eq_getElem h1]
      rw [hgd] at c0
      have HJ1 := hid (HF1.out j hlt)
      have HJ2 := hid (HF2.out j hlt)
      have hl1 := HL1.out j
      have hl2 := HL2.out j
      have hsb := HSB.out j
      have htj := HLT.out _ (getD_mem (d := 0) (show j < tl.length by rw [HK.out]; exact hlt))
      generalize tl.getD j 0 = t at *
      generalize (tl.take j).foldl dif z = s1 at *
      generalize (tl.take j).foldl con z = f1 at *
      have hx1 := andNot_i64 (a := z) (b := t) (by omega) (by omega)
      have hx2 := and_i64 (a := s1) (b := dif z t) (by omega) (by have := dif_le z t; omega)
      have hx3 := or_i64 (a := dif z f1) (b := dif z t) (by have := dif_le z f1; omega) (by have := dif_le z t; omega)
      have h4 := sure_step (s := s1) (a := z) (t := t) (by omega) (by omega) (by omega) hsb
      have h5 := may_step (a := z) (f := f1) (t := t) (by omega) (by omega) (by omega)
      rw [← h5] at hx3
      rw [show s1 &&& dif z t = dif s1 t from h4] at hx2
      rw [show z &&& (18446744073709551615 - t) = dif z t from rfl] at hx1
      clear h4 h5 hgd hsb
      rw [← HJ1.out] at hx2
      go_wp2_with fail
      refine wp_region_held_drew (S := fun w' => (∀ b o, b < wr.heap.size → w'.cell? ⟨b, o, none⟩ = wr.cell? ⟨b, o, none⟩) ∧ wr.heap.size ≤ w'.heap.size ∧ Ext wr w') (by kernel_rfl) ?hS0 (fun hHeld => ?_)
      case hS0 => exact ⟨fun _ _ _ => rfl, Nat.le_refl _, Ext.drew (Ext.refl _)⟩
      refine wpAnyH_take (i := 0) (oi := _) (v := ?v0xa) rfl (by kernel_rfl) (by kernel_rfl) (by kernel_rfl) (fun _ _ _ h => h) (Or.inl ⟨by rfl, ?y0xa⟩) (by assumption) ?r0xa
      case y0xa => (intro w' hSw; (try dsimp only at hSw); go_simp; (try with_reducible rfl))
      try simp only [Act.put, List.getElem_toArray, List.getElem_cons_zero, List.getElem_cons_succ, List.setIfInBounds_toArray, List.set_cons_zero, List.set_cons_succ]
      refine wpAnyH_take (i := 2) (oi := _) (v := ?v2xa) rfl (by kernel_rfl) (by kernel_rfl) (by kernel_rfl) (fun _ _ _ h => h) (Or.inl ⟨by rfl, ?y2xa⟩) (by assumption) ?r2xa
      case y2xa => (intro w' hSw; (try dsimp only at hSw); go_simp; (try with_reducible rfl))
      try simp only [Act.put, List.getElem_toArray, List.getElem_cons_zero, List.getElem_cons_succ, List.setIfInBounds_toArray, List.set_cons_zero, List.set_cons_succ]
      refine wpAnyH_take (i := 3) (oi := _) (v := ?v3xa) rfl (by kernel_rfl) (by kernel_rfl) (by kernel_rfl) (fun _ _ _ h => h) (Or.inl ⟨by rfl, ?y3xa⟩) (by assumption) ?r3xa
      case y3xa => (intro w' hSw; (try dsimp only at hSw); go_simp; (try with_reducible rfl))
      try simp only [Act.put, List.getElem_toArray, List.getElem_cons_zero, List.getElem_cons_succ, List.setIfInBounds_toArray, List.set_cons_zero, List.set_cons_succ]
      refine wpAnyH_take (i := 4) (oi := _) (v := ?v4xa) rfl (by kernel_rfl) (by kernel_rfl) (by kernel_rfl) (fun _ _ _ h => h) (Or.inl ⟨by rfl, ?y4xa⟩) (by assumption) ?r4xa
      case y4xa => (intro w' hSw; (try dsimp only at hSw); go_simp; (try with_reducible rfl))
      try simp only [Act.put, List.getElem_toArray, List.getElem_cons_zero, List.getElem_cons_succ, List.setIfInBounds_toArray, List.set_cons_zero, List.set_cons_succ]
      refine wpAnyH_take (i := 5) (oi := _) (v := ?v5xa) rfl (by kernel_rfl) (by kernel_rfl) (by kernel_rfl) (fun _ _ _ h => h) (Or.inl ⟨by rfl, ?y5xa⟩) (by assumption) ?r5xa
      case y5xa => (intro w' hSw; (try dsimp only at hSw); go_simp; (try with_reducible rfl))
      try simp only [Act.put, List.getElem_toArray, List.getElem_cons_zero, List.getElem_cons_succ, List.setIfInBounds_toArray, List.set_cons_zero, List.set_cons_succ]
      refine wpAnyH_ready (rs := [1]) (by kernel_rfl) (by simp) ?_
      refine AllReadyH.cons (o := _) rfl (fun K hK => ?_) AllReadyH.nil
      go_simp
      refine (HA.out _).mono ?_
      rintro e w4 ⟨rfl, hE4⟩
      dsimp only
      have X4 : Ext wr w4 := (Ext.drew (Ext.refl wr)).trans hE4
      refine hK.out _ _ (sK X4) (fun hHeld2 => ?_)
      clear hK K
      try simp only [Act.put, List.getElem_toArray, List.getElem_cons_zero, List.getElem_cons_succ, List.setIfInBounds_toArray, List.set_cons_zero, List.set_cons_succ]
      refine wpAnyH_take (i := 6) (oi := _) (v := ?v6xb) rfl (by kernel_rfl) (by kernel_rfl) (by kernel_rfl) (fun _ _ _ h => h) (Or.inl ⟨by rfl, ?y6xb⟩) (by assumption) ?r6xb
      case y6xb => (intro w' hSw; (try dsimp only at hSw); go_simp; (try with_reducible rfl))
      try simp only [Act.put, List.getElem_toArray, List.getElem_cons_zero, List.getElem_cons_succ, List.setIfInBounds_toArray, List.set_cons_zero, List.set_cons_succ]
      refine wpAnyH_take (i := 7) (oi := _) (v := ?v7xb) rfl (by kernel_rfl) (by kernel_rfl) (by kernel_rfl) (fun _ _ _ h => h) (Or.inl ⟨by rfl, ?y7xb⟩) (by assumption) ?r7xb
      case y7xb => (intro w' hSw; (try dsimp only at hSw); go_simp; (try with_reducible rfl))
      try simp only [Act.put, List.getElem_toArray, List.getElem_cons_zero, List.getElem_cons_succ, List.setIfInBounds_toArray, List.set_cons_zero, List.set_cons_succ]
      clear hHeld hHeld2
      refine wpAnyH_done (by kernel_rfl) ?_ _
      go_wp2_with (simp only [hx1, hx2, hx3])
      go_roundw
      case rel => exact ⟨HE.out.trans X4, j + 1, by omega, by go_num, rfl, by rw [HJ2.out]⟩
      case measure => simp [intOf]; omega
    · have hE1 := hid (List.take_of_length_le (l := tl) (i := j) (by rw [HK.out]; omega))
      rw [hE1.out]
      go_wp2
      go_ret3
      exact ⟨rfl, E3.trans hE⟩
end Go.Proofs.YtcfijidlbimckaaDoor
