/- The checks of the specification. -/
import Derived.Test.YtbfmcclbbeobkaaFits
import Derived.Test.YtbfmcclbbeobkaaStab
set_option linter.unusedSimpArgs false
set_option linter.unusedVariables false
namespace Go.Proofs.Ytbfmcclbbeobkaa
open Go.RowKit
theorem any_take (p : Int → Bool) (xs : List Int) (k : Nat) (h : k < xs.length) (h1 : (xs.take k).any p = false) (h2 : p (xs.getD k 0) = false) : (xs.take (k + 1)).any p = false := by
  rw [List.take_succ_eq_append_getElem h, List.any_append, h1]
  have hx : xs.getD k 0 = xs[k] := by simp [List.getD, List.getElem?_eq_getElem h]
  rw [hx] at h2
  simp [h2]
theorem any_hit (p : Int → Bool) (xs : List Int) (k : Nat) (h : k < xs.length) (h2 : p (xs.getD k 0) = true) : xs.any p = true := by
  have hx : xs.getD k 0 = xs[k] := by simp [List.getD, List.getElem?_eq_getElem h]
  rw [hx] at h2
  exact List.any_eq_true.2 ⟨_, List.getElem_mem h, h2⟩
set_option maxRecDepth 100000 in
set_option maxHeartbeats 4000000 in
theorem rcheck_any (m g l pl ph : Int) (A : Option Addr) (n c : Nat) (ps : List Pt) (hn : ps.length = n) (XA TA : Option Addr) (xn xc tn tc : Nat) (xs ts : List Int) (hx : xs.length = xn) (ht : ts.length = tn) (hxm : xn ≤ 1000) (htm : tn ≤ 1000) (w : World) (hp : PathsAt w A ps) (hX : IntsAt w XA xs) (hT : IntsAt w TA ts) :
    Calls Try.prog 54 #[.agg #[.int .i64 m, .slice A n c], .agg #[.int .i64 g, .int .i64 l, .int .i64 pl, .int .i64 ph], .slice XA xn xc, .slice TA tn tc] w fun e w' => e = .returned (.int .i64 (beginE m g l pl ph ps xs ts)) ∧ Ext w w' := by
  have HC := hid (fun (W : World) (hE : Ext w W) => rCheckParty_any m g l pl ph A n c ps hn W (hp.ext hE))
  have HX := hid hX
  have HT := hid hT
  have HXN := hid hx
  have HTN := hid ht
  have B0 := hid (two_blocks w (.cells #[.int .i64 m, .slice A n c] 24) (.cells #[.int .i64 g, .int .i64 l, .int .i64 pl, .int .i64 ph] 28)).1
  clear hX hT hx ht hp hn
  by_cases hz : partyE m g l pl ph ps = 0
  case neg =>
    have HBE := hid (show beginE m g l pl ph ps xs ts = partyE m g l pl ph ps by
      unfold beginE partyE
      unfold partyE at hz
      split
      · split
        · rename_i h1 h2
          rw [if_pos h1, if_pos h2] at hz
          exact absurd rfl hz
        · rfl
      · rfl)
    rw [HBE.out]
    revert HC hz
    generalize partyE m g l pl ph ps = ce
    intro HC hz
    go_enter Try.func54, Try.ntmps54
    go_wp2_with fail
    refine (HC.out _ (by (repeat' (first | with_reducible assumption | with_reducible exact Ext.refl _ | with_reducible refine Ext.alloc ?_ _ | with_reducible refine Ext.set ?_ ?_ _ | with_reducible refine Ext.drew ?_ | with_reducible refine Ext.drewN ?_ _ | with_reducible refine Ext.trans ?_ (by assumption) | (dsimp only; omega))))).mono ?_
    rintro e w2 ⟨rfl, hE⟩
    go_wp2
    go_ret
    exact ⟨rfl, by (repeat' (first | with_reducible assumption | with_reducible exact Ext.refl _ | with_reducible refine Ext.alloc ?_ _ | with_reducible refine Ext.set ?_ ?_ _ | with_reducible refine Ext.drew ?_ | with_reducible refine Ext.drewN ?_ _ | with_reducible refine Ext.trans ?_ (by assumption) | (dsimp only; omega)))⟩
  obtain ⟨hv, hpa⟩ := partyE_zero hz
  rw [hz] at HC
  obtain ⟨hm1, hm2, hNN⟩ := vNet_ok hv
  have HBE := hid (show beginE m g l pl ph ps xs ts = if (xs.any fun x => !placeB m x) = true then 1 else if (ts.any fun x => !minuteB x) = true then 1 else 0 by unfold beginE; rw [if_pos hv, if_pos hpa])
  have HV1 := hid (fun (h : (xs.any fun x => !placeB m x) = true) => (show beginE m g l pl ph ps xs ts = 1 by rw [HBE.out, if_pos h]))
  have HV2 := hid (fun (h : ¬ (xs.any fun x => !placeB m x) = true) (h2 : (ts.any fun x => !minuteB x) = true) => (show beginE m g l pl ph ps xs ts = 1 by rw [HBE.out, if_neg h, if_pos h2]))
  have HV3 := hid (fun (h : ¬ (xs.any fun x => !placeB m x) = true) (h2 : ¬ (ts.any fun x => !minuteB x) = true) => (show beginE m g l pl ph ps xs ts = 0 by rw [HBE.out, if_neg h, if_neg h2]))
  clear hv hpa hz hNN HBE
  obtain ⟨BE, hBE⟩ : ∃ BE, beginE m g l pl ph ps xs ts = BE := ⟨_, rfl⟩
  rw [hBE] at HV1 HV2 HV3 ⊢
  clear hBE
  go_enter Try.func54, Try.ntmps54
  go_wp2_with fail
  refine (HC.out _ (by (repeat' (first | with_reducible assumption | with_reducible exact Ext.refl _ | with_reducible refine Ext.alloc ?_ _ | with_reducible refine Ext.set ?_ ?_ _ | with_reducible refine Ext.drew ?_ | with_reducible refine Ext.drewN ?_ _ | with_reducible refine Ext.trans ?_ (by assumption) | (dsimp only; omega))))).mono ?_
  rintro e w2 ⟨rfl, hE⟩
  have E2 : Ext w w2 := by (repeat' (first | with_reducible assumption | with_reducible exact Ext.refl _ | with_reducible refine Ext.alloc ?_ _ | with_reducible refine Ext.set ?_ ?_ _ | with_reducible refine Ext.drew ?_ | with_reducible refine Ext.drewN ?_ _ | with_reducible refine Ext.trans ?_ (by assumption) | (dsimp only; omega)))
  have C0 := hid (blk_ext B0.out hE)
  clear hE B0 HC
  go_wp2
  go_loopw [10] (fun i wr => Ext w wr ∧ Hid (wr.heap[w.heap.size]? = some (.cells #[.int .i64 m, .slice A n c] 24 (0, 0))) ∧ ∃ k : Nat, k ≤ xn ∧ i = .int .i64 k ∧ Hid ((xs.take k).any (fun x => !placeB m x) = false)) (fun i _ => xn - (intOf i).toNat)
  case atStart => exact ⟨E2, C0, 0, Nat.zero_le _, rfl, hid rfl⟩
  case round =>
    clear C0 E2
    obtain ⟨hE, K0, k, hk, rfl, HK⟩ := hrel
    have a0 := blk_cell K0.out 0
    have a1 := blk_cell K0.out 1
    simp only [List.getElem?_toArray, List.getElem?_cons_zero, List.getElem?_cons_succ] at a0 a1
    have z0 := (Array.getElem?_eq_some_iff.1 K0.out).1
    by_cases hlt : k < xn
    · obtain ⟨rb, roff, rfl, hrb, q1⟩ := (HX.out.ext hE).at_ HXN.out hlt
      have HS := hid (any_take (fun x => !placeB m x) xs k (by have := HXN.out; omega) HK.out)
      have HH := hid (any_hit (fun x => !placeB m x) xs k (by have := HXN.out; omega))
      obtain ⟨x, hx⟩ : ∃ x, xs.getD k 0 = x := ⟨_, rfl⟩
      rw [hx] at q1 HS HH
      clear hx
      have hk0 : (0 : Int) ≤ (k : Int) := by omega
      have hk1 : (k : Int) < (xn : Int) := by omega
      have HPL := hid (fun (W : World) => rIsPlace_b m x (.slice A n c) (by omega) (by omega) W)
      go_wp2_with fail
      refine wp_region_held_drew (S := fun w' => (∀ b o, b < wr.heap.size → w'.cell? ⟨b, o, none⟩ = wr.cell? ⟨b, o, none⟩) ∧ wr.heap.size ≤ w'.heap.size ∧ Ext wr w') (by kernel_rfl) ?hS0 (fun hHeld => ?_)
      case hS0 => exact ⟨fun _ _ _ => rfl, Nat.le_refl _, Ext.drew (Ext.refl _)⟩
      refine wpAnyH_take (i := 0) (oi := _) (v := ?v0h) rfl (by kernel_rfl) (by kernel_rfl) (by kernel_rfl) (fun _ _ _ h => h) (Or.inl ⟨by rfl, ?y0h⟩) (by assumption) ?r0h
      case y0h => (intro w' hSw; (try dsimp only at hSw); go_simp; (try with_reducible rfl))
      try simp only [Act.put, List.getElem_toArray, List.getElem_cons_zero, List.getElem_cons_succ, List.setIfInBounds_toArray, List.set_cons_zero, List.set_cons_succ]
      refine wpAnyH_take (i := 1) (oi := _) (v := ?v1h) rfl (by kernel_rfl) (by kernel_rfl) (by kernel_rfl) (fun _ _ _ h => h) (Or.inl ⟨by rfl, ?y1h⟩) (by assumption) ?r1h
      case y1h => (intro w' hSw; (try dsimp only at hSw); go_simp; (try with_reducible rfl))
      try simp only [Act.put, List.getElem_toArray, List.getElem_cons_zero, List.getElem_cons_succ, List.setIfInBounds_toArray, List.set_cons_zero, List.set_cons_succ]
      refine wpAnyH_take (i := 2) (oi := _) (v := ?v2h) rfl (by kernel_rfl) (by kernel_rfl) (by kernel_rfl) (fun _ _ _ h => h) (Or.inl ⟨by rfl, ?y2h⟩) (by assumption) ?r2h
      case y2h => (intro w' hSw; (try dsimp only at hSw); go_simp; (try with_reducible rfl))
      try simp only [Act.put, List.getElem_toArray, List.getElem_cons_zero, List.getElem_cons_succ, List.setIfInBounds_toArray, List.set_cons_zero, List.set_cons_succ]
      refine wpAnyH_take (i := 3) (oi := _) (v := ?v3h) rfl (by kernel_rfl) (by kernel_rfl) (by kernel_rfl) (fun _ _ _ h => h) (Or.inl ⟨by rfl, ?y3h⟩) (by assumption) ?r3h
      case y3h => (intro w' hSw; (try dsimp only at hSw); go_simp; (try with_reducible rfl))
      try simp only [Act.put, List.getElem_toArray, List.getElem_cons_zero, List.getElem_cons_succ, List.setIfInBounds_toArray, List.set_cons_zero, List.set_cons_succ]
      refine wpAnyH_take (i := 4) (oi := _) (v := ?v4h) rfl (by kernel_rfl) (by kernel_rfl) (by kernel_rfl) (fun _ _ _ h => h) (Or.inl ⟨by rfl, ?y4h⟩) (by assumption) ?r4h
      case y4h => (intro w' hSw; (try dsimp only at hSw); go_simp; (try with_reducible rfl))
      try simp only [Act.put, List.getElem_toArray, List.getElem_cons_zero, List.getElem_cons_succ, List.setIfInBounds_toArray, List.set_cons_zero, List.set_cons_succ]
      refine wpAnyH_ready (rs := [5]) (by kernel_rfl) (by simp) ?_
      refine AllReadyH.cons (o := _) rfl (fun K hK => ?_) AllReadyH.nil
      go_simp
      refine (HPL.out _).mono ?_
      rintro e w3 ⟨rfl, hE2⟩
      have hx : Ext wr w3 := (Ext.drew (Ext.refl wr)).trans hE2
      have hC := kcell (w1 := wr.drew) (W := wr) (n := wr.heap.size) (fun _ _ _ => rfl) (Nat.le_refl _) hE2
      clear hHeld
      dsimp only
      refine hK.out _ _ ⟨hC, hx.size, hx⟩ (fun hHeld => ?_)
      clear hK K
      try simp only [Act.put, List.getElem_toArray, List.getElem_cons_zero, List.getElem_cons_succ, List.setIfInBounds_toArray, List.set_cons_zero, List.set_cons_succ]
      refine wpAnyH_take (i := 6) (oi := _) (v := ?v6h) rfl (by kernel_rfl) (by kernel_rfl) (by kernel_rfl) (fun _ _ _ h => h) (Or.inl ⟨by rfl, ?y6h⟩) (by assumption) ?r6h
      case y6h => (intro w' hSw; (try dsimp only at hSw); go_simp; (try with_reducible rfl))
      try simp only [Act.put, List.getElem_toArray, List.getElem_cons_zero, List.getElem_cons_succ, List.setIfInBounds_toArray, List.set_cons_zero, List.set_cons_succ]
      refine wpAnyH_done (by kernel_rfl) ?_ _
      have hE4 := hE.trans hx
      have K2 := hid (blk_ext K0.out hx)
      clear hHeld hE2
      cases hb : placeB m x
      · have HAN := hid (HH.out (by rw [hb]; rfl))
        go_wp2
        go_ret
        exact ⟨ret_int (HV1.out HAN.out).symm, hE4⟩
      · have HK2 := hid (HS.out (by rw [hb]; rfl))
        go_wp2
        go_roundw
        case rel => exact ⟨hE4, K2, k + 1, by omega, by go_num, HK2⟩
        case measure => (simp [intOf] <;> omega)
    obtain rfl : k = xn := by omega
    have HNX := hid (show ¬ (xs.any fun x => !placeB m x) = true by have := HK.out; rw [List.take_of_length_le (by have := HXN.out; omega)] at this; rw [this]; simp)
    obtain ⟨wo, rfl⟩ : ∃ wo, wo = wr := ⟨_, rfl⟩
    go_wp2
    go_loopw [11] (fun i wr => Ext w wr ∧ ∃ q : Nat, q ≤ tn ∧ i = .int .i64 q ∧ Hid ((ts.take q).any (fun x => !minuteB x) = false)) (fun i _ => tn - (intOf i).toNat)
    case atStart => exact ⟨hE, 0, Nat.zero_le _, rfl, hid rfl⟩
    case round =>
      clear hE K0 a0 a1 z0
      obtain ⟨hE, q, hq, rfl, HQ⟩ := hrel
      by_cases hlt : q < tn
      · obtain ⟨rb, roff, rfl, hrb, q1⟩ := (HT.out.ext hE).at_ HTN.out hlt
        have HS := hid (any_take (fun x => !minuteB x) ts q (by have := HTN.out; omega) HQ.out)
        have HH := hid (any_hit (fun x => !minuteB x) ts q (by have := HTN.out; omega))
        obtain ⟨x, hx⟩ : ∃ x, ts.getD q 0 = x := ⟨_, rfl⟩
        rw [hx] at q1 HS HH
        clear hx
        have hk0 : (0 : Int) ≤ (q : Int) := by omega
        have hk1 : (q : Int) < (tn : Int) := by omega
        go_wp2_with fail
        refine (isMinute_b _ _).mono ?_
        rintro e w3 ⟨rfl, rfl⟩
        cases hb : minuteB x
        · have HAN := hid (HV2.out HNX.out (HH.out (by rw [hb]; rfl)))
          go_wp2
          go_ret
          exact ⟨ret_int HAN.out.symm, hE⟩
        · have HK2 := hid (HS.out (by rw [hb]; rfl))
          go_wp2
          go_roundw
          case rel => exact ⟨hE, q + 1, by omega, by go_num, HK2⟩
          case measure => (simp [intOf] <;> omega)
      · obtain rfl : q = tn := by omega
        have HNT := hid (show ¬ (ts.any fun x => !minuteB x) = true by have := HQ.out; rw [List.take_of_length_le (by have := HTN.out; omega)] at this; rw [this]; simp)
        have HZ0 := hid (HV3.out HNX.out HNT.out)
        go_wp2
        go_ret
        exact ⟨ret_int HZ0.out.symm, hE⟩
end Go.Proofs.Ytbfmcclbbeobkaa
