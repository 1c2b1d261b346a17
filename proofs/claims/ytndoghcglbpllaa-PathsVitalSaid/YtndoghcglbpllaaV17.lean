/- shown. -/
import Derived.Test.YtndoghcglbpllaaV16
import Derived.Test.YtndoghcglbpllaaV05
import Derived.Test.YtndoghcglbpllaaV10
import Derived.Test.YtndoghcglbpllaaV09
import Derived.Deep.RegionHeld3
import Derived.Test.YtndoghcglbpllaaV08
import Derived.Test.YtndoghcglbpllaaV07
import Derived.Laws.AppendOwn
set_option linter.unusedSimpArgs false
set_option linter.unusedVariables false
namespace Go.Proofs.Ytndoghcglbpllaa
open Go.RowKit
set_option maxHeartbeats 1000000 in
theorem shown_any (b cap : Nat) (xs : List Int) (n : Nat) (hn : xs.length = n) (hp : 0 < n) (hm : n ≤ 1000) (w : World) (h : RowAt w b cap xs) :
    Calls Try.prog 55 #[.slice (some ⟨b, 0, none⟩) n cap] w (NewRow (xs.map shw) w) := by
  subst hn
  have hb := h.lt
  have hcell : ∀ j u, (ints xs)[j]? = some u → w.cell? (Addr.add ⟨b, 0, none⟩ j) = some u := by
    intro j u hj
    have hjl : j < xs.length := by
      have := (List.getElem?_eq_some_iff.1 hj).1
      simpa [ints] using this
    rw [ints_getD xs j hjl] at hj
    injection hj with hj
    subst hj
    rw [show Addr.add ⟨b, 0, none⟩ j = ⟨b, j, none⟩ from by unfold Addr.add; split <;> simp_all]
    exact h.cell hjl
  have H := hid hcell
  clear hcell h
  obtain ⟨i0, hi, hz0, hz1, hz2⟩ := info_parts info3
  have HI := hid hi
  have HZ0 := hid hz0
  have HZ1 := hid hz1
  have HZ2 := hid hz2
  clear hi hz0 hz1 hz2
  go_enter Try.func55, Try.ntmps55
  have h0 : (w.alloc (.cells #[] 3)).ownsRow w.heap.size 3 1 (.slice (some ⟨w.heap.size, 0, none⟩) 0 0) 0 [] := ⟨rfl, .inr ⟨w.heap.size, 0, #[], rfl, Nat.le_refl _, heap_alloc_new w _, Nat.le_refl _, Nat.zero_le _, rfl, rfl⟩⟩
  have H0 := hid h0
  clear h0
  go_wp2_with (at_builtin; refine wpList_append_own _ rfl _ _ 29 rfl w.heap.size 3 i0 (.int .i64 0) 1 8 Try.underlying29 HI.out HZ0.out HZ1.out HZ2.out rfl (by decide) _ _ _ rfl H0.out ⟨b, 0, none⟩ xs.length _ (ints xs) rfl (by simp [ints]) (fun j u hj => (World.cell?_alloc_lt w _ _ (by rw [addBlock]; exact hb)).trans (H.out j u hj)) (ints_one xs) (by unfold maxLen; omega) (by omega) (by simp) ?_; intro v' w2 hown hgrow _; simp only [List.nil_append, Nat.zero_add] at hown; obtain ⟨g, cap, rfl, hg, hrow⟩ := row_of_own hown hp; have hE := hid (ext_of_grown (ext_alloc1 _ _) hgrow (fun k hk => by have hk' : some w.heap.size = some k := hk; injection hk' with hk'; omega)); have hG := hid hg; have hR := hid hrow; clear hown hgrow hg hrow)
  go_loopw [4] (fun i wr => Ext w wr ∧ ∃ k : Nat, k ≤ xs.length ∧ i = .int .i64 k ∧ Hid (RowAt wr g cap ((xs.take k).map shw ++ xs.drop k))) (fun i _ => xs.length - (intOf i).toNat)
  case atStart => exact ⟨hE.out, 0, Nat.zero_le _, rfl, by simpa using hR⟩
  case round =>
    clear hR hE H H0
    obtain ⟨hE, k, hk, rfl, R⟩ := hrel
    have gl := R.out.lt
    by_cases hlt : k < xs.length
    · have hl := shw_len xs k (by omega)
      have c0 := R.out.cell (k := k) (by omega)
      have f0 := R.out.fro k
      rw [shw_get xs k (by omega)] at c0
      have HS := hid (shw_step xs k (by omega))
      have HQ := hid (shw_same xs k (by omega))
      have hk0 : (0 : Int) ≤ (k : Int) := by omega
      have hk1 : (k : Int) < (xs.length : Int) := by omega
      have hgw := hG.out
      obtain ⟨x, hx⟩ : ∃ x, xs.getD k 0 = x := ⟨_, rfl⟩
      rw [hx] at c0 HS HQ
      clear hl hx
      by_cases hx : 1073741824 ≤ x
      · have RS := hid (show RowAt (wr.setCell ⟨g, k, none⟩ (.int .i64 (-1))) g cap ((xs.take (k + 1)).map shw ++ xs.drop (k + 1)) by rw [← HS.out hx]; exact R.out.set k (-1))
        go_wp2
        go_roundw
        case rel => exact ⟨hE.set (by dsimp only; omega) _, k + 1, by omega, by go_num, RS⟩
        case measure => (simp [intOf] <;> omega)
      · have hxb : decide (1073741824 ≤ x) = false := decide_eq_false hx
        have RS := hid (show RowAt wr g cap ((xs.take (k + 1)).map shw ++ xs.drop (k + 1)) by rw [← HQ.out hx]; exact R.out)
        clear HQ HS
        go_wp2
        go_roundw
        case rel => exact ⟨hE, k + 1, by omega, by go_num, RS⟩
        case measure => (simp [intOf] <;> omega)
    · obtain rfl : k = xs.length := by omega
      have RS := hid (show RowAt wr g cap (xs.map shw) by have := R.out; rwa [List.take_of_length_le (by omega), List.drop_eq_nil_of_le (by omega), List.append_nil] at this)
      go_wp2
      go_ret
      exact NewRow.mk (by rw [List.length_map]; rfl) RS.out hG.out hE
end Go.Proofs.Ytndoghcglbpllaa
/- The checks of the specification. -/
set_option linter.unusedSimpArgs false
set_option linter.unusedVariables false
namespace Go.Proofs.Ytndoghcglbpllaa
open Go.RowKit
theorem any_take (p : Int → Bool) (xs : List Int) (k : Nat) (h : k < xs.length) (h1 : (xs.take k).any p = false) (h2 : p (xs.getD k 0) = false) : (xs.take (k + 1)).any p = false := by
  rw [List.take_succ_eq_append_getElem h, List.any_append, h1]
  have hx : xs.getD k 0 = xs[k] := by simp [List.getD, List.getElem?_eq_getElem h]
  rw [hx] at h2
  simp [h2]
theorem any_hit (p : Int → Bool) (xs : List Int) (k : Nat) (h : k < xs.length) (h2 : p (xs.getD k 0) = true) : xs.any p = true := by
  have hx : xs.getD k 0 = xs[k] := by simp [List.getD, List.getElem?_eq_getElem h]
  rw [hx] at h2
  exact List.any_eq_true.2 ⟨_, List.getElem_mem h, h2⟩
set_option maxRecDepth 100000 in
set_option maxHeartbeats 4000000 in
theorem rcheck_any (m g l pl ph : Int) (A : Option Addr) (n c : Nat) (ps : List Pt) (hn : ps.length = n) (XA TA : Option Addr) (xn xc tn tc : Nat) (xs ts : List Int) (hx : xs.length = xn) (ht : ts.length = tn) (hxm : xn ≤ 1000) (htm : tn ≤ 1000) (w : World) (hp : PathsAt w A ps) (hX : IntsAt w XA xs) (hT : IntsAt w TA ts) :
    Calls Try.prog 54 #[.agg #[.int .i64 m, .slice A n c], .agg #[.int .i64 g, .int .i64 l, .int .i64 pl, .int .i64 ph], .slice XA xn xc, .slice TA tn tc] w fun e w' => e = .returned (.int .i64 (beginE m g l pl ph ps xs ts)) ∧ Ext w w' := by
  have HC := hid (fun (W : World) (hE : Ext w W) => rCheckParty_any m g l pl ph A n c ps hn W (hp.ext hE))
  have HX := hid hX
  have HT := hid hT
  have HXN := hid hx
  have HTN := hid ht
  have B0 := hid (two_blocks w (.cells #[.int .i64 m, .slice A n c] 24) (.cells #[.int .i64 g, .int .i64 l, .int .i64 pl, .int .i64 ph] 28)).1
  clear hX hT hx ht hp hn
  by_cases hz : partyE m g l pl ph ps = 0
  case neg =>
    have HBE := hid (show beginE m g l pl ph ps xs ts = partyE m g l pl ph ps by
      unfold beginE partyE
      unfold partyE at hz
      split
      · split
        · rename_i h1 h2
          rw [if_pos h1, if_pos h2] at hz
          exact absurd rfl hz
        · rfl
      · rfl)
    rw [HBE.out]
    revert HC hz
    generalize partyE m g l pl ph ps = ce
    intro HC hz
    go_enter Try.func54, Try.ntmps54
    go_wp2_with fail
    refine (HC.out _ (by (repeat' (first | with_reducible assumption | with_reducible exact Ext.refl _ | with_reducible refine Ext.alloc ?_ _ | with_reducible refine Ext.set ?_ ?_ _ | with_reducible refine Ext.drew ?_ | with_reducible refine Ext.drewN ?_ _ | with_reducible refine Ext.trans ?_ (by assumption) | (dsimp only; omega))))).mono ?_
    rintro e w2 ⟨rfl, hE⟩
    go_wp2
    go_ret
    exact ⟨rfl, by (repeat' (first | with_reducible assumption | with_reducible exact Ext.refl _ | with_reducible refine Ext.alloc ?_ _ | with_reducible refine Ext.set ?_ ?_ _ | with_reducible refine Ext.drew ?_ | with_reducible refine Ext.drewN ?_ _ | with_reducible refine Ext.trans ?_ (by assumption) | (dsimp only; omega)))⟩
  obtain ⟨hv, hpa⟩ := partyE_zero hz
  rw [hz] at HC
  obtain ⟨hm1, hm2, hNN⟩ := vNet_ok hv
  have HBE := hid (show beginE m g l pl ph ps xs ts = if (xs.any fun x => !placeB m x) = true then 1 else if (ts.any fun x => !minuteB x) = true then 1 else 0 by unfold beginE; rw [if_pos hv, if_pos hpa])
  have HV1 := hid (fun (h : (xs.any fun x => !placeB m x) = true) => (show beginE m g l pl ph ps xs ts = 1 by rw [HBE.out, if_pos h]))
  have HV2 := hid (fun (h : ¬ (xs.any fun x => !placeB m x) = true) (h2 : (ts.any fun x => !minuteB x) = true) => (show beginE m g l pl ph ps xs ts = 1 by rw [HBE.out, if_neg h, if_pos h2]))
  have HV3 := hid (fun (h : ¬ (xs.any fun x => !placeB m x) = true) (h2 : ¬ (ts.any fun x => !minuteB x) = true) => (show beginE m g l pl ph ps xs ts = 0 by rw [HBE.out, if_neg h, if_neg h2]))
  clear hv hpa hz hNN HBE
  obtain ⟨BE, hBE⟩ : ∃ BE, beginE m g l pl ph ps xs ts = BE := ⟨_, rfl⟩
  rw [hBE] at HV1 HV2 HV3 ⊢
  clear hBE
  go_enter Try.func54, Try.ntmps54
  go_wp2_with fail
  refine (HC.out _ (by (repeat' (first | with_reducible assumption | with_reducible exact Ext.refl _ | with_reducible refine Ext.alloc ?_ _ | with_reducible refine Ext.set ?_ ?_ _ | with_reducible refine Ext.drew ?_ | with_reducible refine Ext.drewN ?_ _ | with_reducible refine Ext.trans ?_ (by assumption) | (dsimp only; omega))))).mono ?_
  rintro e w2 ⟨rfl, hE⟩
  have E2 : Ext w w2 := by (repeat' (first | with_reducible assumption | with_reducible exact Ext.refl _ | with_reducible refine Ext.alloc ?_ _ | with_reducible refine Ext.set ?_ ?_ _ | with_reducible refine Ext.drew ?_ | with_reducible refine Ext.drewN ?_ _ | with_reducible refine Ext.trans ?_ (by assumption) | (dsimp only; omega)))
  have C0 := hid (blk_ext B0.out hE)
  clear hE B0 HC
  go_wp2
  go_loopw [10] (fun i wr => Ext w wr ∧ Hid (wr.heap[w.heap.size]? = some (.cells #[.int .i64 m, .slice A n c] 24 (0, 0))) ∧ ∃ k : Nat, k ≤ xn ∧ i = .int .i64 k ∧ Hid ((xs.take k).any (fun x => !placeB m x) = false)) (fun i _ => xn - (intOf i).toNat)
  case atStart => exact ⟨E2, C0, 0, Nat.zero_le _, rfl, hid rfl⟩
  case round =>
    clear C0 E2
    obtain ⟨hE, K0, k, hk, rfl, HK⟩ := hrel
    have a0 := blk_cell K0.out 0
    have a1 := blk_cell K0.out 1
    simp only [List.getElem?_toArray, List.getElem?_cons_zero, List.getElem?_cons_succ] at a0 a1
    have z0 := (Array.getElem?_eq_some_iff.1 K0.out).1
    by_cases hlt : k < xn
    · obtain ⟨rb, roff, rfl, hrb, q1⟩ := (HX.out.ext hE).at_ HXN.out hlt
      have HS := hid (any_take (fun x => !placeB m x) xs k (by have := HXN.out; omega) HK.out)
      have HH := hid (any_hit (fun x => !placeB m x) xs k (by have := HXN.out; omega))
      obtain ⟨x, hx⟩ : ∃ x, xs.getD k 0 = x := ⟨_, rfl⟩
      rw [hx] at q1 HS HH
      clear hx
      have hk0 : (0 : Int) ≤ (k : Int) := by omega
      have hk1 : (k : Int) < (xn : Int) := by omega
      have HPL := hid (fun (W : World) => rIsPlace_b m x (.slice A n c) (by omega) (by omega) W)
      go_wp2_with fail
      refine wp_region_held_drew (S := fun w' => (∀ b o, b < wr.heap.size → w'.cell? ⟨b, o, none⟩ = wr.cell? ⟨b, o, none⟩) ∧ wr.heap.size ≤ w'.heap.size ∧ Ext wr w') (by kernel_rfl) ?hS0 (fun hHeld => ?_)
      case hS0 => exact ⟨fun _ _ _ => rfl, Nat.le_refl _, Ext.drew (Ext.refl _)⟩
      refine wpAnyH_take (i := 0) (oi := _) (v := ?v0h) rfl (by kernel_rfl) (by kernel_rfl) (by kernel_rfl) (fun _ _ _ h => h) (Or.inl ⟨by rfl, ?y0h⟩) (by assumption) ?r0h
      case y0h => (intro w' hSw; (try dsimp only at hSw); go_simp; (try with_reducible rfl))
      try simp only [Act.put, List.getElem_toArray, List.getElem_cons_zero, List.getElem_cons_succ, List.setIfInBounds_toArray, List.set_cons_zero, List.set_cons_succ]
      refine wpAnyH_take (i := 1) (oi := _) (v := ?v1h) rfl (by kernel_rfl) (by kernel_rfl) (by kernel_rfl) (fun _ _ _ h => h) (Or.inl ⟨by rfl, ?y1h⟩) (by assumption) ?r1h
      case y1h => (intro w' hSw; (try dsimp only at hSw); go_simp; (try with_reducible rfl))
      try simp only [Act.put, List.getElem_toArray, List.getElem_cons_zero, List.getElem_cons_succ, List.setIfInBounds_toArray, List.set_cons_zero, List.set_cons_succ]
      refine wpAnyH_take (i := 2) (oi := _) (v := ?v2h) rfl (by kernel_rfl) (by kernel_rfl) (by kernel_rfl) (fun _ _ _ h => h) (Or.inl ⟨by rfl, ?y2h⟩) (by assumption) ?r2h
      case y2h => (intro w' hSw; (try dsimp only at hSw); go_simp; (try with_reducible rfl))
      try simp only [Act.put, List.getElem_toArray, List.getElem_cons_zero, List.getElem_cons_succ, List.setIfInBounds_toArray, List.set_cons_zero, List.set_cons_succ]
      refine wpAnyH_take (i := 3) (oi := _) (v := ?v3h) rfl (by kernel_rfl) (by kernel_rfl) (by kernel_rfl) (fun _ _ _ h => h) (Or.inl ⟨by rfl, ?y3h⟩) (by assumption) ?r3h
      case y3h => (intro w' hSw; (try dsimp only at hSw); go_simp; (try with_reducible rfl))
      try simp only [Act.put, List.getElem_toArray, List.getElem_cons_zero, List.getElem_cons_succ, List.setIfInBounds_toArray, List.set_cons_zero, List.set_cons_succ]
      refine wpAnyH_take (i := 4) (oi := _) (v := ?v4h) rfl (by kernel_rfl) (by kernel_rfl) (by kernel_rfl) (fun _ _ _ h => h) (Or.inl ⟨by rfl, ?y4h⟩) (by assumption) ?r4h
      case y4h => (intro w' hSw; (try dsimp only at hSw); go_simp; (try with_reducible rfl))
      try simp only [Act.put, List.getElem_toArray, List.getElem_cons_zero, List.getElem_cons_succ, List.setIfInBounds_toArray, List.set_cons_zero, List.set_cons_succ]
      refine wpAnyH_ready (rs := [5]) (by kernel_rfl) (by simp) ?_
      refine AllReadyH.cons (o := _) rfl (fun K hK => ?_) AllReadyH.nil
      go_simp
      refine (HPL.out _).mono ?_
      rintro e w3 ⟨rfl, hE2⟩
      have hx : Ext wr w3 := (Ext.drew (Ext.refl wr)).trans hE2
      have hC := kcell (w1 := wr.drew) (W := wr) (n := wr.heap.size) (fun _ _ _ => rfl) (Nat.le_refl _) hE2
      clear hHeld
      dsimp only
      refine hK.out _ _ ⟨hC, hx.size, hx⟩ (fun hHeld => ?_)
      clear hK K
      try simp only [Act.put, List.getElem_toArray, List.getElem_cons_zero, List.getElem_cons_succ, List.setIfInBounds_toArray, List.set_cons_zero, List.set_cons_succ]
      refine wpAnyH_take (i := 6) (oi := _) (v := ?v6h) rfl (by kernel_rfl) (by kernel_rfl) (by kernel_rfl) (fun _ _ _ h => h) (Or.inl ⟨by rfl, ?y6h⟩) (by assumption) ?r6h
      case y6h => (intro w' hSw; (try dsimp only at hSw); go_simp; (try with_reducible rfl))
      try simp only [Act.put, List.getElem_toArray, List.getElem_cons_zero, List.getElem_cons_succ, List.setIfInBounds_toArray, List.set_cons_zero, List.set_cons_succ]
      refine wpAnyH_done (by kernel_rfl) ?_ _
      have hE4 := hE.trans hx
      have K2 := hid (blk_ext K0.out hx)
      clear hHeld hE2
      cases hb : placeB m x
      · have HAN := hid (HH.out (by rw [hb]; rfl))
        go_wp2
        go_ret
        exact ⟨ret_int (HV1.out HAN.out).symm, hE4⟩
      · have HK2 := hid (HS.out (by rw [hb]; rfl))
        go_wp2
        go_roundw
        case rel => exact ⟨hE4, K2, k + 1, by omega, by go_num, HK2⟩
        case measure => (simp [intOf] <;> omega)
    obtain rfl : k = xn := by omega
    have HNX := hid (show ¬ (xs.any fun x => !placeB m x) = true by have := HK.out; rw [List.take_of_length_le (by have := HXN.out; omega)] at this; rw [this]; simp)
    obtain ⟨wo, rfl⟩ : ∃ wo, wo = wr := ⟨_, rfl⟩
    go_wp2
    go_loopw [11] (fun i wr => Ext w wr ∧ ∃ q : Nat, q ≤ tn ∧ i = .int .i64 q ∧ Hid ((ts.take q).any (fun x => !minuteB x) = false)) (fun i _ => tn - (intOf i).toNat)
    case atStart => exact ⟨hE, 0, Nat.zero_le _, rfl, hid rfl⟩
    case round =>
      clear hE K0 a0 a1 z0
      obtain ⟨hE, q, hq, rfl, HQ⟩ := hrel
      by_cases hlt : q < tn
      · obtain ⟨rb, roff, rfl, hrb, q1⟩ := (HT.out.ext hE).at_ HTN.out hlt
        have HS := hid (any_take (fun x => !minuteB x) ts q (by have := HTN.out; omega) HQ.out)
        have HH := hid (any_hit (fun x => !minuteB x) ts q (by have := HTN.out; omega))
        obtain ⟨x, hx⟩ : ∃ x, ts.getD q 0 = x := ⟨_, rfl⟩
        rw [hx] at q1 HS HH
        clear hx
        have hk0 : (0 : Int) ≤ (q : Int) := by omega
        have hk1 : (q : Int) < (tn : Int) := by omega
        go_wp2_with fail
        refine (isMinute_b _ _).mono ?_
        rintro e w3 ⟨rfl, rfl⟩
        cases hb : minuteB x
        · have HAN := hid (HV2.out HNX.out (HH.out (by rw [hb]; rfl)))
          go_wp2
          go_ret
          exact ⟨ret_int HAN.out.symm, hE⟩
        · have HK2 := hid (HS.out (by rw [hb]; rfl))
          go_wp2
          go_roundw
          case rel => exact ⟨hE, q + 1, by omega, by go_num, HK2⟩
          case measure => (simp [intOf] <;> omega)
      · obtain rfl : q = tn := by omega
        have HNT := hid (show ¬ (ts.any fun x => !minuteB x) = true by have := HQ.out; rw [List.take_of_length_le (by have := HTN.out; omega)] at this; rw [this]; simp)
        have HZ0 := hid (HV3.out HNX.out HNT.out)
        go_wp2
        go_ret
        exact ⟨ret_int HZ0.out.symm, hE⟩
end Go.Proofs.Ytndoghcglbpllaa
/- The specification's Arrive. -/
set_option linter.unusedSimpArgs false
set_option linter.unusedVariables false
namespace Go.Proofs.Ytndoghcglbpllaa
open Go.RowKit
set_option maxRecDepth 100000 in
set_option maxHeartbeats 2000000 in
theorem rarrive_bad (m g l pl ph from_ start : Int) (A : Option Addr) (n c : Nat) (ps : List Pt) (hn : ps.length = n) (w : World) (hp : PathsAt w A ps) (E : Int) (hE : beginE m g l pl ph ps [from_] [start] = E) (hne : E ≠ 0) :
    Calls Try.prog 20 #[.agg #[.int .i64 m, .slice A n c], .agg #[.int .i64 g, .int .i64 l, .int .i64 pl, .int .i64 ph], .int .i64 from_, .int .i64 start] w fun e w' => e = .returned (.tuple #[.slice none 0 0, .slice none 0 0, .int .i64 E]) ∧ Ext w w' := by
  have HC := hid (fun (b1 b2 : Nat) (W : World) (hW : Ext w W) (h1 : IntsAt W (some ⟨b1, 0, none⟩) [from_]) (h2 : IntsAt W (some ⟨b2, 0, none⟩) [start]) => rcheck_any m g l pl ph A n c ps hn (some ⟨b1, 0, none⟩) (some ⟨b2, 0, none⟩) 1 1 1 1 [from_] [start] rfl rfl (by omega) (by omega) W (hp.ext hW) h1 h2)
  rw [hE] at HC
  clear hp hn hE
  go_enter Try.func20, Try.ntmps20
  go_wp2_with fail
  have t1 := two_blocks ((w.alloc (.cells #[.int .i64 m, .slice A n c] 24)).alloc (.cells #[.int .i64 g, .int .i64 l, .int .i64 pl, .int .i64 ph] 28)) (.cells #[.int .i64 from_] 3) (.cells #[.int .i64 start] 3)
  simp only [World.size_alloc] at t1
  refine (HC.out _ _ _ (by (repeat' (first | with_reducible assumption | with_reducible exact Ext.refl _ | with_reducible refine Ext.alloc ?_ _ | with_reducible refine Ext.set ?_ ?_ _ | with_reducible refine Ext.drew ?_ | with_reducible refine Ext.drewN ?_ _ | with_reducible refine Ext.trans ?_ (by assumption) | (dsimp only; omega)))) (ints_one_at t1.1) (ints_one_at t1.2.1)).mono ?_
  clear t1
  rintro e w1 ⟨rfl, hE⟩
  have EW : Ext w w1 := by (repeat' (first | with_reducible assumption | with_reducible exact Ext.refl _ | with_reducible refine Ext.alloc ?_ _ | with_reducible refine Ext.set ?_ ?_ _ | with_reducible refine Ext.drew ?_ | with_reducible refine Ext.drewN ?_ _ | with_reducible refine Ext.trans ?_ (by assumption) | (dsimp only; omega)))
  go_wp2
  go_ret3
  exact ⟨rfl, EW⟩
set_option maxRecDepth 100000 in
set_option maxHeartbeats 4000000 in
theorem rarrive_ok (m g l pl ph from_ start : Int) (A : Option Addr) (n c : Nat) (ps : List Pt) (hn : ps.length = n) (w : World) (hp : PathsAt w A ps) (hb : beginE m g l pl ph ps [from_] [start] = 0) :
    Calls Try.prog 20 #[.agg #[.int .i64 m, .slice A n c], .agg #[.int .i64 g, .int .i64 l, .int .i64 pl, .int .i64 ph], .int .i64 from_, .int .i64 start] w
      (TwoRows (arrList selHi g l pl ph ps m from_ start) (arrList selLo g l pl ph ps m from_ start) w) := by
  obtain ⟨k1, k2, k3, k4⟩ := begin_zero hb
  obtain ⟨hm1, hm2, hN⟩ := vNet_ok k1
  have ha := vParty_ok k2
  have hO := vNet_opens k1
  have hfr := k3 from_ (by simp)
  have hst := k4 start (by simp)
  obtain ⟨mm, rfl⟩ : ∃ k : Nat, m = k := ⟨m.toNat, by omega⟩
  obtain ⟨fr, rfl⟩ : ∃ k : Nat, from_ = k := ⟨from_.toNat, by omega⟩
  rw [Int.toNat_natCast] at hN
  unfold arrList
  rw [Int.toNat_natCast, Int.toNat_natCast]
  have HC := hid (fun (b1 b2 : Nat) (W : World) (hW : Ext w W) (h1 : IntsAt W (some ⟨b1, 0, none⟩) [(fr : Int)]) (h2 : IntsAt W (some ⟨b2, 0, none⟩) [start]) => rcheck_any mm g l pl ph A n c ps hn (some ⟨b1, 0, none⟩) (some ⟨b2, 0, none⟩) 1 1 1 1 [(fr : Int)] [start] rfl rfl (by omega) (by omega) W (hp.ext hW) h1 h2)
  rw [hb] at HC
  have hbut : ∀ i : Nat, i < ps.length → (i : Int) ≠ -1 := fun i _ => by omega
  have q1 := ipRows_eq (sel := selHi) (g := g) selHi_pos ha (by omega : 1 ≤ mm) hN hbut fr hst.1 (by omega : start ≤ 2881)
  have q2 := ipRows_eq (sel := selLo) (g := g) selLo_pos ha (by omega : 1 ≤ mm) hN hbut fr hst.1 (by omega : start ≤ 2881)
  have bd1 := rows_bd selHi_pos (g := g) ha hN (from_ := fr) hst.1 (by omega : start ≤ 2881) (mm - 1)
  have bd2 := rows_bd selLo_pos (g := g) ha hN (from_ := fr) hst.1 (by omega : start ≤ 2881) (mm - 1)
  have HT := hid (fun (hi : Bool) (W : World) (hE : Ext w W) => table_any hi mm (by omega) (by omega) g l pl ph ha A n c ps hn hN hO fr (by omega) start hst.1 hst.2 (-1) W (hp.ext hE))
  obtain ⟨TR, hTR⟩ : ∃ TR : Bool → List Int, TR = fun hi => (ipRows (selB hi) g l pl ph ps (-1) mm fr start mm).map phi := ⟨_, rfl⟩
  have HT2 := hid (fun (hi : Bool) (W : World) (hE : Ext w W) => (show Calls Try.prog 56 #[.agg #[.int .i64 (mm : Int), .slice A n c], .agg #[.int .i64 g, .int .i64 l, .int .i64 pl, .int .i64 ph], .int .i64 (fr : Int), .int .i64 start, .bool hi, .int .i64 (-1)] W (NewRow (TR hi) W) by rw [hTR]; exact HT.out hi W hE))
  have hmp : ∀ xs : List Int, BdRow mm xs → (xs.map phi).map shw = xs.map orN := fun xs hx => by
    rw [List.map_map]
    refine List.map_congr_left fun x hxm => ?_
    obtain ⟨i, hi, rfl⟩ := List.mem_iff_getElem.1 hxm
    have := (hx.2 i (by rw [← hx.1]; exact hi)).2
    rw [show xs.getD i 0 = xs[i] by simp [List.getD, List.getElem?_eq_getElem hi]] at this
    exact shw_phi _ this
  have h1 : (TR true).map shw = (rows selHi g l pl ph ps mm fr start (mm - 1)).map orN := by
    rw [hTR]
    show ((ipRows selHi g l pl ph ps (-1) mm fr start mm).map phi).map shw = _
    rw [q1]
    exact hmp _ bd1
  have h2 : (TR false).map shw = (rows selLo g l pl ph ps mm fr start (mm - 1)).map orN := by
    rw [hTR]
    show ((ipRows selLo g l pl ph ps (-1) mm fr start mm).map phi).map shw = _
    rw [q2]
    exact hmp _ bd2
  have hlen : ∀ hi, (TR hi).length = mm := fun hi => by rw [hTR]; simp [ipRows_len]
  rw [← h1, ← h2]
  have HLN := hid hlen
  clear hp hn hb k1 k2 k3 k4 hN ha hfr hst hO hbut q1 q2 bd1 bd2 HT hTR hmp h1 h2 hlen
  go_enter Try.func20, Try.ntmps20
  go_wp2_with fail
  have t0 := two_blocks w (.cells #[.int .i64 (mm : Int), .slice A n c] 24) (.cells #[.int .i64 g, .int .i64 l, .int .i64 pl, .int .i64 ph] 28)
  have t1 := two_blocks ((w.alloc (.cells #[.int .i64 (mm : Int), .slice A n c] 24)).alloc (.cells #[.int .i64 g, .int .i64 l, .int .i64 pl, .int .i64 ph] 28)) (.cells #[.int .i64 (fr : Int)] 3) (.cells #[.int .i64 start] 3)
  simp only [World.size_alloc] at t1
  refine (HC.out _ _ _ (by (repeat' (first | with_reducible assumption | with_reducible exact Ext.refl _ | with_reducible refine Ext.alloc ?_ _ | with_reducible refine Ext.set ?_ ?_ _ | with_reducible refine Ext.drew ?_ | with_reducible refine Ext.drewN ?_ _ | with_reducible refine Ext.trans ?_ (by assumption) | (dsimp only; omega)))) (ints_one_at t1.1) (ints_one_at t1.2.1)).mono ?_
  rintro e w1 ⟨rfl, hE⟩
  have EW : Ext w w1 := by (repeat' (first | with_reducible assumption | with_reducible exact Ext.refl _ | with_reducible refine Ext.alloc ?_ _ | with_reducible refine Ext.set ?_ ?_ _ | with_reducible refine Ext.drew ?_ | with_reducible refine Ext.drewN ?_ _ | with_reducible refine Ext.trans ?_ (by assumption) | (dsimp only; omega)))
  have C0 := hid (blk_ext t0.1 (Ext.trans (by (repeat' (first | with_reducible assumption | with_reducible exact Ext.refl _ | with_reducible refine Ext.alloc ?_ _ | with_reducible refine Ext.set ?_ ?_ _ | with_reducible refine Ext.drew ?_ | with_reducible refine Ext.drewN ?_ _ | with_reducible refine Ext.trans ?_ (by assumption) | (dsimp only; omega)))) hE))
  have C1 := hid (blk_ext t0.2.1 (Ext.trans (by (repeat' (first | with_reducible assumption | with_reducible exact Ext.refl _ | with_reducible refine Ext.alloc ?_ _ | with_reducible refine Ext.set ?_ ?_ _ | with_reducible refine Ext.drew ?_ | with_reducible refine Ext.drewN ?_ _ | with_reducible refine Ext.trans ?_ (by assumption) | (dsimp only; omega)))) hE))
  clear t0 t1 hE HC
  have c0 := blk_cell C0.out 0
  have c1 := blk_cell C0.out 1
  have c2 := blk_cell C1.out 0
  have c3 := blk_cell C1.out 1
  have c4 := blk_cell C1.out 2
  have c5 := blk_cell C1.out 3
  simp only [List.getElem?_toArray, List.getElem?_cons_zero, List.getElem?_cons_succ] at c0 c1 c2 c3 c4 c5
  have z0 := (Array.getElem?_eq_some_iff.1 C0.out).1
  have z1 := (Array.getElem?_eq_some_iff.1 C1.out).1
  have hzz := Nat.le_refl w1.heap.size
  go_wp2_with fail
  go_region_held3 (fun w' => (∀ b o, b < w1.heap.size → w'.cell? ⟨b, o, none⟩ = w1.cell? ⟨b, o, none⟩) ∧ w1.heap.size ≤ w'.heap.size ∧ Ext w w')
    (((try dsimp only); go_split_ands; (repeat' apply And.intro) <;> first | assumption | exact kcell (by assumption) (by omega) (by assumption) | exact kcell_refl _ _ | exact kcell_set (kcell_set (by assumption) (by dsimp only; omega) _) (by dsimp only; omega) _ | exact kcell_set (by assumption) (by dsimp only; omega) _ | exact held_ext (by assumption) (by dsimp only; omega) (by assumption) | exact hfrozen_ext (by assumption) (by dsimp only; omega) (by assumption) | exact Ext.sizeLe (by assumption) (by assumption) | exact Ext.trans (by assumption) (by assumption) | exact Ext.drew (by assumption) | exact held_set _ _ _ _ (held_set _ _ _ _ (by assumption)) | exact held_set _ _ _ _ (by assumption) | exact hfrozen_set _ _ (hfrozen_set _ _ (by assumption)) | exact hfrozen_set _ _ (by assumption) | exact hsize_set _ _ (hsize_set _ _ (by assumption)) | exact hsize_set _ _ (by assumption) | exact Ext.set (Ext.set (by assumption) (by dsimp only; omega) _) (by dsimp only; omega) _ | exact Ext.set (by assumption) (by dsimp only; omega) _))
    (first
      | (go_at_call 56; refine (HT2.out _ _ ‹_ ∧ _ ∧ Ext _ _›.2.2).mono ?_; rintro e w2 ⟨g1, cap1, rfl, r1, s1, hE2⟩; have hg1 := Nat.le_trans (‹_ ∧ _ ∧ Ext _ _›.2.1) s1)
      | (go_at_call 55; refine (shown_any _ _ _ _ rfl (by rw [HLN.out]; omega) (by rw [HLN.out]; omega) _ (by assumption)).mono ?_; rintro e w3 ⟨g2, cap2, rfl, r2, s2, hE3⟩; have hg2 := Nat.le_trans (‹_ ∧ _ ∧ Ext _ _›.2.1) s2))
  rename_i w2a g1a cap1a r1a s1a hE2a hg1a w3a g2a cap2a r2a s2a hE3a hg2a hH
  have FF := hid (And.intro (RowAt.ext r2a (hE2.trans hE3)) (And.intro r2 hH.2.2))
  have hz1 := EW.size
  have hgA : w.heap.size ≤ g2a := by omega
  have hgB : w.heap.size ≤ g2 := by omega
  clear hH r1a r2a r1 r2 hE2 hE3 hE2a hE3a s1a s2a s1 s2
  go_wp2
  go_ret3
  exact ⟨g2a, cap2a, g2, cap2, by rw [List.length_map, List.length_map]; rfl, FF.out.1, FF.out.2.1, hgA, hgB, FF.out.2.2⟩
end Go.Proofs.Ytndoghcglbpllaa
/- Slices of numbers that grow by append. -/
set_option linter.unusedSimpArgs false
set_option linter.unusedVariables false
namespace Go.Proofs.Ytndoghcglbpllaa
open Go.RowKit
def OwnAt (w : World) (B : Nat) (v : Value) (xs : List Int) : Prop := w.ownsRow B 3 1 v xs.length (ints xs)
theorem OwnAt.nil (w : World) (B : Nat) : OwnAt w B (.slice none 0 0) [] := ⟨rfl, .inl ⟨rfl, rfl⟩⟩
theorem OwnAt.keep {w w' : World} {B : Nat} {v : Value} {xs : List Int} (h : OwnAt w B v xs) (hk : ∀ (q : Nat) (o : Obj), w.heap[q]? = some o → w'.heap[q]? = some o) : OwnAt w' B v xs := by
  obtain ⟨h1, h2⟩ := h
  refine ⟨h1, ?_⟩
  rcases h2 with h2 | ⟨g, cap, cur, a1, a2, a3, a4⟩
  · exact .inl h2
  · exact .inr ⟨g, cap, cur, a1, a2, hk _ _ a3, a4⟩
theorem OwnAt.ext {w w' : World} {B : Nat} {v : Value} {xs : List Int} (h : OwnAt w B v xs) (e : Ext w w') : OwnAt w' B v xs := h.keep fun _ _ ho => blk_ext ho e
theorem OwnAt.block {w : World} {B : Nat} {v : Value} {xs : List Int} (h : OwnAt w B v xs) : ∀ q, v.ownBlock = some q → B ≤ q := by
  intro q hq
  rcases h.2 with ⟨h2, _⟩ | ⟨g, cap, cur, a1, a2, _⟩
  · rw [h2] at hq; cases hq
  · rw [a1] at hq
    cases hq
    exact a2
theorem OwnAt.form {w : World} {B : Nat} {v : Value} {xs : List Int} (h : OwnAt w B v xs) : ∃ A c, v = .slice A xs.length c ∧ IntsAt w A xs := by
  by_cases h0 : 0 < xs.length
  · obtain ⟨g, cap, h1, _, h2⟩ := row_of_own h h0
    exact ⟨_, _, h1, h2.ints⟩
  · have hx : xs = [] := List.length_eq_zero_iff.1 (by omega)
    subst hx
    rcases h.2 with ⟨h2, _⟩ | ⟨g, cap, cur, a1, _⟩
    · exact ⟨_, _, h2, fun hne => absurd rfl hne⟩
    · exact ⟨_, _, a1, fun hne => absurd rfl hne⟩
theorem grown_blk {B q : Nat} {o : Obj} {w w' : World} {row : Option Nat} (hq : q < B) (h : w.heap[q]? = some o) (hg : w.grownBy w' row) (hr : ∀ r, row = some r → B ≤ r) : w'.heap[q]? = some o :=
  (hg.block q (Array.getElem?_eq_some_iff.1 h).1 (fun e => by have := hr q e.symm; omega)).trans h
theorem grown_cell {B : Nat} {w w' W : World} {row : Option Nat} (h : ∀ b o, b < B → w.cell? ⟨b, o, none⟩ = W.cell? ⟨b, o, none⟩) (hB : B ≤ w.heap.size) (hg : w.grownBy w' row) (hr : ∀ r, row = some r → B ≤ r) : ∀ b o, b < B → w'.cell? ⟨b, o, none⟩ = W.cell? ⟨b, o, none⟩ :=
  fun b o hb => (World.cell?_of_block (hg.block b (by omega) (fun e => by have := hr b e.symm; omega))).trans (h b o hb)
theorem wp_append_ints {P : Program} {o : Oper} {a : Act} {K : Act → World → Prop} {Q : Exit → Act → World → Prop} (w : World) (hP : P = Try.prog) (s x : Operand)
    (ho : o.op = .call { callee := .builtin .append, args := #[s, x], argTypes := #[29, 29] }) (B : Nat) (v : Value) (xs : List Int) (hs : a.eval s = v) (hown : OwnAt w B v xs)
    (ad : Addr) (y : Int) (hx : a.eval x = .slice (some ad) 1 1) (hy : w.cell? ad = some (.int .i64 y)) (hl : xs.length ≤ 1000) (hB : B ≤ w.heap.size)
    (h : ∀ v' w', OwnAt w' B v' (xs ++ [y]) → w.grownBy w' v.ownBlock → K (a.put o.dst v') w') : o.wp P a w K Q := by
  subst hP
  obtain ⟨i0, hi, hz0, hz1, hz2⟩ := info_parts info3
  refine wp_append_own w s x 29 ho B 3 i0 (.int .i64 0) 1 8 Try.underlying29 hi hz0 hz1 hz2 rfl (by decide) v xs.length (ints xs) hs hown ad 1 1 [.int .i64 y] hx rfl (one_at hy) (one_one _) (by unfold maxLen; omega) (by omega) hB (fun v' w' h1 h2 _ => h v' w' ?_ h2)
  unfold OwnAt
  have e1 : (xs ++ [y]).length = xs.length + 1 := by simp
  have e2 : ints (xs ++ [y]) = ints xs ++ [.int .i64 y] := by simp [ints]
  rw [e1, e2]
  exact h1
end Go.Proofs.Ytndoghcglbpllaa
