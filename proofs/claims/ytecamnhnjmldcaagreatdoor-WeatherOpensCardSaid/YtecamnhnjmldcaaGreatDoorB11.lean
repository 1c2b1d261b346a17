/- gap. -/
import Derived.Test.YtecamnhnjmldcaaGreatDoorB10
set_option linter.unusedSimpArgs false
set_option linter.unusedVariables false
namespace Go.Proofs.YtecamnhnjmldcaaGreatDoor
open Go.RowKit
theorem nextM_bd (kept : Hr → Bool) (len n : Nat) (hs : List Hr) : ∀ (k h : Nat), h ≤ n → h ≤ nextM kept len n hs k h ∧ nextM kept len n hs k h ≤ n
  | 0, h, hh => ⟨hh, Nat.le_refl _⟩
  | k + 1, h, hh => by
    by_cases hlt : n < h + len
    · rw [nextM_out hlt]; exact ⟨hh, Nat.le_refl _⟩
    · cases ha : ((hs.drop h).take len).all kept
      · rw [nextM_miss hlt ha]
        by_cases hn : h + 1 ≤ n
        · have := nextM_bd kept len n hs k (h + 1) hn; exact ⟨by omega, this.2⟩
        · obtain rfl : h = n := by omega
          cases k with
          | zero => exact ⟨Nat.le_refl _, Nat.le_refl _⟩
          | succ k =>
            by_cases hl : h < h + 1 + len
            · rw [nextM_out hl]; exact ⟨Nat.le_refl _, Nat.le_refl _⟩
            · omega
      · rw [nextM_hit hlt ha]; exact ⟨Nat.le_refl _, hh⟩
theorem nxtM_bd (kept : Hr → Bool) (len n : Nat) (hs : List Hr) (h : Nat) (hh : h ≤ n) : h ≤ nxtM kept len n hs h ∧ nxtM kept len n hs h ≤ n := nextM_bd kept len n hs _ h hh
def gap1K (kept : Hr → Bool) (len n : Nat) (hs : List Hr) (m k : Nat) : Nat := (List.range k).foldl (fun m h => max m (min (nxtM kept len n hs h + len - 1) n - h)) m
theorem gap1K_step (kept : Hr → Bool) (len n : Nat) (hs : List Hr) (m k : Nat) : gap1K kept len n hs m (k + 1) = max (gap1K kept len n hs m k) (min (nxtM kept len n hs k + len - 1) n - k) := by
  unfold gap1K
  rw [List.range_succ, List.foldl_append]
  rfl
theorem gap1K_le (kept : Hr → Bool) (len n : Nat) (hs : List Hr) (m : Nat) (hm : m ≤ n) : ∀ k, gap1K kept len n hs m k ≤ n
  | 0 => hm
  | k + 1 => by rw [gap1K_step]; have := gap1K_le kept len n hs m hm k; omega
def gapK (kept : Hr → Bool) (len n : Nat) (ss : List (List Hr)) (k : Nat) : Nat := (ss.take k).foldl (fun m hs => gap1M kept len n hs m) 0
theorem gapK_step (kept : Hr → Bool) (len n : Nat) (ss : List (List Hr)) (k : Nat) (hk : k < ss.length) : gapK kept len n ss (k + 1) = gap1K kept len n (ss.getD k []) (gapK kept len n ss k) n := by
  have e : ss.getD k [] = ss[k] := by simp [List.getD, List.getElem?_eq_getElem hk]
  unfold gapK
  rw [List.take_succ_eq_append_getElem hk, List.foldl_append, e]
  rfl
theorem gapK_le (kept : Hr → Bool) (len n : Nat) (ss : List (List Hr)) : ∀ k, k ≤ ss.length → gapK kept len n ss k ≤ n
  | 0, _ => by simp [gapK]
  | k + 1, hk => by rw [gapK_step _ _ _ _ _ (by omega)]; exact gap1K_le _ _ _ _ _ (gapK_le kept len n ss k (by omega)) _
set_option maxRecDepth 100000 in
set_option maxHeartbeats 8000000 in
theorem gap_any (N : Nat) (hN : N ≤ 1000) (A1 : Option Addr) (n1 c1 : Nat) (A2 : Option Addr) (n2 c2 : Nat) (l : Lm) (len : Nat) (hlen : 1 ≤ len) (hlen2 : len ≤ 1000) (ss : List (List Hr)) (hn : ss.length = n2) (hn2 : n2 ≤ 1000) (hall : ∀ x ∈ ss, x.length = N) (w : World) (hx : ScsAt w A2 ss) :
    Calls Tryz.prog 55 #[.agg (winCells N (.slice A1 n1 c1) (.slice A2 n2 c2) l len)] w fun e w' => e = .returned (.int .i64 (gapM (surB l) len N ss)) ∧ Ext w w' := by
  have HX := hid hx
  have HN := hid hn
  have HALL := hid hall
  have B0 := hid (show Blk _ _ _ _ from blk_last w (.cells (winCells N (.slice A1 n1 c1) (.slice A2 n2 c2) l len) 117))
  clear hx hn hall
  unfold winCells at *
  go_enter Tryz.func55, Tryz.ntmps55
  go_wp2
  have b0 := B0.out.cell 0
  have b2 := B0.out.cell 2
  have z0 := B0.out.lt
  simp only [List.getElem?_toArray, List.getElem?_cons_zero, List.getElem?_cons_succ] at b0 b2
  go_loopw [3, 12] (fun m i wr => Ext w wr ∧ ∃ k : Nat, k ≤ n2 ∧ i = .int .i64 k ∧ m = .int .i64 (gapK (surB l) len N ss k) ∧ Hid (Blk wr w.heap.size 117 #[.int .i64 (N : Int), .slice A1 n1 c1, .slice A2 n2 c2, .int .i64 l.wind, .int .i64 l.rain, .int .i64 l.tl, .int .i64 l.th, .int .i64 (len : Int)])) (fun _ i _ => n2 - (intOf i).toNat)
  case atStart =>
    exact ⟨by (repeat' (first | with_reducible assumption | with_reducible exact Ext.refl _ | with_reducible refine Ext.alloc ?_ _ | with_reducible refine Ext.set ?_ ?_ _ | with_reducible refine Ext.drew ?_ | with_reducible refine Ext.drewN ?_ _ | with_reducible refine Ext.trans ?_ (by assumption) | (dsimp only; omega))), 0, Nat.zero_le _, rfl, rfl, B0⟩
  case round =>
    obtain ⟨hE, k, hk, rfl, rfl, K0⟩ := hrel
    clear b0 b2 z0 B0
    have b0 := K0.out.cell 0
    have b2 := K0.out.cell 2
    have z0 := K0.out.lt
    simp only [List.getElem?_toArray, List.getElem?_cons_zero, List.getElem?_cons_succ] at b0 b2
    obtain ⟨wo, rfl⟩ : ∃ wo, wo = wr := ⟨_, rfl⟩
    by_cases hlt : k < n2
    · obtain ⟨b, off, rfl, hb0, A', c', ew, hcap, hhr⟩ := HX.out.at_ HN.out hlt
      have hb := Nat.lt_of_lt_of_le hb0 hE.size
      have e0 := (hE.cell hb0).trans ew
      have hlx := HALL.out _ (mem_at ss [] k (by rw [HN.out]; exact hlt))
      have HST := hid (gapK_step (surB l) len N ss k (by rw [HN.out]; exact hlt))
      have HBK := hid (gapK_le (surB l) len N ss k (by rw [HN.out]; omega))
      rw [hlx] at e0 hcap
      have HNE := hid (fun (W : World) (hW : Ext w W) (hr : Nat) (hhr2 : hr ≤ N) => next_any 94 surB surelyF N hN _ _ A1 n1 c1 rfl (some ⟨b, off, none⟩) n2 c2 rfl l len hlen hlen2 (ss.getD k []) A' c' hlx hcap hr hhr2 W (hhr.ext hW))
      unfold winCells at HNE
      clear ew hhr hcap
      generalize ss.getD k [] = x at *
      generalize gapK (surB l) len N ss k = m0 at *
      have HBX := hid (fun hr hhr2 => nxtM_bd (surB l) len N x hr hhr2)
      have HG1 := hid (gap1K_step (surB l) len N x m0)
      have HGL := hid (fun j => gap1K_le (surB l) len N x m0 HBK.out j)
      have G0 := hid (show gap1K (surB l) len N x m0 0 = m0 from rfl)
      have B5 := hid (show Blk _ _ _ _ from blk_last wo (.cells #[.slice A' N c'] 92))
      have K5 := hid (K0.out.alloc (.cells #[.slice A' N c'] 92))
      go_wp2_with fail
      go_loopw [3, 19] (fun m i wr => Ext w wr ∧ ∃ h : Nat, h ≤ N ∧ i = .int .i64 h ∧ m = .int .i64 (gap1K (surB l) len N x m0 h) ∧ Hid (Blk wr w.heap.size 117 #[.int .i64 (N : Int), .slice A1 n1 c1, .slice (some ⟨b, off, none⟩) n2 c2, .int .i64 l.wind, .int .i64 l.rain, .int .i64 l.tl, .int .i64 l.th, .int .i64 (len : Int)]) ∧ Hid (Blk wr wo.heap.size 92 #[.slice A' N c'])) (fun _ i _ => N - (intOf i).toNat)
      case atStart => exact ⟨by (repeat' (first | with_reducible assumption | with_reducible exact Ext.refl _ | with_reducible refine Ext.alloc ?_ _ | with_reducible refine Ext.set ?_ ?_ _ | with_reducible refine Ext.drew ?_ | with_reducible refine Ext.drewN ?_ _ | with_reducible refine Ext.trans ?_ (by assumption) | (dsimp only; omega))), 0, Nat.zero_le _, rfl, by rw [G0.out], K5, B5⟩
      case round =>
        rename_i hEo
        clear b0 b2 z0 K0 e0 B5 K5
        obtain ⟨hE, h, hh, rfl, rfl, J0, J5⟩ := hrel
        obtain ⟨a0, a1, a2, a3, a4, a5, a6, a7⟩ : _ ∧ _ ∧ _ ∧ _ ∧ _ ∧ _ ∧ _ ∧ _ := ⟨J0.out.cell 0, J0.out.cell 1, J0.out.cell 2, J0.out.cell 3, J0.out.cell 4, J0.out.cell 5, J0.out.cell 6, J0.out.cell 7⟩
        have e5 := J5.out.cell 0
        have z0 := J0.out.lt
        have z5 := J5.out.lt
        simp only [List.getElem?_toArray, List.getElem?_cons_zero, List.getElem?_cons_succ] at a0 a1 a2 a3 a4 a5 a6 a7 e5
        by_cases hlt2 : h < N
        · have hbd := HBX.out h hh
          have HS1 := hid (HG1.out h)
          have HGB := hid (HGL.out h)
          have HNX := hid (fun (W : World) (hW : Ext w W) => HNE.out W hW h hh)
          clear HBX HG1 HGL HNE G0 HST HBK
          generalize nxtM (surB l) len N x h = nx at *
          generalize gap1K (surB l) len N x m0 h = m1 at *
          obtain ⟨en, hen⟩ : ∃ en, min (nx + len - 1) N = en := ⟨_, rfl⟩
          rw [hen] at HS1
          have hwr1 : IntKind.i64.wrap ((nx : Int) + (len : Int)) = (nx : Int) + (len : Int) := IntWalk.i64_in _ (by omega)
          have g1 : (if (N : Int) < (nx : Int) + (len : Int) - 1 then (N : Int) else (nx : Int) + (len : Int) - 1) = (en : Int) := by split <;> omega
          have hen2 : en ≤ N := by omega
          have hen3 : h ≤ en := by omega
          obtain ⟨m2, hm2⟩ : ∃ m2, max m1 (en - h) = m2 := ⟨_, rfl⟩
          rw [hm2] at HS1
          have g2 : (if (m1 : Int) < (en : Int) - (h : Int) then (en : Int) - (h : Int) else (m1 : Int)) = (m2 : Int) := by split <;> omega
          have HMB := hid (show m2 ≤ N by have := HGB.out; omega)
          clear hen hm2
          go_wp2_with fail
          refine wp_region_held_drew (S := fun w' => (∀ b o, b < wr.heap.size → w'.cell? ⟨b, o, none⟩ = wr.cell? ⟨b, o, none⟩) ∧ wr.heap.size ≤ w'.heap.size ∧ Ext wr w') (by kernel_rfl) ?hS0 (fun hHeld => ?_)
          case hS0 => exact sK (Ext.drew (Ext.refl _))
          have X0 : Ext wr wr.drew := Ext.drew (Ext.refl wr)
          have EX := X0
          obtain ⟨X, hX⟩ : ∃ X, wr.drew = X := ⟨_, rfl⟩
          rw [hX] at EX hHeld ⊢
          clear hX X0
          refine tk1 (i := 0) (v := ?v0a) rfl ?y0a ?r0a
          case y0a => (intro w' hSw; (try dsimp only at hSw); go_simp; (try with_reducible rfl))
          try simp only [Act.put, sq1, sq2, sq3, sq4, sq5, sq6]
          refine tk1 (i := 1) (v := ?v1a) rfl ?y1a ?r1a
          case y1a => (intro w' hSw; (try dsimp only at hSw); go_simp; (try with_reducible rfl))
          try simp only [Act.put, sq1, sq2, sq3, sq4, sq5, sq6]
          refine tk1 (i := 2) (v := ?v2a) rfl ?y2a ?r2a
          case y2a => (intro w' hSw; (try dsimp only at hSw); go_simp; (try with_reducible rfl))
          try simp only [Act.put, sq1, sq2, sq3, sq4, sq5, sq6]
          refine tk1 (i := 4) (v := ?v4a) rfl ?y4a ?r4a
          case y4a => (intro w' hSw; (try dsimp only at hSw); go_simp; (try with_reducible rfl))
          try simp only [Act.put, sq1, sq2, sq3, sq4, sq5, sq6]
          refine tk1 (i := 5) (v := ?v5a) rfl ?y5a ?r5a
          case y5a => (intro w' hSw; (try dsimp only at hSw); go_simp; (try with_reducible rfl))
          try simp only [Act.put, sq1, sq2, sq3, sq4, sq5, sq6]
          refine tk1 (i := 8) (v := ?v8a) rfl ?y8a ?r8a
          case y8a => (intro w' hSw; (try dsimp only at hSw); go_simp; (try with_reducible rfl))
          try simp only [Act.put, sq1, sq2, sq3, sq4, sq5, sq6]
          refine tk1 (i := 9) (v := ?v9a) rfl ?y9a ?r9a
          case y9a => (intro w' hSw; (try dsimp only at hSw); go_simp; (try with_reducible rfl))
          try simp only [Act.put, sq1, sq2, sq3, sq4, sq5, sq6]
          refine tk1 (i := 10) (v := ?v10a) rfl ?y10a ?r10a
          case y10a => (intro w' hSw; (try dsimp only at hSw); go_simp; (try with_reducible rfl))
          try simp only [Act.put, sq1, sq2, sq3, sq4, sq5, sq6]
          refine wpAnyH_ready (rs := [3]) (by kernel_rfl) (by simp) ?_
          refine AllReadyH.cons (o := _) rfl (fun K hK => ?_) AllReadyH.nil
          go_simp
          refine Calls.mono (HNX.out _ (hE.trans EX)) ?_
          rintro e X2 ⟨rfl, hE2⟩
          dsimp only
          replace EX := EX.trans hE2
          clear hHeld hE2
          refine hK.out _ _ (sK EX) (fun hHeld => ?_)
          clear hK K
          try simp only [Act.put, sq1, sq2, sq3, sq4, sq5, sq6]
          refine tk1 (i := 6) (v := ?v6b) rfl ?y6b ?r6b
          case y6b => (intro w' hSw; (try dsimp only at hSw); go_simp; (try with_reducible rfl))
          try simp only [Act.put, sq1, sq2, sq3, sq4, sq5, sq6]
          refine tk1 (i := 7) (v := ?v7b) rfl ?y7b ?r7b
          case y7b => (intro w' hSw; (try dsimp only at hSw); go_simp; (try with_reducible rfl))
          try simp only [Act.put, sq1, sq2, sq3, sq4, sq5, sq6]
          refine tk1 (i := 11) (v := ?v11b) rfl ?y11b ?r11b
          case y11b => (intro w' hSw; (try dsimp only at hSw); go_simp; (try with_reducible rfl))
          try simp only [Act.put, sq1, sq2, sq3, sq4, sq5, sq6]
          refine tk1 (i := 12) (v := ?v12b) rfl ?y12b ?r12b
          case y12b => (intro w' hSw; (try dsimp only at hSw); go_simp; (try with_reducible rfl))
          try simp only [Act.put, sq1, sq2, sq3, sq4, sq5, sq6]
          refine wpAnyH_done (by kernel_rfl) ?_ _
          clear hHeld
          have L0 := hid (show Blk _ _ _ _ from J0.out.ext EX)
          have L5 := hid (show Blk _ _ _ _ from J5.out.ext EX)
          have HEX := hid (hE.trans EX)
          clear J0 J5 EX a0 a1 a2 a3 a4 a5 a6 a7 e5 z0 z5
          go_wp2
          go_roundw
          case rel => exact ⟨HEX.out, h + 1, by omega, by go_num, by rw [HS1.out], L0, L5⟩
          case measure => simp [intOf]; omega
        · obtain rfl : h = N := by omega
          clear HNE HBX HG1
          go_wp2
          go_roundw
          case rel => exact ⟨hE, k + 1, by omega, by go_num, by rw [HST.out], J0⟩
          case measure => simp [intOf]; omega
    · obtain rfl : k = n2 := by omega
      have HF := hid (show gapK (surB l) len N ss k = gapM (surB l) len N ss by unfold gapK gapM; rw [List.take_of_length_le (by rw [HN.out]; exact Nat.le_refl _)])
      go_wp2
      go_ret
      exact ⟨ret_int (by rw [HF.out]), hE⟩
end Go.Proofs.YtecamnhnjmldcaaGreatDoor
