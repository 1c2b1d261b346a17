/- Sum, of the specification. -/
import Derived.Test.YtcfijidlbimckaaDoorEnM
set_option linter.unusedSimpArgs false
set_option linter.unusedVariables false
namespace Go.Proofs.YtcfijidlbimckaaDoor
open Go.RowKit
theorem tb_mod (s k : Nat) : s.testBit k = decide (s / 2 ^ k % 2 = 1) := Nat.testBit_eq_decide_div_mod_eq
set_option maxHeartbeats 4000000 in
set_option maxRecDepth 100000 in
theorem rSum_any (d : Wat) (A : WA) (hok : WOk d) (s : Nat) (hs : s < 2 ^ d.spr.length) (w : World) (hW : WIn w d A) :
    Calls Tryd.prog 24 #[wval d A, .int .i64 s] w fun e w' => e = .returned (.tuple #[.int .i64 (litN d.spr (bitsL s)), .int .i64 (fuelN d.spr (bitsL s))]) ∧ Ext w w' := by
  have hn8 := hok.n8
  have hp2 := hok.p2
  have HN := hid (show d.spr.length = d.spr.length from rfl)
  have HL1 := hid (litTo_succ d.spr s)
  have HF1 := hid (fuelTo_succ d.spr s)
  have HLE := hid (litTo_end (spr := d.spr) hs (by omega))
  have HFE := hid (fuelTo_end (spr := d.spr) hs (by omega))
  have HLB := hid (litTo_bd hok s)
  have HFB := hid (fuelTo_bd hok s)
  have HSP := hid hok.spr
  have HL0 := hid (show litTo d.spr s 0 = 0 from rfl)
  have HF0 := hid (show fuelTo d.spr s 0 = 0 from rfl)
  have HS := hid hW.spr
  have HB := hid (fun k => bit_i64 s k (by omega))
  have HT := hid (tb_mod s)
  have BN := hid (Blk.new w 25 (wcells d A))
  clear hW hok
  rw [← HLE.out, ← HFE.out]
  clear HLE HFE
  generalize litTo d.spr s = lt at *
  generalize fuelTo d.spr s = ft at *
  unfold wval wcells at *
  obtain ⟨spr, most, miss, al, smp⟩ := d
  obtain ⟨SA, sc, MA, mc⟩ := A
  dsimp only at *
  generalize hnn : spr.length = n at *
  generalize smp.length = m at *
  have HLN := hid hnn
  clear hnn HN
  go_enter Tryd.func24, Tryd.ntmps24
  go_wp2
  go_loopw [4, 5, 6] (fun x y i wr => Ext w wr ∧ Blk wr w.heap.size 25 #[.slice SA n sc, .int .i64 most, .int .i64 miss, .int .i64 al, .slice MA m mc] ∧ ∃ k : Nat, k ≤ n ∧ i = .int .i64 k ∧ x = .int .i64 (lt k) ∧ y = .int .i64 (ft k)) (fun _ _ i _ => n - (intOf i).toNat)
  case atStart => exact ⟨by (repeat' (first | with_reducible assumption | with_reducible exact Ext.refl _ | with_reducible refine Ext.alloc ?_ _ | with_reducible refine Ext.set ?_ ?_ _ | with_reducible refine Ext.drew ?_ | with_reducible refine Ext.drewN ?_ _ | with_reducible refine Ext.trans ?_ (by assumption) | (dsimp only; omega))), BN.out, 0, Nat.zero_le _, rfl, by rw [HL0.out], by rw [HF0.out]⟩
  case round =>
    obtain ⟨hE, hB, k, hk, rfl, rfl, rfl⟩ := hrel
    have HBB := hid hB
    clear hB BN
    have d0 := HBB.out.cell 0
    have d1 := HBB.out.cell 1
    have d2 := HBB.out.cell 2
    have d3 := HBB.out.cell 3
    have d4 := HBB.out.cell 4
    simp only [List.getElem?_toArray, List.getElem?_cons_zero, List.getElem?_cons_succ] at d0 d1 d2 d3 d4
    have dz := HBB.out.lt
    by_cases hlt : k < n
    · have hb := HB.out k
      have h1 := HL1.out k
      have h2 := HF1.out k
      have h3 := HLB.out k hk
      have h4 := HFB.out k hk
      have h5 := HSP.out k hlt
      have h6 := HT.out k
      obtain ⟨b, off, rfl, hbb, c0, c1, c2⟩ := (HS.out.ext hE).at_ HLN.out hlt
      generalize spr.getD k zeroSpr = sp at *
      obtain ⟨lo, hi, fu⟩ := sp
      dsimp only at *
      have hy2 : s / 2 ^ k % 2 < 2 := Nat.mod_lt _ (by decide)
      obtain ⟨y, hy⟩ : ∃ y, s / 2 ^ k % 2 = y := ⟨_, rfl⟩
      rw [hy] at hb h6 hy2
      rw [h6] at h1 h2
      have H1 := hid h1
      have H2 := hid h2
      clear HB HT HL1 HF1 HLB HFB HSP h1 h2 h6 hy
      obtain ⟨x, hx⟩ : ∃ x, lt k = x := ⟨_, rfl⟩
      obtain ⟨z, hz⟩ : ∃ z, ft k = z := ⟨_, rfl⟩
      rw [hx] at h3 H1 ⊢
      rw [hz] at h4 H2 ⊢
      clear hx hz
      by_cases hy1 : y = 1
      · subst hy1
        have H1' := hid (show lt (k + 1) = x + lo by rw [H1.out]; rfl)
        have H2' := hid (show ft (k + 1) = z + fu by rw [H2.out]; rfl)
        clear H1 H2
        go_wp2_with (simp only [hb])
        go_roundw
        case rel => exact ⟨by (repeat' (first | with_reducible assumption | with_reducible exact Ext.refl _ | with_reducible refine Ext.alloc ?_ _ | with_reducible refine Ext.set ?_ ?_ _ | with_reducible refine Ext.drew ?_ | with_reducible refine Ext.drewN ?_ _ | with_reducible refine Ext.trans ?_ (by assumption) | (dsimp only; omega))), HBB.out, k + 1, by omega, by go_num, by rw [H1'.out], by rw [H2'.out]⟩
        case measure => simp [intOf]; omega
      · obtain rfl : y = 0 := by omega
        have H1' := hid (show lt (k + 1) = x by rw [H1.out]; simp)
        have H2' := hid (show ft (k + 1) = z by rw [H2.out]; simp)
        clear H1 H2
        go_wp2_with (simp only [hb])
        go_roundw
        case rel => exact ⟨by (repeat' (first | with_reducible assumption | with_reducible exact Ext.refl _ | with_reducible refine Ext.alloc ?_ _ | with_reducible refine Ext.set ?_ ?_ _ | with_reducible refine Ext.drew ?_ | with_reducible refine Ext.drewN ?_ _ | with_reducible refine Ext.trans ?_ (by assumption) | (dsimp only; omega))), HBB.out, k + 1, by omega, by go_num, by rw [H1'.out], by rw [H2'.out]⟩
        case measure => simp [intOf]; omega
    · obtain rfl : k = n := by omega
      go_wp2
      go_ret2
      exact ⟨rfl, by (repeat' (first | with_reducible assumption | with_reducible exact Ext.refl _ | with_reducible refine Ext.alloc ?_ _ | with_reducible refine Ext.set ?_ ?_ _ | with_reducible refine Ext.drew ?_ | with_reducible refine Ext.drewN ?_ _ | with_reducible refine Ext.trans ?_ (by assumption) | (dsimp only; omega)))⟩
end Go.Proofs.YtcfijidlbimckaaDoor
