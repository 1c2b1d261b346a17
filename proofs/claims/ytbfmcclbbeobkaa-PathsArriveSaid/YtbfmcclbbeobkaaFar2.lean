/- Far: what it says of a net if it says no. -/
import Derived.Test.YtbfmcclbbeobkaaFits
import Derived.Test.YtbfmcclbbeobkaaStab
set_option linter.unusedSimpArgs false
set_option linter.unusedVariables false
namespace Go.Proofs.Ytbfmcclbbeobkaa
open Go.RowKit
/-- A net that is not far. -/
def NearOk (m : Int) (ps : List Pt) : Prop := ps.length ≤ 26 ∧ ∀ k, k < ps.length → (ps.getD k zeroPt).opens.length ≤ 8
set_option maxRecDepth 100000 in
set_option maxHeartbeats 1000000 in
theorem far2_any (m : Int) (A : Option Addr) (n c : Nat) (ps : List Pt) (hn : ps.length = n) (w : World) (hp : PathsAt w A ps) :
    Calls Try.prog 12 #[.agg #[.int .i64 m, .slice A n c]] w fun e w' => (∃ B, e = .returned (.bool B) ∧ (B = false → NearOk m ps)) ∧ Ext w w' := by
  have HC := hid (fun (W : World) (hW : Ext w W) => rCheck_any m A n c ps hn W (hp.ext hW))
  have HP := hid hp
  have HN := hid hn
  clear hp hn
  by_cases h1 : n ≤ 26
  case neg =>
    go_enter Try.func12, Try.ntmps12
    go_wp2
    go_ret
    exact ⟨⟨_, rfl, fun h => by cases h⟩, by (repeat' (first | with_reducible assumption | with_reducible exact Ext.refl _ | with_reducible refine Ext.alloc ?_ _ | with_reducible refine Ext.set ?_ ?_ _ | with_reducible refine Ext.drew ?_ | with_reducible refine Ext.drewN ?_ _ | with_reducible refine Ext.trans ?_ (by assumption) | (dsimp only; omega)))⟩
  have B0 := hid (heap_alloc_new w (.cells #[.int .i64 m, .slice A n c] 24))
  revert HC
  generalize checkE m ps = ce
  intro HC
  go_enter Try.func12, Try.ntmps12
  go_wp2
  go_loopw [3] (fun i wr => Ext w wr ∧ Hid (wr.heap[w.heap.size]? = some (.cells #[.int .i64 m, .slice A n c] 24 (0, 0))) ∧ ∃ k : Nat, k ≤ n ∧ i = .int .i64 k ∧ Hid (∀ j, j < k → (ps.getD j zeroPt).opens.length ≤ 8)) (fun i _ => n - (intOf i).toNat)
  case atStart => exact ⟨by (repeat' (first | with_reducible assumption | with_reducible exact Ext.refl _ | with_reducible refine Ext.alloc ?_ _ | with_reducible refine Ext.set ?_ ?_ _ | with_reducible refine Ext.drew ?_ | with_reducible refine Ext.drewN ?_ _ | with_reducible refine Ext.trans ?_ (by assumption) | (dsimp only; omega))), B0, 0, Nat.zero_le _, rfl, hid (fun j hj => by omega)⟩
  case round =>
    clear B0
    obtain ⟨hE, HB, k, hk, rfl, HJ⟩ := hrel
    have c0 := blk_cell HB.out 0
    have c1 := blk_cell HB.out 1
    have hs := (Array.getElem?_eq_some_iff.1 HB.out).1
    simp only [List.getElem?_toArray, List.getElem?_cons_zero, List.getElem?_cons_succ] at c0 c1
    by_cases hlt : k < n
    · obtain ⟨b, off, A', c', rfl, hb, hpt⟩ := (HP.out.ext hE).at_ HN.out hlt
      have hk0 : (0 : Int) ≤ (k : Int) := by omega
      have hk1 : (k : Int) < (n : Int) := by omega
      have HJ2 := hid (fun (h : (ps.getD k zeroPt).opens.length ≤ 8) => (show ∀ j, j < k + 1 → (ps.getD j zeroPt).opens.length ≤ 8 from fun j hj => by
        by_cases hjk : j < k
        · exact HJ.out j hjk
        · obtain rfl : j = k := by omega
          exact h))
      obtain ⟨p, hpq⟩ : ∃ p, ps.getD k zeroPt = p := ⟨_, rfl⟩
      rw [hpq] at hpt HJ2
      clear hpq
      obtain ⟨d0, d1, d2, d3, d4, d5, d6, d7, hcap, hop⟩ := hpt
      obtain ⟨f, d, g, tl, th, sl, sh, os⟩ := p
      dsimp only at d0 d1 d2 d3 d4 d5 d6 d7 hcap hop HJ2
      clear hop hcap
      by_cases h8 : os.length ≤ 8
      · have HJ3 := hid (HJ2.out h8)
        go_wp2
        go_roundw
        case rel => exact ⟨hE, HB, k + 1, by omega, by go_num, HJ3⟩
        case measure => simp [intOf]; omega
      · go_wp2
        go_ret
        exact ⟨⟨_, rfl, fun h => by first | (cases h; done) | (simp at h; omega)⟩, hE⟩
    · have HNR := hid (show NearOk m ps from ⟨by have := HN.out; omega, fun j hj => HJ.out j (by have := HN.out; omega)⟩)
      by_cases hce : ce = 0
      · subst hce
        by_cases h6 : 6 < m
        · go_wp2_with fail
          refine (HC.out _ hE).mono ?_
          rintro e w2 ⟨rfl, hE2⟩
          have HB2 := hid (blk_ext HB.out hE2)
          have hE3 := hE.trans hE2
          clear c0 c1 hE2 HB hs
          have c0 := blk_cell HB2.out 0
          have c1 := blk_cell HB2.out 1
          have hs := (Array.getElem?_eq_some_iff.1 HB2.out).1
          simp only [List.getElem?_toArray, List.getElem?_cons_zero, List.getElem?_cons_succ] at c0 c1
          go_wp2
          go_ret
          exact ⟨⟨_, rfl, fun _ => HNR.out⟩, hE3⟩
        · by_cases h10 : 10 < n
          · go_wp2_with fail
            refine (HC.out _ hE).mono ?_
            rintro e w2 ⟨rfl, hE2⟩
            have HB2 := hid (blk_ext HB.out hE2)
            have hE3 := hE.trans hE2
            clear c0 c1 hE2 HB hs
            have c0 := blk_cell HB2.out 0
            have c1 := blk_cell HB2.out 1
            have hs := (Array.getElem?_eq_some_iff.1 HB2.out).1
            simp only [List.getElem?_toArray, List.getElem?_cons_zero, List.getElem?_cons_succ] at c0 c1
            go_wp2
            go_ret
            exact ⟨⟨_, rfl, fun _ => HNR.out⟩, hE3⟩
          · go_wp2_with fail
            refine (HC.out _ hE).mono ?_
            rintro e w2 ⟨rfl, hE2⟩
            have HB2 := hid (blk_ext HB.out hE2)
            have hE3 := hE.trans hE2
            clear c0 c1 hE2 HB hs
            have c0 := blk_cell HB2.out 0
            have c1 := blk_cell HB2.out 1
            have hs := (Array.getElem?_eq_some_iff.1 HB2.out).1
            simp only [List.getElem?_toArray, List.getElem?_cons_zero, List.getElem?_cons_succ] at c0 c1
            go_wp2
            go_ret
            exact ⟨⟨_, rfl, fun _ => HNR.out⟩, hE3⟩
      · go_wp2_with fail
        refine (HC.out _ hE).mono ?_
        rintro e w2 ⟨rfl, hE2⟩
        have HB2 := hid (blk_ext HB.out hE2)
        have hE3 := hE.trans hE2
        clear c0 c1 hE2 HB hs
        have c0 := blk_cell HB2.out 0
        have c1 := blk_cell HB2.out 1
        have hs := (Array.getElem?_eq_some_iff.1 HB2.out).1
        simp only [List.getElem?_toArray, List.getElem?_cons_zero, List.getElem?_cons_succ] at c0 c1
        go_wp2
        go_ret
        exact ⟨⟨_, rfl, fun _ => HNR.out⟩, hE3⟩
end Go.Proofs.Ytbfmcclbbeobkaa
