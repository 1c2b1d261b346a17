/- Copy. -/
import Derived.Test.YtndoghcglbpllaaCopy1
import Derived.Test.YtndoghcglbpllaaStab
import Derived.Test.YtndoghcglbpllaaRoute
set_option linter.unusedSimpArgs false
set_option linter.unusedVariables false
namespace Go.Proofs.Ytndoghcglbpllaa
open Go.RowKit
set_option maxRecDepth 100000 in
set_option maxHeartbeats 2000000 in
theorem copy_any (m : Int) (A : Option Addr) (n c : Nat) (ps : List Pt) (hn : ps.length = n) (hm : n ≤ 1000) (ho : ∀ k, k < n → (ps.getD k zeroPt).opens.length ≤ 1000) (w : World) (hp : PathsAt w A ps) :
    Calls Try.prog 14 #[.agg #[.int .i64 m, .slice A n c]] w fun e w' => ∃ v, e = .returned (.agg #[.int .i64 m, v]) ∧ CopyRow w' (w.heap.size + 3) v ps n ∧ Ext w w' := by
  have HP := hid hp
  have HN := hid hn
  have HO := hid ho
  have t0 := three_blocks w (.cells #[.int .i64 m, .slice A n c] 24) (.cells #[.int .i64 0, .slice none 0 0] 24) (.cells #[.int .i64 m, .slice none 0 0] 24)
  have B0 := hid t0.1
  have B1 := hid t0.2.1
  have B2 := hid t0.2.2
  clear hp hn ho t0
  go_enter Try.func14, Try.ntmps14
  go_wp2
  go_loopw [4] (fun i wr => Ext w wr ∧ Hid (wr.heap[w.heap.size]? = some (.cells #[.int .i64 m, .slice A n c] 24 (0, 0))) ∧ Hid (wr.heap[w.heap.size + 1]? = some (.cells #[.int .i64 0, .slice none 0 0] 24 (0, 0))) ∧
    ∃ (k : Nat) (v : Value), k ≤ n ∧ i = .int .i64 k ∧ Hid (wr.heap[w.heap.size + 1 + 1]? = some (.cells #[.int .i64 m, v] 24 (0, 0))) ∧ Hid (CopyRow wr (w.heap.size + 3) v ps k)) (fun i _ => n - (intOf i).toNat)
  case atStart => exact ⟨by (repeat' (first | with_reducible assumption | with_reducible exact Ext.refl _ | with_reducible refine Ext.alloc ?_ _ | with_reducible refine Ext.set ?_ ?_ _ | with_reducible refine Ext.drew ?_ | with_reducible refine Ext.drewN ?_ _ | with_reducible refine Ext.trans ?_ (by assumption) | (dsimp only; omega))), B0, B1, 0, _, Nat.zero_le _, rfl, B2, hid (CopyRow.nil _ _ _)⟩
  case round =>
    clear B0 B1 B2
    obtain ⟨hE, HB0, HB1, k, v, hk, rfl, HB2, HC⟩ := hrel
    have a0 := blk_cell HB0.out 0
    have a1 := blk_cell HB0.out 1
    have b0 := blk_cell HB2.out 0
    have b1 := blk_cell HB2.out 1
    have r0 := blk_cell HB1.out 0
    have r1 := blk_cell HB1.out 1
    have f0 := blk_fro HB2.out 0
    have f1 := blk_fro HB2.out 1
    have g0 := blk_fro HB1.out 0
    have g1 := blk_fro HB1.out 1
    simp only [List.getElem?_toArray, List.getElem?_cons_zero, List.getElem?_cons_succ] at a0 a1 b0 b1 r0 r1
    have z0 := (Array.getElem?_eq_some_iff.1 HB0.out).1
    have z1 := (Array.getElem?_eq_some_iff.1 HB1.out).1
    have z2 := (Array.getElem?_eq_some_iff.1 HB2.out).1
    by_cases hlt : k < n
    · obtain ⟨b, off, A', c', rfl, hb, hpt⟩ := (HP.out.ext hE).at_ HN.out hlt
      have hos := HO.out k hlt
      have hk0 : (0 : Int) ≤ (k : Int) := by omega
      have hk1 : (k : Int) < (n : Int) := by omega
      obtain ⟨p, hpq⟩ : ∃ p, ps.getD k zeroPt = p := ⟨_, rfl⟩
      rw [hpq] at hpt hos
      have HPQ := hid hpq
      clear hpq
      have HOP := hid hpt.opens
      obtain ⟨d0, d1, d2, d3, d4, d5, d6, d7, hcap, hop⟩ := hpt
      obtain ⟨f, d, gg, tl, th, sl, sh, os⟩ := p
      dsimp only at d0 d1 d2 d3 d4 d5 d6 d7 HOP hos
      clear hop hcap
      have t1 := two_blocks wr (.cells #[.int .i64 f, .int .i64 d, .int .i64 gg, .int .i64 tl, .int .i64 th, .int .i64 sl, .int .i64 sh, .slice A' os.length c'] 56) (.cells #[] 26)
      have HX := hid t1.1
      have HZ := hid t1.2.1
      have e1 : Ext wr ((wr.alloc (.cells #[.int .i64 f, .int .i64 d, .int .i64 gg, .int .i64 tl, .int .i64 th, .int .i64 sl, .int .i64 sh, .slice A' os.length c'] 56)).alloc (.cells #[] 26)) := ((Ext.refl wr).alloc _).alloc _
      have s1 : ((wr.alloc (.cells #[.int .i64 f, .int .i64 d, .int .i64 gg, .int .i64 tl, .int .i64 th, .int .i64 sl, .int .i64 sh, .slice A' os.length c'] 56)).alloc (.cells #[] 26)).heap.size = wr.heap.size + 2 := t1.2.2
      have n0 : ¬ w.heap.size = wr.heap.size := by omega
      have n1 : ¬ w.heap.size + 1 = wr.heap.size := by omega
      have n2 : ¬ w.heap.size + 1 + 1 = wr.heap.size := by omega
      clear t1
      have hgr : ∀ r, v.ownBlock = some r → w.heap.size + 3 ≤ r := fun r hr => (HC.out.block r hr).1
      go_wp2_with (first
        | (at_builtin; refine wpList_append_spans _ rfl rfl _ _ rfl (w.heap.size + 3) (wr.heap.size + 1) A' c' os (by rfl) HZ.out (by omega) (by rfl) (HOP.out.ext e1) hos ?_; intro A2 c2 w5 hso hg; have HSO := hid hso; have e5 : Ext wr w5 := ext_of_grown e1 hg (fun q hq => by injection hq with hq; omega); have x5 := hid ((hg.block wr.heap.size (by omega) (fun e => by injection e with e; omega)).trans HX.out); have y2 := hid (blk_ext HB2.out e5); clear hso hg a0 a1 b0 b1 r0 r1 f0 f1 g0 g1 d0 d1 d2 d3 d4 d5 d6 d7; have u0 := blk_cell x5.out 0; have u1 := blk_cell x5.out 1; have u2 := blk_cell x5.out 2; have u3 := blk_cell x5.out 3; have u4 := blk_cell x5.out 4; have u5 := blk_cell x5.out 5; have u6 := blk_cell x5.out 6; have u7 := blk_cell x5.out 7; have fu := blk_fro x5.out 7; have b0 := blk_cell y2.out 0; have b1 := blk_cell y2.out 1; simp only [List.getElem?_toArray, List.getElem?_cons_zero, List.getElem?_cons_succ] at u0 u1 u2 u3 u4 u5 u6 u7 b0 b1; have hz5 : wr.heap.size < w5.heap.size := (Array.getElem?_eq_some_iff.1 x5.out).1)
        | (at_builtin; refine wpList_append_path _ rfl rfl _ _ rfl (w.heap.size + 3) v ps k (by rfl) (HC.out.ext ((e5.set (by dsimp only; omega) _).alloc _)) (by simp; omega) (by omega) w5.heap.size A2 c2 (by rfl) (by rw [HPQ.out]; have h := heap_alloc_new (w5.setCell ⟨wr.heap.size, 7, none⟩ (.slice A2 os.length c2)) (.cells #[.int .i64 f, .int .i64 d, .int .i64 gg, .int .i64 tl, .int .i64 th, .int .i64 sl, .int .i64 sh, .slice A2 os.length c2] 56); rw [show (w5.setCell ⟨wr.heap.size, 7, none⟩ (.slice A2 os.length c2)).heap.size = w5.heap.size by simp] at h; exact h) (by rw [HPQ.out]; exact (HSO.out.set x5.out 7 _).keep fun q cs hq => blk_ext hq (ext_alloc1 _ _)) ?_; intro v' w8 hC8 hg8; obtain ⟨VA, vc, rfl⟩ := hC8.form; have HC8 := hid hC8; have e7 : Ext wr ((w5.setCell ⟨wr.heap.size, 7, none⟩ (.slice A2 os.length c2)).alloc (.cells #[.int .i64 f, .int .i64 d, .int .i64 gg, .int .i64 tl, .int .i64 th, .int .i64 sl, .int .i64 sh, .slice A2 os.length c2] 56)) := (e5.set (by dsimp only; omega) _).alloc _; have K0 := hid (grown_blk (B := w.heap.size + 3) (by omega) (blk_ext HB0.out e7) hg8 hgr); have K1 := hid (grown_blk (B := w.heap.size + 3) (by omega) (blk_ext HB1.out e7) hg8 hgr); have K2 := hid (grown_blk (B := w.heap.size + 3) (by omega) (blk_ext HB2.out e7) hg8 hgr); have E8 : Ext w w8 := ext_of_grown (hE.trans e7) hg8 (fun q hq => by have := hgr q hq; omega); clear hC8 hg8 e7 b0 b1 u0 u1 u2 u3 u4 u5 u6 u7 fu; have b1 := blk_cell K2.out 1; have fb := blk_fro K2.out 1; simp only [List.getElem?_toArray, List.getElem?_cons_zero, List.getElem?_cons_succ] at b1; have hz8 := (Array.getElem?_eq_some_iff.1 K2.out).1))
      have K9 := hid (heap_setCell_same w8 (w.heap.size + 1 + 1) 1 _ _ (.slice VA (k + 1) vc) K2.out)
      have HC9 := hid (CopyRow.keepB (w' := w8.setCell ⟨w.heap.size + 1 + 1, 1, none⟩ (.slice VA (k + 1) vc)) HC8.out fun q o hq h => (Below.heap_setCell w8 _ _ q (by dsimp only; omega)).trans h)
      have G0 := hid ((Below.heap_setCell w8 ⟨w.heap.size + 1 + 1, 1, none⟩ (.slice VA (k + 1) vc) w.heap.size (by dsimp only; omega)).trans K0.out)
      have G1 := hid ((Below.heap_setCell w8 ⟨w.heap.size + 1 + 1, 1, none⟩ (.slice VA (k + 1) vc) (w.heap.size + 1) (by dsimp only; omega)).trans K1.out)
      go_roundw
      case rel => exact ⟨E8.set (by dsimp only; omega) _, G0, G1, k + 1, .slice VA (k + 1) vc, by omega, by go_num, K9, HC9⟩
      case measure => (simp [intOf] <;> omega)
    · obtain rfl : k = n := by omega
      obtain ⟨VA, vc, rfl⟩ := HC.out.form
      have HC9 := hid (CopyRow.keepB (w' := (wr.setCell ⟨w.heap.size + 1, 0, none⟩ (.int .i64 m)).setCell ⟨w.heap.size + 1, 1, none⟩ (.slice VA k vc)) HC.out fun q o hq h => (Below.heap_setCell _ _ _ q (by dsimp only; omega)).trans ((Below.heap_setCell wr _ _ q (by dsimp only; omega)).trans h))
      go_wp2
      exact bodyPost_ret (v := .agg #[.int .i64 m, .slice VA k vc]) (by simp [results, Try.results14, go_sem, r0, r1]) rfl ⟨_, rfl, HC9.out, by (repeat' (first | with_reducible assumption | with_reducible exact Ext.refl _ | with_reducible refine Ext.alloc ?_ _ | with_reducible refine Ext.set ?_ ?_ _ | with_reducible refine Ext.drew ?_ | with_reducible refine Ext.drewN ?_ _ | with_reducible refine Ext.trans ?_ (by assumption) | (dsimp only; omega)))⟩
end Go.Proofs.Ytndoghcglbpllaa
