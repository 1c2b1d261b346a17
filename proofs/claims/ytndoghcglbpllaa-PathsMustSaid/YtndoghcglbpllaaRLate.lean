/- Whether a place is reached too late, from another one at a minute, by so many paths. -/
import Derived.Test.YtndoghcglbpllaaSure
import Derived.Deep.RegionHeld3
set_option linter.unusedSimpArgs false
set_option linter.unusedVariables false
namespace Go.Proofs.Ytndoghcglbpllaa
open Go.RowKit
set_option maxRecDepth 100000 in
set_option maxHeartbeats 2000000 in
theorem rlate_any (g l pl ph : Int) (n c : Nat) (b off : Nat) (ps : List Pt) (hn : ps.length = n) (A : Option Addr) (m : Nat) (hm1 : 1 ≤ m) (hm2 : m ≤ 12) (hN : NOk m ps) (ha : PaOk l pl ph) (fr to_ : Nat) (hfr : fr < m) (hto : to_ < m) (D start : Int) (h0 : 0 ≤ start) (h1 : start ≤ 2881) (most : Nat) (hmost : most ≤ 1000)
    (w : World) (hA : 0 < n → A = some ⟨b, off, none⟩ ∧ b < w.heap.size) (hp : ∀ k, k < ps.length → ∃ A' c', PtAt w b (off + k * 8) (ps.getD k zeroPt) A' c')
    (q0 q2 q3 : Nat) (b0 : w.heap[q0]? = some (.cells (wbox (m : Int) g l pl ph A n c) 70 (0, 0))) (b2 : w.heap[q2]? = some (.cells #[.int .i64 (to_ : Int)] 3 (0, 0))) (b3 : w.heap[q3]? = some (.cells #[.int .i64 D] 3 (0, 0))) :
    Calls Try.prog 88 #[.int .i64 (fr : Int), .int .i64 start, .int .i64 (most : Int), .pointer (some ⟨q0, 0, none⟩), .pointer (some ⟨q2, 0, none⟩), .pointer (some ⟨q3, 0, none⟩)] w fun e w' =>
      e = .returned (.bool (decide (D < (rows selHi g l pl ph ps m fr start most).getD to_ 0))) ∧ Ext w w' := by
  have HS := hid (fun (W : World) (hE : Ext w W) => arrivals_sure g l pl ph n c b off ps hn A m hm1 hm2 hN ha fr hfr start h0 h1 most hmost W (fun h0 => ⟨(hA h0).1, Nat.lt_of_lt_of_le (hA h0).2 hE.size⟩)
      (fun k hk => by obtain ⟨A', c', h⟩ := hp k hk; exact ⟨A', c', h.ext (hA (by omega)).2 hE⟩))
  have hl1 := (rows_bd selHi_pos (g := g) ha hN (from_ := fr) h0 h1 most).1
  revert HS hl1
  generalize rows selHi g l pl ph ps m fr start most = xs
  intro HS hl1
  have c0 := blk_cell b0 0
  have c1 := blk_cell b0 1
  have c2 := blk_cell b0 2
  have c3 := blk_cell b0 3
  have c4 := blk_cell b0 4
  have c5 := blk_cell b0 5
  have c7 := blk_cell b2 0
  have c8 := blk_cell b3 0
  simp only [wbox, List.getElem?_toArray, List.getElem?_cons_zero, List.getElem?_cons_succ] at c0 c1 c2 c3 c4 c5 c7 c8 HS
  have s0 : q0 < w.heap.size := (Array.getElem?_eq_some_iff.1 b0).1
  have s2 : q2 < w.heap.size := (Array.getElem?_eq_some_iff.1 b2).1
  have s3 : q3 < w.heap.size := (Array.getElem?_eq_some_iff.1 b3).1
  have ht0 : (0 : Int) ≤ (to_ : Int) := by omega
  have ht1 : (to_ : Int) < (xs.length : Int) := by omega
  have HL := hid hl1
  clear hp hn hN ha hA hl1 b0 b2 b3
  go_enter Try.func88, Try.ntmps88
  go_wp2
  refine wp_region_held_drew (S := fun w' => (∀ b o, b < w.heap.size → w'.cell? ⟨b, o, none⟩ = w.cell? ⟨b, o, none⟩) ∧ w.heap.size ≤ w'.heap.size ∧ Ext w w') (by kernel_rfl) ?hS0 (fun hHeld => ?_)
  case hS0 => exact ⟨fun _ _ _ => rfl, Nat.le_refl _, Ext.drew (Ext.refl _)⟩
  refine wpAnyH_take (i := 0) (oi := _) (v := ?v0h) rfl (by kernel_rfl) (by kernel_rfl) (by kernel_rfl) (fun _ _ _ h => h) (Or.inl ⟨by rfl, ?y0h⟩) (by assumption) ?r0h
  case y0h => (intro w' hSw; (try dsimp only at hSw); go_simp; (try with_reducible rfl))
  try simp only [Act.put, List.getElem_toArray, List.getElem_cons_zero, List.getElem_cons_succ, List.setIfInBounds_toArray, List.set_cons_zero, List.set_cons_succ]
  refine wpAnyH_take (i := 1) (oi := _) (v := ?v1h) rfl (by kernel_rfl) (by kernel_rfl) (by kernel_rfl) (fun _ _ _ h => h) (Or.inl ⟨by rfl, ?y1h⟩) (by assumption) ?r1h
  case y1h => (intro w' hSw; (try dsimp only at hSw); go_simp; (try with_reducible rfl))
  try simp only [Act.put, List.getElem_toArray, List.getElem_cons_zero, List.getElem_cons_succ, List.setIfInBounds_toArray, List.set_cons_zero, List.set_cons_succ]
  refine wpAnyH_take (i := 2) (oi := _) (v := ?v2h) rfl (by kernel_rfl) (by kernel_rfl) (by kernel_rfl) (fun _ _ _ h => h) (Or.inl ⟨by rfl, ?y2h⟩) (by assumption) ?r2h
  case y2h => (intro w' hSw; (try dsimp only at hSw); go_simp; (try with_reducible rfl))
  try simp only [Act.put, List.getElem_toArray, List.getElem_cons_zero, List.getElem_cons_succ, List.setIfInBounds_toArray, List.set_cons_zero, List.set_cons_succ]
  refine wpAnyH_take (i := 3) (oi := _) (v := ?v3h) rfl (by kernel_rfl) (by kernel_rfl) (by kernel_rfl) (fun _ _ _ h => h) (Or.inl ⟨by rfl, ?y3h⟩) (by assumption) ?r3h
  case y3h => (intro w' hSw; (try dsimp only at hSw); go_simp; (try with_reducible rfl))
  try simp only [Act.put, List.getElem_toArray, List.getElem_cons_zero, List.getElem_cons_succ, List.setIfInBounds_toArray, List.set_cons_zero, List.set_cons_succ]
  refine wpAnyH_take (i := 5) (oi := _) (v := ?v5h) rfl (by kernel_rfl) (by kernel_rfl) (by kernel_rfl) (fun _ _ _ h => h) (Or.inl ⟨by rfl, ?y5h⟩) (by assumption) ?r5h
  case y5h => (intro w' hSw; (try dsimp only at hSw); go_simp; (try with_reducible rfl))
  try simp only [Act.put, List.getElem_toArray, List.getElem_cons_zero, List.getElem_cons_succ, List.setIfInBounds_toArray, List.set_cons_zero, List.set_cons_succ]
  refine wpAnyH_take (i := 8) (oi := _) (v := ?v8h) rfl (by kernel_rfl) (by kernel_rfl) (by kernel_rfl) (fun _ _ _ h => h) (Or.inl ⟨by rfl, ?y8h⟩) (by assumption) ?r8h
  case y8h => (intro w' hSw; (try dsimp only at hSw); go_simp; (try with_reducible rfl))
  try simp only [Act.put, List.getElem_toArray, List.getElem_cons_zero, List.getElem_cons_succ, List.setIfInBounds_toArray, List.set_cons_zero, List.set_cons_succ]
  refine wpAnyH_ready (rs := [4]) (by kernel_rfl) (by simp) ?_
  refine AllReadyH.cons (o := _) rfl (fun K hK => ?_) AllReadyH.nil
  go_simp
  refine (HS.out _ (Ext.drew (Ext.refl w))).mono ?_
  rintro e w2 ⟨g1, cap1, rfl, r1, z1, hE2⟩
  have hcr := r1.cell (k := to_) (by omega)
  have hx : Ext w w2 := (Ext.drew (Ext.refl w)).trans hE2
  clear hHeld
  dsimp only
  refine hK.out _ _ ⟨kcell (w1 := w.drew) (W := w) (fun _ _ _ => rfl) (Nat.le_refl _) hE2, hx.size, hx⟩ (fun hHeld => ?_)
  clear hK K
  try simp only [Act.put, List.getElem_toArray, List.getElem_cons_zero, List.getElem_cons_succ, List.setIfInBounds_toArray, List.set_cons_zero, List.set_cons_succ]
  refine wpAnyH_take (i := 6) (oi := _) (v := ?v6h) rfl (by kernel_rfl) (by kernel_rfl) (by kernel_rfl) (fun _ _ _ h => h) (Or.inl ⟨by rfl, ?y6h⟩) (by assumption) ?r6h
  case y6h => (intro w' hSw; (try dsimp only at hSw); go_simp; (try with_reducible rfl))
  try simp only [Act.put, List.getElem_toArray, List.getElem_cons_zero, List.getElem_cons_succ, List.setIfInBounds_toArray, List.set_cons_zero, List.set_cons_succ]
  have HH := hid hHeld
  clear hHeld
  refine wpAnyH_ready (rs := [7]) (by kernel_rfl) (by simp) ?_
  refine AllReadyH.cons (o := _) rfl (fun K hK => ?_) AllReadyH.nil
  go_simp
  refine hK.out _ _ HH.out (fun hHeld => ?_)
  clear hK K
  try simp only [Act.put, List.getElem_toArray, List.getElem_cons_zero, List.getElem_cons_succ, List.setIfInBounds_toArray, List.set_cons_zero, List.set_cons_succ]
  refine wpAnyH_take (i := 9) (oi := _) (v := ?v9h) rfl (by kernel_rfl) (by kernel_rfl) (by kernel_rfl) (fun _ _ _ h => h) (Or.inl ⟨by rfl, ?y9h⟩) (by assumption) ?r9h
  case y9h => (intro w' hSw; (try dsimp only at hSw); go_simp; (try with_reducible rfl))
  try simp only [Act.put, List.getElem_toArray, List.getElem_cons_zero, List.getElem_cons_succ, List.setIfInBounds_toArray, List.set_cons_zero, List.set_cons_succ]
  refine wpAnyH_take (i := 10) (oi := _) (v := ?v10h) rfl (by kernel_rfl) (by kernel_rfl) (by kernel_rfl) (fun _ _ _ h => h) (Or.inl ⟨by rfl, ?y10h⟩) (by assumption) ?r10h
  case y10h => (intro w' hSw; (try dsimp only at hSw); go_simp; (try with_reducible rfl))
  try simp only [Act.put, List.getElem_toArray, List.getElem_cons_zero, List.getElem_cons_succ, List.setIfInBounds_toArray, List.set_cons_zero, List.set_cons_succ]
  refine wpAnyH_done (by kernel_rfl) ?_ _
  go_wp2
  go_ret
  exact ⟨rfl, hx⟩
end Go.Proofs.Ytndoghcglbpllaa
