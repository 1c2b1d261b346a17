/- The lowest arrivals on routes of at most so many paths. -/
import Derived.Test.YtndoghcglbpllaaPMore
import Derived.Test.YtndoghcglbpllaaRepeat
set_option linter.unusedSimpArgs false
set_option linter.unusedVariables false
namespace Go.Proofs.Ytndoghcglbpllaa
open Go.RowKit

theorem arrive_bd {sel : Int → Int → Int} (hsel : ∀ a b, 1 ≤ a → 1 ≤ b → 0 ≤ sel a b) {l pl ph : Int} (ha : PaOk l pl ph) {p : Pt} (hp : PtOk p) {t : Int} (ht : 0 ≤ t) : 0 ≤ arrive sel l pl ph p t ∧ arrive sel l pl ph p t ≤ 2881 := by
  obtain ⟨t1, t2, t3, s1, s2, s3, hos⟩ := hp
  obtain ⟨p1, p2, p3, l1, l2⟩ := ha
  have ⟨b1, b2⟩ := enter_bd (never := 2881) p.opens ht (by omega)
  have ⟨b3, b4⟩ := timeOf_bd t1 (by omega) p1 (by omega) s1 (by omega) l1 l2
  have ⟨b5, b6⟩ := timeOf_bd (t := p.th) (p := ph) (s := p.sh) (by omega) t3 (by omega) p3 (by omega) s3 l1 l2
  have h := hsel _ _ b3 b5
  unfold arrive
  omega
theorem selHi_pos : ∀ a b : Int, 1 ≤ a → 1 ≤ b → 0 ≤ selHi a b := fun _ _ _ h => by unfold selHi; omega
theorem selLo_pos : ∀ a b : Int, 1 ≤ a → 1 ≤ b → 0 ≤ selLo a b := fun _ _ h _ => by unfold selLo; omega

def BdRow (m : Nat) (xs : List Int) : Prop := xs.length = m ∧ ∀ k, k < m → 0 ≤ xs.getD k 0 ∧ xs.getD k 0 ≤ 2881
theorem bd_set {m : Nat} {xs : List Int} (h : BdRow m xs) (i : Nat) {v : Int} (h0 : 0 ≤ v) (h1 : v ≤ 2881) : BdRow m (xs.set i v) := by
  refine ⟨by simpa using h.1, fun k hk => ?_⟩
  have hl : k < xs.length := by rw [h.1]; exact hk
  by_cases hik : i = k
  · subst hik
    simp [List.getD, hl, h0, h1]
  · have := h.2 k hk
    simpa [List.getD, List.getElem?_set_ne hik] using this
theorem pmFold_bd {sel : Int → Int → Int} (hsel : ∀ a b, 1 ≤ a → 1 ≤ b → 0 ≤ sel a b) {l pl ph : Int} (ha : PaOk l pl ph) {m : Nat} {ps : List Pt} (hN : NOk m ps) {low : List Int} (hlow : BdRow m low) (is : List Nat) (his : ∀ i, i ∈ is → i < ps.length) : BdRow m (pmFold sel l pl ph ps low is) := by
  unfold pmFold
  suffices h : ∀ (is : List Nat), (∀ i, i ∈ is → i < ps.length) → ∀ acc, BdRow m acc → BdRow m (is.foldl (pmStep sel l pl ph ps low) acc) from h is his low hlow
  intro is
  induction is with
  | nil => intro _ acc h; exact h
  | cons i is ih =>
    intro hi acc h
    rw [List.foldl_cons]
    refine ih (fun j hj => hi j (List.mem_cons_of_mem _ hj)) _ ?_
    have hil := hi i List.mem_cons_self
    have hd := hN.dst i hil
    have hf := hN.frm i hil
    have h1 := h.2 (ps.getD i zeroPt).dst.toNat (by omega)
    have h2 := hlow.2 (ps.getD i zeroPt).frm.toNat (by omega)
    have h3 := arrive_bd hsel ha (hN.ok i hil) h2.1
    exact bd_set h _ (by omega) (by omega)
theorem walkIdx_mem {ps : List Pt} {g : Int} {n i : Nat} (h : i ∈ walkIdx ps g n) : i < n := by
  unfold walkIdx at h
  have := (List.mem_filter.1 h).1
  simpa using this

/-- The lowest arrivals on routes of at most k paths. -/
def rows (sel : Int → Int → Int) (g l pl ph : Int) (ps : List Pt) (m from_ : Nat) (start : Int) : Nat → List Int
  | 0 => (List.replicate m 2881).set from_ start
  | k + 1 => pmFold sel l pl ph ps (rows sel g l pl ph ps m from_ start k) (walkIdx ps g ps.length)
theorem rows_bd {sel : Int → Int → Int} (hsel : ∀ a b, 1 ≤ a → 1 ≤ b → 0 ≤ sel a b) {g l pl ph : Int} (ha : PaOk l pl ph) {m : Nat} {ps : List Pt} (hN : NOk m ps) {from_ : Nat} {start : Int} (h0 : 0 ≤ start) (h1 : start ≤ 2881) : ∀ k, BdRow m (rows sel g l pl ph ps m from_ start k)
  | 0 => bd_set ⟨by simp, fun k hk => by simp [List.getD, hk]⟩ _ h0 h1
  | k + 1 => pmFold_bd hsel ha hN (rows_bd hsel ha hN h0 h1 k) _ (fun _ h => walkIdx_mem h)

set_option maxRecDepth 100000 in
set_option maxHeartbeats 2000000 in
theorem arrivals_sure (g l pl ph : Int) (n c : Nat) (b off : Nat) (ps : List Pt) (hn : ps.length = n) (A : Option Addr) (m : Nat) (hm1 : 1 ≤ m) (hm2 : m ≤ 12) (hN : NOk m ps) (ha : PaOk l pl ph) (fr : Nat) (hfr : fr < m) (start : Int) (h0 : 0 ≤ start) (h1 : start ≤ 2881) (most : Nat) (hmost : most ≤ 1000)
    (w : World) (hA : 0 < n → A = some ⟨b, off, none⟩ ∧ b < w.heap.size) (hp : ∀ k, k < ps.length → ∃ A' c', PtAt w b (off + k * 8) (ps.getD k zeroPt) A' c') :
    Calls Try.prog 85 #[.agg (wbox (m : Int) g l pl ph A n c), .int .i64 (fr : Int), .int .i64 start, .int .i64 (most : Int), .func (.func 70) #[] #[]] w (NewRow (rows selHi g l pl ph ps m fr start most) w) := by
  have HB := hid (fun k => rows_bd selHi_pos (g := g) ha hN (from_ := fr) h0 h1 k)
  have HM := hid (fun (k : Nat) (bl ol cl : Nat) (W : World) (hE : Ext w W) (hl : IntsAt W (some ⟨bl, ol, none⟩) (rows selHi g l pl ph ps m fr start k)) =>
    pathMore_sure g l pl ph n c b off ps hn A bl ol cl (rows selHi g l pl ph ps m fr start k) (by rw [(HB.out k).1]; exact hm2) (by rw [(HB.out k).1]; exact hm1) (by rw [(HB.out k).1]; exact hN) ha (by rw [(HB.out k).1]; exact (HB.out k).2) (m : Int) W (fun h0 => ⟨(hA h0).1, Nat.lt_of_lt_of_le (hA h0).2 hE.size⟩)
      (fun k hk => by obtain ⟨A', c', h⟩ := hp k hk; exact ⟨A', c', h.ext (hA (by omega)).2 hE⟩) hl)
  have HR := hid (fun (b off c : Nat) (W : World) (hb : b < W.heap.size) (hx : W.cell? ⟨b, off, none⟩ = some (.int .i64 2881)) => repeat_any b off c 2881 m hm1 hm2 W hb hx)
  have HNN := hid hn
  clear hp hn hN hA
  have hfi0 : (0 : Int) ≤ (fr : Int) := by omega
  have hfi1 : (fr : Int) < (m : Int) := by omega
  go_enter Try.func85, Try.ntmps85
  simp only [wbox]
  go_wp2_with fail
  refine (HR.out _ _ _ _ (by simp) (by go_simp)).mono ?_
  rintro e w1 ⟨gr, cap, rfl, hrow, hgr, hE⟩
  (first | (have hK := KC.step (n := w.heap.size + 1) (by with_reducible assumption) hE) | (have hK := KC.step (KC.step (n := w.heap.size + 1) (by with_reducible assumption) (ext_alloc1 _ _)) hE) | (have hK := KC.step (KC.refl (n := w.heap.size + 1) (by simp)) hE)); have hC := hK.cell; have hF := hK.fro; have hX := hK.ext
  rw [List.length_replicate]
  have hr0 := hrow.cell (k := fr) (by simp; exact hfr)
  have hrf := hrow.fro fr
  have XR := hid (show RowAt (w1.setCell ⟨gr, fr, none⟩ (.int .i64 start)) gr cap (rows selHi g l pl ph ps m fr start 0) from hrow.set fr start)
  have gw : w.heap.size + 1 ≤ gr := by simp at hgr; omega
  have hsz := hK.size
  have B0 := hid (blk_ext (blk_ext (heap_alloc_new w (.cells (wbox (m : Int) g l pl ph A n c) 70)) (ext_alloc1 _ _)) hE)
  have EW : Ext w w1 := by (repeat' (first | with_reducible assumption | with_reducible exact Ext.refl _ | with_reducible refine Ext.alloc ?_ _ | with_reducible refine Ext.set ?_ ?_ _ | with_reducible refine Ext.drew ?_ | with_reducible refine Ext.drewN ?_ _ | with_reducible refine Ext.trans ?_ (by assumption) | (dsimp only; omega)))
  have hgw : w.heap.size ≠ gr := by omega
  have B1 := hid ((Below.heap_setCell w1 ⟨gr, fr, none⟩ (.int .i64 start) w.heap.size hgw).trans B0.out)
  have EW1 : Ext w (w1.setCell ⟨gr, fr, none⟩ (.int .i64 start)) := EW.set (by dsimp only; omega) _
  have HG := hid (show w.heap.size ≤ gr by omega)
  clear hrow hgr hE hK hC hX B0 EW HR hgw gw hsz
  go_wp2_with fail
  clear hr0 hrf hF
  go_loopw [11, 22] (fun s i wr => Ext w wr ∧ Hid (wr.heap[w.heap.size]? = some (.cells (wbox (m : Int) g l pl ph A n c) 70 (0, 0))) ∧ ∃ (k gr cap : Nat), k ≤ most ∧ i = .int .i64 k ∧ s = .slice (some ⟨gr, 0, none⟩) m cap ∧ w.heap.size ≤ gr ∧ Hid (RowAt wr gr cap (rows selHi g l pl ph ps m fr start k))) (fun _ i _ => most - (intOf i).toNat)
  case atStart => exact ⟨EW1, B1, 0, gr, cap, Nat.zero_le _, rfl, rfl, HG.out, XR⟩
  case round =>
    clear XR HG EW1 B1
    obtain ⟨hE1, HBX, k, g2, cap2, hk, rfl, rfl, hg2, XR⟩ := hrel
    by_cases hlt : k < most
    · have c0 := blk_cell HBX.out 0
      have c1 := blk_cell HBX.out 1
      have c2 := blk_cell HBX.out 2
      have c3 := blk_cell HBX.out 3
      have c4 := blk_cell HBX.out 4
      have c5 := blk_cell HBX.out 5
      simp only [wbox, List.getElem?_toArray, List.getElem?_cons_zero, List.getElem?_cons_succ] at c0 c1 c2 c3 c4 c5
      go_wp2_with fail
      have hmm := HM.out k g2 0 cap2 wr hE1 XR.out.ints
      rw [(HB.out k).1] at hmm
      refine hmm.mono ?_
      clear hmm
      rintro e w2 ⟨g3, cap3, rfl, hrow3, hg3, hE⟩
      have hln := (HB.out (k + 1)).1
      rw [rows, HNN.out] at hln
      clear c0 c1 c2 c3 c4 c5
      have XR3 := hid (show RowAt w2 g3 cap3 (rows selHi g l pl ph ps m fr start (k + 1)) by rw [rows, HNN.out]; exact hrow3)
      have HBX2 := hid (blk_ext HBX.out hE)
      have hE2 := hE1.trans hE
      rw [hln]
      clear hln hrow3 hE XR
      go_wp2
      go_roundw
      case rel => exact ⟨hE2, HBX2, k + 1, g3, cap3, by omega, by go_num, rfl, by have := hE1.size; omega, XR3⟩
      case measure => simp [intOf]; omega
    · obtain rfl : k = most := by omega
      have hln := hid (HB.out k).1
      go_wp2
      go_ret
      exact NewRow.mk (by rw [hln.out]; rfl) XR.out hg2 hE1
set_option maxRecDepth 100000 in
set_option maxHeartbeats 2000000 in
theorem arrivals_best (g l pl ph : Int) (n c : Nat) (b off : Nat) (ps : List Pt) (hn : ps.length = n) (A : Option Addr) (m : Nat) (hm1 : 1 ≤ m) (hm2 : m ≤ 12) (hN : NOk m ps) (ha : PaOk l pl ph) (fr : Nat) (hfr : fr < m) (start : Int) (h0 : 0 ≤ start) (h1 : start ≤ 2881) (most : Nat) (hmost : most ≤ 1000)
    (w : World) (hA : 0 < n → A = some ⟨b, off, none⟩ ∧ b < w.heap.size) (hp : ∀ k, k < ps.length → ∃ A' c', PtAt w b (off + k * 8) (ps.getD k zeroPt) A' c') :
    Calls Try.prog 85 #[.agg (wbox (m : Int) g l pl ph A n c), .int .i64 (fr : Int), .int .i64 start, .int .i64 (most : Int), .func (.func 87) #[] #[]] w (NewRow (rows selLo g l pl ph ps m fr start most) w) := by
  have HB := hid (fun k => rows_bd selLo_pos (g := g) ha hN (from_ := fr) h0 h1 k)
  have HM := hid (fun (k : Nat) (bl ol cl : Nat) (W : World) (hE : Ext w W) (hl : IntsAt W (some ⟨bl, ol, none⟩) (rows selLo g l pl ph ps m fr start k)) =>
    pathMore_best g l pl ph n c b off ps hn A bl ol cl (rows selLo g l pl ph ps m fr start k) (by rw [(HB.out k).1]; exact hm2) (by rw [(HB.out k).1]; exact hm1) (by rw [(HB.out k).1]; exact hN) ha (by rw [(HB.out k).1]; exact (HB.out k).2) (m : Int) W (fun h0 => ⟨(hA h0).1, Nat.lt_of_lt_of_le (hA h0).2 hE.size⟩)
      (fun k hk => by obtain ⟨A', c', h⟩ := hp k hk; exact ⟨A', c', h.ext (hA (by omega)).2 hE⟩) hl)
  have HR := hid (fun (b off c : Nat) (W : World) (hb : b < W.heap.size) (hx : W.cell? ⟨b, off, none⟩ = some (.int .i64 2881)) => repeat_any b off c 2881 m hm1 hm2 W hb hx)
  have HNN := hid hn
  clear hp hn hN hA
  have hfi0 : (0 : Int) ≤ (fr : Int) := by omega
  have hfi1 : (fr : Int) < (m : Int) := by omega
  go_enter Try.func85, Try.ntmps85
  simp only [wbox]
  go_wp2_with fail
  refine (HR.out _ _ _ _ (by simp) (by go_simp)).mono ?_
  rintro e w1 ⟨gr, cap, rfl, hrow, hgr, hE⟩
  (first | (have hK := KC.step (n := w.heap.size + 1) (by with_reducible assumption) hE) | (have hK := KC.step (KC.step (n := w.heap.size + 1) (by with_reducible assumption) (ext_alloc1 _ _)) hE) | (have hK := KC.step (KC.refl (n := w.heap.size + 1) (by simp)) hE)); have hC := hK.cell; have hF := hK.fro; have hX := hK.ext
  rw [List.length_replicate]
  have hr0 := hrow.cell (k := fr) (by simp; exact hfr)
  have hrf := hrow.fro fr
  have XR := hid (show RowAt (w1.setCell ⟨gr, fr, none⟩ (.int .i64 start)) gr cap (rows selLo g l pl ph ps m fr start 0) from hrow.set fr start)
  have gw : w.heap.size + 1 ≤ gr := by simp at hgr; omega
  have hsz := hK.size
  have B0 := hid (blk_ext (blk_ext (heap_alloc_new w (.cells (wbox (m : Int) g l pl ph A n c) 70)) (ext_alloc1 _ _)) hE)
  have EW : Ext w w1 := by (repeat' (first | with_reducible assumption | with_reducible exact Ext.refl _ | with_reducible refine Ext.alloc ?_ _ | with_reducible refine Ext.set ?_ ?_ _ | with_reducible refine Ext.drew ?_ | with_reducible refine Ext.drewN ?_ _ | with_reducible refine Ext.trans ?_ (by assumption) | (dsimp only; omega)))
  have hgw : w.heap.size ≠ gr := by omega
  have B1 := hid ((Below.heap_setCell w1 ⟨gr, fr, none⟩ (.int .i64 start) w.heap.size hgw).trans B0.out)
  have EW1 : Ext w (w1.setCell ⟨gr, fr, none⟩ (.int .i64 start)) := EW.set (by dsimp only; omega) _
  have HG := hid (show w.heap.size ≤ gr by omega)
  clear hrow hgr hE hK hC hX B0 EW HR hgw gw hsz
  go_wp2_with fail
  clear hr0 hrf hF
  go_loopw [11, 22] (fun s i wr => Ext w wr ∧ Hid (wr.heap[w.heap.size]? = some (.cells (wbox (m : Int) g l pl ph A n c) 70 (0, 0))) ∧ ∃ (k gr cap : Nat), k ≤ most ∧ i = .int .i64 k ∧ s = .slice (some ⟨gr, 0, none⟩) m cap ∧ w.heap.size ≤ gr ∧ Hid (RowAt wr gr cap (rows selLo g l pl ph ps m fr start k))) (fun _ i _ => most - (intOf i).toNat)
  case atStart => exact ⟨EW1, B1, 0, gr, cap, Nat.zero_le _, rfl, rfl, HG.out, XR⟩
  case round =>
    clear XR HG EW1 B1
    obtain ⟨hE1, HBX, k, g2, cap2, hk, rfl, rfl, hg2, XR⟩ := hrel
    by_cases hlt : k < most
    · have c0 := blk_cell HBX.out 0
      have c1 := blk_cell HBX.out 1
      have c2 := blk_cell HBX.out 2
      have c3 := blk_cell HBX.out 3
      have c4 := blk_cell HBX.out 4
      have c5 := blk_cell HBX.out 5
      simp only [wbox, List.getElem?_toArray, List.getElem?_cons_zero, List.getElem?_cons_succ] at c0 c1 c2 c3 c4 c5
      go_wp2_with fail
      have hmm := HM.out k g2 0 cap2 wr hE1 XR.out.ints
      rw [(HB.out k).1] at hmm
      refine hmm.mono ?_
      clear hmm
      rintro e w2 ⟨g3, cap3, rfl, hrow3, hg3, hE⟩
      have hln := (HB.out (k + 1)).1
      rw [rows, HNN.out] at hln
      clear c0 c1 c2 c3 c4 c5
      have XR3 := hid (show RowAt w2 g3 cap3 (rows selLo g l pl ph ps m fr start (k + 1)) by rw [rows, HNN.out]; exact hrow3)
      have HBX2 := hid (blk_ext HBX.out hE)
      have hE2 := hE1.trans hE
      rw [hln]
      clear hln hrow3 hE XR
      go_wp2
      go_roundw
      case rel => exact ⟨hE2, HBX2, k + 1, g3, cap3, by omega, by go_num, rfl, by have := hE1.size; omega, XR3⟩
      case measure => simp [intOf]; omega
    · obtain rfl : k = most := by omega
      have hln := hid (HB.out k).1
      go_wp2
      go_ret
      exact NewRow.mk (by rw [hln.out]; rfl) XR.out hg2 hE1
end Go.Proofs.Ytndoghcglbpllaa
