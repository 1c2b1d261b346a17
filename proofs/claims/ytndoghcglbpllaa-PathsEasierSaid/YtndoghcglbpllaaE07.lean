/- The lowest arrivals on routes of at most so many paths. -/
import Derived.Test.YtndoghcglbpllaaE05
import Derived.Test.YtndoghcglbpllaaE02
import Derived.Deep.RegionHeld3
set_option linter.unusedSimpArgs false
set_option linter.unusedVariables false
namespace Go.Proofs.Ytndoghcglbpllaa
open Go.RowKit

theorem arrive_bd {sel : Int → Int → Int} (hsel : ∀ a b, 1 ≤ a → 1 ≤ b → 0 ≤ sel a b) {l pl ph : Int} (ha : PaOk l pl ph) {p : Pt} (hp : PtOk p) {t : Int} (ht : 0 ≤ t) : 0 ≤ arrive sel l pl ph p t ∧ arrive sel l pl ph p t ≤ 2881 := by
  obtain ⟨t1, t2, t3, s1, s2, s3, hos⟩ := hp
  obtain ⟨p1, p2, p3, l1, l2⟩ := ha
  have ⟨b1, b2⟩ := enter_bd (never := 2881) p.opens ht (by omega)
  have ⟨b3, b4⟩ := timeOf_bd t1 (by omega) p1 (by omega) s1 (by omega) l1 l2
  have ⟨b5, b6⟩ := timeOf_bd (t := p.th) (p := ph) (s := p.sh) (by omega) t3 (by omega) p3 (by omega) s3 l1 l2
  have h := hsel _ _ b3 b5
  unfold arrive
  omega
theorem selHi_pos : ∀ a b : Int, 1 ≤ a → 1 ≤ b → 0 ≤ selHi a b := fun _ _ _ h => by unfold selHi; omega
theorem selLo_pos : ∀ a b : Int, 1 ≤ a → 1 ≤ b → 0 ≤ selLo a b := fun _ _ h _ => by unfold selLo; omega

def BdRow (m : Nat) (xs : List Int) : Prop := xs.length = m ∧ ∀ k, k < m → 0 ≤ xs.getD k 0 ∧ xs.getD k 0 ≤ 2881
theorem bd_set {m : Nat} {xs : List Int} (h : BdRow m xs) (i : Nat) {v : Int} (h0 : 0 ≤ v) (h1 : v ≤ 2881) : BdRow m (xs.set i v) := by
  refine ⟨by simpa using h.1, fun k hk => ?_⟩
  have hl : k < xs.length := by rw [h.1]; exact hk
  by_cases hik : i = k
  · subst hik
    simp [List.getD, hl, h0, h1]
  · have := h.2 k hk
    simpa [List.getD, List.getElem?_set_ne hik] using this
theorem pmFold_bd {sel : Int → Int → Int} (hsel : ∀ a b, 1 ≤ a → 1 ≤ b → 0 ≤ sel a b) {l pl ph : Int} (ha : PaOk l pl ph) {m : Nat} {ps : List Pt} (hN : NOk m ps) {low : List Int} (hlow : BdRow m low) (is : List Nat) (his : ∀ i, i ∈ is → i < ps.length) : BdRow m (pmFold sel l pl ph ps low is) := by
  unfold pmFold
  suffices h : ∀ (is : List Nat), (∀ i, i ∈ is → i < ps.length) → ∀ acc, BdRow m acc → BdRow m (is.foldl (pmStep sel l pl ph ps low) acc) from h is his low hlow
  intro is
  induction is with
  | nil => intro _ acc h; exact h
  | cons i is ih =>
    intro hi acc h
    rw [List.foldl_cons]
    refine ih (fun j hj => hi j (List.mem_cons_of_mem _ hj)) _ ?_
    have hil := hi i List.mem_cons_self
    have hd := hN.dst i hil
    have hf := hN.frm i hil
    have h1 := h.2 (ps.getD i zeroPt).dst.toNat (by omega)
    have h2 := hlow.2 (ps.getD i zeroPt).frm.toNat (by omega)
    have h3 := arrive_bd hsel ha (hN.ok i hil) h2.1
    exact bd_set h _ (by omega) (by omega)
theorem walkIdx_mem {ps : List Pt} {g : Int} {n i : Nat} (h : i ∈ walkIdx ps g n) : i < n := by
  unfold walkIdx at h
  have := (List.mem_filter.1 h).1
  simpa using this

/-- The lowest arrivals on routes of at most k paths. -/
def rows (sel : Int → Int → Int) (g l pl ph : Int) (ps : List Pt) (m from_ : Nat) (start : Int) : Nat → List Int
  | 0 => (List.replicate m 2881).set from_ start
  | k + 1 => pmFold sel l pl ph ps (rows sel g l pl ph ps m from_ start k) (walkIdx ps g ps.length)
theorem rows_bd {sel : Int → Int → Int} (hsel : ∀ a b, 1 ≤ a → 1 ≤ b → 0 ≤ sel a b) {g l pl ph : Int} (ha : PaOk l pl ph) {m : Nat} {ps : List Pt} (hN : NOk m ps) {from_ : Nat} {start : Int} (h0 : 0 ≤ start) (h1 : start ≤ 2881) : ∀ k, BdRow m (rows sel g l pl ph ps m from_ start k)
  | 0 => bd_set ⟨by simp, fun k hk => by simp [List.getD, hk]⟩ _ h0 h1
  | k + 1 => pmFold_bd hsel ha hN (rows_bd hsel ha hN h0 h1 k) _ (fun _ h => walkIdx_mem h)

set_option maxRecDepth 100000 in
set_option maxHeartbeats 2000000 in
theorem arrivals_sure (g l pl ph : Int) (n c : Nat) (b off : Nat) (ps : List Pt) (hn : ps.length = n) (A : Option Addr) (m : Nat) (hm1 : 1 ≤ m) (hm2 : m ≤ 12) (hN : NOk m ps) (ha : PaOk l pl ph) (fr : Nat) (hfr : fr < m) (start : Int) (h0 : 0 ≤ start) (h1 : start ≤ 2881) (most : Nat) (hmost : most ≤ 1000)
    (w : World) (hA : 0 < n → A = some ⟨b, off, none⟩ ∧ b < w.heap.size) (hp : ∀ k, k < ps.length → ∃ A' c', PtAt w b (off + k * 8) (ps.getD k zeroPt) A' c') :
    Calls Try.prog 85 #[.agg (wbox (m : Int) g l pl ph A n c), .int .i64 (fr : Int), .int .i64 start, .int .i64 (most : Int), .func (.func 70) #[] #[]] w (NewRow (rows selHi g l pl ph ps m fr start most) w) := by
  have HB := hid (fun k => rows_bd selHi_pos (g := g) ha hN (from_ := fr) h0 h1 k)
  have HM := hid (fun (k : Nat) (bl ol cl : Nat) (W : World) (hE : Ext w W) (hl : IntsAt W (some ⟨bl, ol, none⟩) (rows selHi g l pl ph ps m fr start k)) =>
    pathMore_sure g l pl ph n c b off ps hn A bl ol cl (rows selHi g l pl ph ps m fr start k) (by rw [(HB.out k).1]; exact hm2) (by rw [(HB.out k).1]; exact hm1) (by rw [(HB.out k).1]; exact hN) ha (by rw [(HB.out k).1]; exact (HB.out k).2) (m : Int) W (fun h0 => ⟨(hA h0).1, Nat.lt_of_lt_of_le (hA h0).2 hE.size⟩)
      (fun k hk => by obtain ⟨A', c', h⟩ := hp k hk; exact ⟨A', c', h.ext (hA (by omega)).2 hE⟩) hl)
  have HR := hid (fun (b off c : Nat) (W : World) (hb : b < W.heap.size) (hx : W.cell? ⟨b, off, none⟩ = some (.int .i64 2881)) => repeat_any b off c 2881 m hm1 hm2 W hb hx)
  have HNN := hid hn
  clear hp hn hN hA
  have hfi0 : (0 : Int) ≤ (fr : Int) := by omega
  have hfi1 : (fr : Int) < (m : Int) := by omega
  go_enter Try.func85, Try.ntmps85
  simp only [wbox]
  go_wp2_with fail
  refine (HR.out _ _ _ _ (by simp) (by go_simp)).mono ?_
  rintro e w1 ⟨gr, cap, rfl, hrow, hgr, hE⟩
  (first | (have hK := KC.step (n := w.heap.size + 1) (by with_reducible assumption) hE) | (have hK := KC.step (KC.step (n := w.heap.size + 1) (by with_reducible assumption) (ext_alloc1 _ _)) hE) | (have hK := KC.step (KC.refl (n := w.heap.size + 1) (by simp)) hE)); have hC := hK.cell; have hF := hK.fro; have hX := hK.ext
  rw [List.length_replicate]
  have hr0 := hrow.cell (k := fr) (by simp; exact hfr)
  have hrf := hrow.fro fr
  have XR := hid (show RowAt (w1.setCell ⟨gr, fr, none⟩ (.int .i64 start)) gr cap (rows selHi g l pl ph ps m fr start 0) from hrow.set fr start)
  have gw : w.heap.size + 1 ≤ gr := by simp at hgr; omega
  have hsz := hK.size
  have B0 := hid (blk_ext (blk_ext (heap_alloc_new w (.cells (wbox (m : Int) g l pl ph A n c) 70)) (ext_alloc1 _ _)) hE)
  have EW : Ext w w1 := by (repeat' (first | with_reducible assumption | with_reducible exact Ext.refl _ | with_reducible refine Ext.alloc ?_ _ | with_reducible refine Ext.set ?_ ?_ _ | with_reducible refine Ext.drew ?_ | with_reducible refine Ext.drewN ?_ _ | with_reducible refine Ext.trans ?_ (by assumption) | (dsimp only; omega)))
  have hgw : w.heap.size ≠ gr := by omega
  have B1 := hid ((Below.heap_setCell w1 ⟨gr, fr, none⟩ (.int .i64 start) w.heap.size hgw).trans B0.out)
  have EW1 : Ext w (w1.setCell ⟨gr, fr, none⟩ (.int .i64 start)) := EW.set (by dsimp only; omega) _
  have HG := hid (show w.heap.size ≤ gr by omega)
  clear hrow hgr hE hK hC hX B0 EW HR hgw gw hsz
  go_wp2_with fail
  clear hr0 hrf hF
  go_loopw [11, 22] (fun s i wr => Ext w wr ∧ Hid (wr.heap[w.heap.size]? = some (.cells (wbox (m : Int) g l pl ph A n c) 70 (0, 0))) ∧ ∃ (k gr cap : Nat), k ≤ most ∧ i = .int .i64 k ∧ s = .slice (some ⟨gr, 0, none⟩) m cap ∧ w.heap.size ≤ gr ∧ Hid (RowAt wr gr cap (rows selHi g l pl ph ps m fr start k))) (fun _ i _ => most - (intOf i).toNat)
  case atStart => exact ⟨EW1, B1, 0, gr, cap, Nat.zero_le _, rfl, rfl, HG.out, XR⟩
  case round =>
    clear XR HG EW1 B1
    obtain ⟨hE1, HBX, k, g2, cap2, hk, rfl, rfl, hg2, XR⟩ := hrel
    by_cases hlt : k < most
    · have c0 := blk_cell HBX.out 0
      have c1 := blk_cell HBX.out 1
      have c2 := blk_cell HBX.out 2
      have c3 := blk_cell HBX.out 3
      have c4 := blk_cell HBX.out 4
      have c5 := blk_cell HBX.out 5
      simp only [wbox, List.getElem?_toArray, List.getElem?_cons_zero, List.getElem?_cons_succ] at c0 c1 c2 c3 c4 c5
      go_wp2_with fail
      have hmm := HM.out k g2 0 cap2 wr hE1 XR.out.ints
      rw [(HB.out k).1] at hmm
      refine hmm.mono ?_
      clear hmm
      rintro e w2 ⟨g3, cap3, rfl, hrow3, hg3, hE⟩
      have hln := (HB.out (k + 1)).1
      rw [rows, HNN.out] at hln
      clear c0 c1 c2 c3 c4 c5
      have XR3 := hid (show RowAt w2 g3 cap3 (rows selHi g l pl ph ps m fr start (k + 1)) by rw [rows, HNN.out]; exact hrow3)
      have HBX2 := hid (blk_ext HBX.out hE)
      have hE2 := hE1.trans hE
      rw [hln]
      clear hln hrow3 hE XR
      go_wp2
      go_roundw
      case rel => exact ⟨hE2, HBX2, k + 1, g3, cap3, by omega, by go_num, rfl, by have := hE1.size; omega, XR3⟩
      case measure => simp [intOf]; omega
    · obtain rfl : k = most := by omega
      have hln := hid (HB.out k).1
      go_wp2
      go_ret
      exact NewRow.mk (by rw [hln.out]; rfl) XR.out hg2 hE1
set_option maxRecDepth 100000 in
set_option maxHeartbeats 2000000 in
theorem arrivals_best (g l pl ph : Int) (n c : Nat) (b off : Nat) (ps : List Pt) (hn : ps.length = n) (A : Option Addr) (m : Nat) (hm1 : 1 ≤ m) (hm2 : m ≤ 12) (hN : NOk m ps) (ha : PaOk l pl ph) (fr : Nat) (hfr : fr < m) (start : Int) (h0 : 0 ≤ start) (h1 : start ≤ 2881) (most : Nat) (hmost : most ≤ 1000)
    (w : World) (hA : 0 < n → A = some ⟨b, off, none⟩ ∧ b < w.heap.size) (hp : ∀ k, k < ps.length → ∃ A' c', PtAt w b (off + k * 8) (ps.getD k zeroPt) A' c') :
    Calls Try.prog 85 #[.agg (wbox (m : Int) g l pl ph A n c), .int .i64 (fr : Int), .int .i64 start, .int .i64 (most : Int), .func (.func 87) #[] #[]] w (NewRow (rows selLo g l pl ph ps m fr start most) w) := by
  have HB := hid (fun k => rows_bd selLo_pos (g := g) ha hN (from_ := fr) h0 h1 k)
  have HM := hid (fun (k : Nat) (bl ol cl : Nat) (W : World) (hE : Ext w W) (hl : IntsAt W (some ⟨bl, ol, none⟩) (rows selLo g l pl ph ps m fr start k)) =>
    pathMore_best g l pl ph n c b off ps hn A bl ol cl (rows selLo g l pl ph ps m fr start k) (by rw [(HB.out k).1]; exact hm2) (by rw [(HB.out k).1]; exact hm1) (by rw [(HB.out k).1]; exact hN) ha (by rw [(HB.out k).1]; exact (HB.out k).2) (m : Int) W (fun h0 => ⟨(hA h0).1, Nat.lt_of_lt_of_le (hA h0).2 hE.size⟩)
      (fun k hk => by obtain ⟨A', c', h⟩ := hp k hk; exact ⟨A', c', h.ext (hA (by omega)).2 hE⟩) hl)
  have HR := hid (fun (b off c : Nat) (W : World) (hb : b < W.heap.size) (hx : W.cell? ⟨b, off, none⟩ = some (.int .i64 2881)) => repeat_any b off c 2881 m hm1 hm2 W hb hx)
  have HNN := hid hn
  clear hp hn hN hA
  have hfi0 : (0 : Int) ≤ (fr : Int) := by omega
  have hfi1 : (fr : Int) < (m : Int) := by omega
  go_enter Try.func85, Try.ntmps85
  simp only [wbox]
  go_wp2_with fail
  refine (HR.out _ _ _ _ (by simp) (by go_simp)).mono ?_
  rintro e w1 ⟨gr, cap, rfl, hrow, hgr, hE⟩
  (first | (have hK := KC.step (n := w.heap.size + 1) (by with_reducible assumption) hE) | (have hK := KC.step (KC.step (n := w.heap.size + 1) (by with_reducible assumption) (ext_alloc1 _ _)) hE) | (have hK := KC.step (KC.refl (n := w.heap.size + 1) (by simp)) hE)); have hC := hK.cell; have hF := hK.fro; have hX := hK.ext
  rw [List.length_replicate]
  have hr0 := hrow.cell (k := fr) (by simp; exact hfr)
  have hrf := hrow.fro fr
  have XR := hid (show RowAt (w1.setCell ⟨gr, fr, none⟩ (.int .i64 start)) gr cap (rows selLo g l pl ph ps m fr start 0) from hrow.set fr start)
  have gw : w.heap.size + 1 ≤ gr := by simp at hgr; omega
  have hsz := hK.size
  have B0 := hid (blk_ext (blk_ext (heap_alloc_new w (.cells (wbox (m : Int) g l pl ph A n c) 70)) (ext_alloc1 _ _)) hE)
  have EW : Ext w w1 := by (repeat' (first | with_reducible assumption | with_reducible exact Ext.refl _ | with_reducible refine Ext.alloc ?_ _ | with_reducible refine Ext.set ?_ ?_ _ | with_reducible refine Ext.drew ?_ | with_reducible refine Ext.drewN ?_ _ | with_reducible refine Ext.trans ?_ (by assumption) | (dsimp only; omega)))
  have hgw : w.heap.size ≠ gr := by omega
  have B1 := hid ((Below.heap_setCell w1 ⟨gr, fr, none⟩ (.int .i64 start) w.heap.size hgw).trans B0.out)
  have EW1 : Ext w (w1.setCell ⟨gr, fr, none⟩ (.int .i64 start)) := EW.set (by dsimp only; omega) _
  have HG := hid (show w.heap.size ≤ gr by omega)
  clear hrow hgr hE hK hC hX B0 EW HR hgw gw hsz
  go_wp2_with fail
  clear hr0 hrf hF
  go_loopw [11, 22] (fun s i wr => Ext w wr ∧ Hid (wr.heap[w.heap.size]? = some (.cells (wbox (m : Int) g l pl ph A n c) 70 (0, 0))) ∧ ∃ (k gr cap : Nat), k ≤ most ∧ i = .int .i64 k ∧ s = .slice (some ⟨gr, 0, none⟩) m cap ∧ w.heap.size ≤ gr ∧ Hid (RowAt wr gr cap (rows selLo g l pl ph ps m fr start k))) (fun _ i _ => most - (intOf i).toNat)
  case atStart => exact ⟨EW1, B1, 0, gr, cap, Nat.zero_le _, rfl, rfl, HG.out, XR⟩
  case round =>
    clear XR HG EW1 B1
    obtain ⟨hE1, HBX, k, g2, cap2, hk, rfl, rfl, hg2, XR⟩ := hrel
    by_cases hlt : k < most
    · have c0 := blk_cell HBX.out 0
      have c1 := blk_cell HBX.out 1
      have c2 := blk_cell HBX.out 2
      have c3 := blk_cell HBX.out 3
      have c4 := blk_cell HBX.out 4
      have c5 := blk_cell HBX.out 5
      simp only [wbox, List.getElem?_toArray, List.getElem?_cons_zero, List.getElem?_cons_succ] at c0 c1 c2 c3 c4 c5
      go_wp2_with fail
      have hmm := HM.out k g2 0 cap2 wr hE1 XR.out.ints
      rw [(HB.out k).1] at hmm
      refine hmm.mono ?_
      clear hmm
      rintro e w2 ⟨g3, cap3, rfl, hrow3, hg3, hE⟩
      have hln := (HB.out (k + 1)).1
      rw [rows, HNN.out] at hln
      clear c0 c1 c2 c3 c4 c5
      have XR3 := hid (show RowAt w2 g3 cap3 (rows selLo g l pl ph ps m fr start (k + 1)) by rw [rows, HNN.out]; exact hrow3)
      have HBX2 := hid (blk_ext HBX.out hE)
      have hE2 := hE1.trans hE
      rw [hln]
      clear hln hrow3 hE XR
      go_wp2
      go_roundw
      case rel => exact ⟨hE2, HBX2, k + 1, g3, cap3, by omega, by go_num, rfl, by have := hE1.size; omega, XR3⟩
      case measure => simp [intOf]; omega
    · obtain rfl : k = most := by omega
      have hln := hid (HB.out k).1
      go_wp2
      go_ret
      exact NewRow.mk (by rw [hln.out]; rfl) XR.out hg2 hE1
end Go.Proofs.Ytndoghcglbpllaa
/- Who starts later does not arrive sooner. -/
set_option linter.unusedSimpArgs false
set_option linter.unusedVariables false
namespace Go.Proofs.Ytndoghcglbpllaa
open Go.RowKit
theorem enter_mono {os : List (Int × Int)} : ∀ {f f' t t' : Int}, f ≤ f' → t ≤ t' → enter f os t ≤ enter f' os t' := by
  unfold enter
  induction os with
  | nil => intro f f' t t' h _; simpa using h
  | cons o os ih =>
    intro f f' t t' h ht
    simp only [List.foldl_cons]
    refine ih ?_ ht
    unfold enterStep
    split <;> split <;> omega
theorem arrive_mono (sel : Int → Int → Int) (l pl ph : Int) (p : Pt) {t t' : Int} (h : t ≤ t') : arrive sel l pl ph p t ≤ arrive sel l pl ph p t' := by
  have := enter_mono (os := p.opens) (Int.le_refl 2881) h
  unfold arrive
  omega
def LeRow (xs ys : List Int) : Prop := xs.length = ys.length ∧ ∀ k, xs.getD k 0 ≤ ys.getD k 0
theorem LeRow.refl (xs : List Int) : LeRow xs xs := ⟨rfl, fun _ => Int.le_refl _⟩
theorem getD_set (xs : List Int) (i : Nat) (v : Int) (k : Nat) : (xs.set i v).getD k 0 = if i = k ∧ k < xs.length then v else xs.getD k 0 := by
  simp only [List.getD, List.getElem?_set]
  by_cases h : i = k
  · subst h
    by_cases hl : i < xs.length
    · simp [hl]
    · simp [hl]
  · simp [h]
theorem LeRow.set {xs ys : List Int} (h : LeRow xs ys) (i : Nat) {u v : Int} (huv : u ≤ v) : LeRow (xs.set i u) (ys.set i v) := by
  refine ⟨by simpa using h.1, fun k => ?_⟩
  rw [getD_set, getD_set, h.1]
  have := h.2 k
  split <;> omega
theorem pmFold_mono (sel : Int → Int → Int) (l pl ph : Int) (ps : List Pt) {low low' : List Int} (hl : LeRow low low') (is : List Nat) : LeRow (pmFold sel l pl ph ps low is) (pmFold sel l pl ph ps low' is) := by
  unfold pmFold
  suffices h : ∀ acc acc', LeRow acc acc' → LeRow (is.foldl (pmStep sel l pl ph ps low) acc) (is.foldl (pmStep sel l pl ph ps low') acc') from h _ _ hl
  induction is with
  | nil => intro acc acc' h; exact h
  | cons i is ih =>
    intro acc acc' h
    simp only [List.foldl_cons]
    refine ih _ _ ?_
    unfold pmStep
    refine h.set _ ?_
    have h1 := h.2 (ps.getD i zeroPt).dst.toNat
    have h2 := arrive_mono sel l pl ph (ps.getD i zeroPt) (hl.2 (ps.getD i zeroPt).frm.toNat)
    omega
theorem rows_mono (sel : Int → Int → Int) (g l pl ph : Int) (ps : List Pt) (m from_ : Nat) {s s' : Int} (h : s ≤ s') : ∀ k, LeRow (rows sel g l pl ph ps m from_ s k) (rows sel g l pl ph ps m from_ s' k)
  | 0 => (LeRow.refl _).set _ h
  | k + 1 => pmFold_mono sel l pl ph ps (rows_mono sel g l pl ph ps m from_ h k) _
end Go.Proofs.Ytndoghcglbpllaa
/- The sure and the best arrivals; -1 for none. -/
set_option linter.unusedSimpArgs false
set_option linter.unusedVariables false
namespace Go.Proofs.Ytndoghcglbpllaa
open Go.RowKit

set_option maxRecDepth 100000 in
set_option maxHeartbeats 2000000 in
theorem sure_any (g l pl ph : Int) (n c : Nat) (b off : Nat) (ps : List Pt) (hn : ps.length = n) (A : Option Addr) (m : Nat) (hm1 : 1 ≤ m) (hm2 : m ≤ 12) (hN : NOk m ps) (ha : PaOk l pl ph) (fr : Nat) (hfr : fr < m) (start : Int) (h0 : 0 ≤ start) (h1 : start ≤ 2881)
    (w : World) (hA : 0 < n → A = some ⟨b, off, none⟩ ∧ b < w.heap.size) (hp : ∀ k, k < ps.length → ∃ A' c', PtAt w b (off + k * 8) (ps.getD k zeroPt) A' c') :
    Calls Try.prog 52 #[.agg (wbox (m : Int) g l pl ph A n c), .int .i64 (fr : Int), .int .i64 start] w (NewRow (rows selHi g l pl ph ps m fr start (m - 1)) w) := by
  have HA := hid (fun (W : World) (hE : Ext w W) => arrivals_sure g l pl ph n c b off ps hn A m hm1 hm2 hN ha fr hfr start h0 h1 (m - 1) (by omega) W (fun h0 => ⟨(hA h0).1, Nat.lt_of_lt_of_le (hA h0).2 hE.size⟩)
      (fun k hk => by obtain ⟨A', c', h⟩ := hp k hk; exact ⟨A', c', h.ext (hA (by omega)).2 hE⟩))
  have HML := hid (show (m : Int) - 1 = ((m - 1 : Nat) : Int) by omega)
  clear hp hn hN hA
  simp only [wbox] at HA ⊢
  go_enter Try.func52, Try.ntmps52
  go_wp2
  refine wp_abs (fun W => (W.cell? ⟨w.heap.size, 0, none⟩ = some (.int .i64 (m : Int)) ∧ W.cell? ⟨w.heap.size, 1, none⟩ = some (.slice A n c) ∧ W.cell? ⟨w.heap.size, 2, none⟩ = some (.int .i64 g) ∧ W.cell? ⟨w.heap.size, 3, none⟩ = some (.int .i64 l) ∧ W.cell? ⟨w.heap.size, 4, none⟩ = some (.int .i64 pl) ∧ W.cell? ⟨w.heap.size, 5, none⟩ = some (.int .i64 ph)) ∧ w.heap.size + 1 ≤ W.heap.size ∧ Ext w W) ⟨by go_simp, by simp, by (repeat' (first | with_reducible assumption | with_reducible exact Ext.refl _ | with_reducible refine Ext.alloc ?_ _ | with_reducible refine Ext.set ?_ ?_ _ | with_reducible refine Ext.drew ?_ | with_reducible refine Ext.drewN ?_ _ | with_reducible refine Ext.trans ?_ (by assumption) | (dsimp only; omega)))⟩ ?_
  rintro W ⟨⟨c0, c1, c2, c3, c4, c5⟩, hz, hE⟩
  go_region_held3 (fun w' => (∀ b o, b < w.heap.size + 1 → w'.cell? ⟨b, o, none⟩ = W.cell? ⟨b, o, none⟩) ∧ w.heap.size + 1 ≤ w'.heap.size ∧ Ext w w')
    (((try dsimp only); go_split_ands; (repeat' apply And.intro) <;> first | assumption | exact kcell (by assumption) (by omega) (by assumption) | exact kcell_refl _ _ | exact kcell_set (kcell_set (by assumption) (by dsimp only; omega) _) (by dsimp only; omega) _ | exact kcell_set (by assumption) (by dsimp only; omega) _ | exact held_ext (by assumption) (by dsimp only; omega) (by assumption) | exact hfrozen_ext (by assumption) (by dsimp only; omega) (by assumption) | exact Ext.sizeLe (by assumption) (by assumption) | exact Ext.trans (by assumption) (by assumption) | exact Ext.drew (by assumption) | exact held_set _ _ _ _ (held_set _ _ _ _ (by assumption)) | exact held_set _ _ _ _ (by assumption) | exact hfrozen_set _ _ (hfrozen_set _ _ (by assumption)) | exact hfrozen_set _ _ (by assumption) | exact hsize_set _ _ (hsize_set _ _ (by assumption)) | exact hsize_set _ _ (by assumption) | exact Ext.set (Ext.set (by assumption) (by dsimp only; omega) _) (by dsimp only; omega) _ | exact Ext.set (by assumption) (by dsimp only; omega) _))
    (first
      | (go_at_call 86; refine (longest_any _ _ _ _ _ _ (by omega) (by omega) _).mono ?_; rintro e w2 ⟨rfl, hE2⟩)
      | (go_at_call 85; rw [HML.out]; refine (HA.out _ ‹_ ∧ _ ∧ Ext _ _›.2.2).mono ?_; rintro e w2 ⟨gr, cap, rfl, hrow, hgr, hE2⟩; have hgw := Nat.le_trans (‹_ ∧ _ ∧ Ext _ _›.2.2).size hgr))
  rename_i hH
  try dsimp only at hH
  obtain ⟨-, -, hx⟩ := hH
  have HX := hid hx
  have HR := hid hrow
  clear hrow hx c0 c1 c2 c3 c4 c5
  go_wp2
  go_ret
  exact NewRow.mk rfl HR.out hgw HX.out
set_option maxRecDepth 100000 in
set_option maxHeartbeats 2000000 in
theorem best_any (g l pl ph : Int) (n c : Nat) (b off : Nat) (ps : List Pt) (hn : ps.length = n) (A : Option Addr) (m : Nat) (hm1 : 1 ≤ m) (hm2 : m ≤ 12) (hN : NOk m ps) (ha : PaOk l pl ph) (fr : Nat) (hfr : fr < m) (start : Int) (h0 : 0 ≤ start) (h1 : start ≤ 2881)
    (w : World) (hA : 0 < n → A = some ⟨b, off, none⟩ ∧ b < w.heap.size) (hp : ∀ k, k < ps.length → ∃ A' c', PtAt w b (off + k * 8) (ps.getD k zeroPt) A' c') :
    Calls Try.prog 53 #[.agg (wbox (m : Int) g l pl ph A n c), .int .i64 (fr : Int), .int .i64 start] w (NewRow (rows selLo g l pl ph ps m fr start (m - 1)) w) := by
  have HA := hid (fun (W : World) (hE : Ext w W) => arrivals_best g l pl ph n c b off ps hn A m hm1 hm2 hN ha fr hfr start h0 h1 (m - 1) (by omega) W (fun h0 => ⟨(hA h0).1, Nat.lt_of_lt_of_le (hA h0).2 hE.size⟩)
      (fun k hk => by obtain ⟨A', c', h⟩ := hp k hk; exact ⟨A', c', h.ext (hA (by omega)).2 hE⟩))
  have HML := hid (show (m : Int) - 1 = ((m - 1 : Nat) : Int) by omega)
  clear hp hn hN hA
  simp only [wbox] at HA ⊢
  go_enter Try.func53, Try.ntmps53
  go_wp2
  refine wp_abs (fun W => (W.cell? ⟨w.heap.size, 0, none⟩ = some (.int .i64 (m : Int)) ∧ W.cell? ⟨w.heap.size, 1, none⟩ = some (.slice A n c) ∧ W.cell? ⟨w.heap.size, 2, none⟩ = some (.int .i64 g) ∧ W.cell? ⟨w.heap.size, 3, none⟩ = some (.int .i64 l) ∧ W.cell? ⟨w.heap.size, 4, none⟩ = some (.int .i64 pl) ∧ W.cell? ⟨w.heap.size, 5, none⟩ = some (.int .i64 ph)) ∧ w.heap.size + 1 ≤ W.heap.size ∧ Ext w W) ⟨by go_simp, by simp, by (repeat' (first | with_reducible assumption | with_reducible exact Ext.refl _ | with_reducible refine Ext.alloc ?_ _ | with_reducible refine Ext.set ?_ ?_ _ | with_reducible refine Ext.drew ?_ | with_reducible refine Ext.drewN ?_ _ | with_reducible refine Ext.trans ?_ (by assumption) | (dsimp only; omega)))⟩ ?_
  rintro W ⟨⟨c0, c1, c2, c3, c4, c5⟩, hz, hE⟩
  go_region_held3 (fun w' => (∀ b o, b < w.heap.size + 1 → w'.cell? ⟨b, o, none⟩ = W.cell? ⟨b, o, none⟩) ∧ w.heap.size + 1 ≤ w'.heap.size ∧ Ext w w')
    (((try dsimp only); go_split_ands; (repeat' apply And.intro) <;> first | assumption | exact kcell (by assumption) (by omega) (by assumption) | exact kcell_refl _ _ | exact kcell_set (kcell_set (by assumption) (by dsimp only; omega) _) (by dsimp only; omega) _ | exact kcell_set (by assumption) (by dsimp only; omega) _ | exact held_ext (by assumption) (by dsimp only; omega) (by assumption) | exact hfrozen_ext (by assumption) (by dsimp only; omega) (by assumption) | exact Ext.sizeLe (by assumption) (by assumption) | exact Ext.trans (by assumption) (by assumption) | exact Ext.drew (by assumption) | exact held_set _ _ _ _ (held_set _ _ _ _ (by assumption)) | exact held_set _ _ _ _ (by assumption) | exact hfrozen_set _ _ (hfrozen_set _ _ (by assumption)) | exact hfrozen_set _ _ (by assumption) | exact hsize_set _ _ (hsize_set _ _ (by assumption)) | exact hsize_set _ _ (by assumption) | exact Ext.set (Ext.set (by assumption) (by dsimp only; omega) _) (by dsimp only; omega) _ | exact Ext.set (by assumption) (by dsimp only; omega) _))
    (first
      | (go_at_call 86; refine (longest_any _ _ _ _ _ _ (by omega) (by omega) _).mono ?_; rintro e w2 ⟨rfl, hE2⟩)
      | (go_at_call 85; rw [HML.out]; refine (HA.out _ ‹_ ∧ _ ∧ Ext _ _›.2.2).mono ?_; rintro e w2 ⟨gr, cap, rfl, hrow, hgr, hE2⟩; have hgw := Nat.le_trans (‹_ ∧ _ ∧ Ext _ _›.2.2).size hgr))
  rename_i hH
  try dsimp only at hH
  obtain ⟨-, -, hx⟩ := hH
  have HX := hid hx
  have HR := hid hrow
  clear hrow hx c0 c1 c2 c3 c4 c5
  go_wp2
  go_ret
  exact NewRow.mk rfl HR.out hgw HX.out

def orN (x : Int) : Int := if x = 2881 then -1 else x
theorem orN_step (xs : List Int) (k : Nat) (h : k < xs.length) : ((xs.take k).map orN ++ xs.drop k).set k (orN (xs.getD k 0)) = (xs.take (k + 1)).map orN ++ xs.drop (k + 1) := by
  have hl : ((xs.take k).map orN).length = k := by simp; omega
  rw [List.set_append_right _ _ (by omega), hl, Nat.sub_self, List.drop_eq_getElem_cons h, List.set_cons_zero, List.take_succ_eq_append_getElem h, List.map_append, List.append_assoc]
  simp [List.getD, List.getElem?_eq_getElem h]
theorem orN_get (xs : List Int) (k : Nat) (h : k < xs.length) : ((xs.take k).map orN ++ xs.drop k).getD k 0 = xs.getD k 0 := by
  have hl : ((xs.take k).map orN).length = k := by simp; omega
  simp only [List.getD, List.getElem?_append_right (Nat.le_of_eq hl), hl, Nat.sub_self, List.getElem?_drop, Nat.add_zero]
theorem orN_len (xs : List Int) (k : Nat) (h : k ≤ xs.length) : ((xs.take k).map orN ++ xs.drop k).length = xs.length := by simp; omega
theorem orN_same (xs : List Int) (k : Nat) (h : k < xs.length) (hne : ¬ xs.getD k 0 = 2881) : (xs.take (k + 1)).map orN ++ xs.drop (k + 1) = (xs.take k).map orN ++ xs.drop k := by
  have e : orN (xs.getD k 0) = xs.getD k 0 := by unfold orN; rw [if_neg hne]
  rw [← orN_step xs k h, e]
  have hk : k < ((xs.take k).map orN ++ xs.drop k).length := by rw [orN_len xs k (by omega)]; exact h
  have hg := orN_get xs k h
  apply List.ext_getElem?
  intro i
  by_cases hi : k = i
  · subst hi
    rw [List.getElem?_set_self hk]
    rw [List.getD, List.getElem?_eq_getElem hk] at hg
    rw [List.getElem?_eq_getElem hk]
    simpa using hg.symm
  · rw [List.getElem?_set_ne hi]

/-- Only block g, and what is new, may have turned. -/
def OnlyB (g : Nat) (w w' : World) : Prop := w.grownBy w' (some g)
theorem OnlyB.refl (g : Nat) (w : World) : OnlyB g w w := World.grownBy.refl w _
theorem OnlyB.set {g : Nat} {w w' : World} (h : OnlyB g w w') (i : Nat) (u : Value) : OnlyB g w (w'.setCell ⟨g, i, none⟩ u) :=
  ⟨h.os, h.tape, h.output, by simpa using h.size, fun k hk hne => (Below.heap_setCell w' ⟨g, i, none⟩ u k (fun e => hne (by rw [e]))).trans (h.block k hk hne)⟩
theorem OnlyB.ext {g : Nat} {a w w' : World} (h : Ext a w) (k : OnlyB g w w') (hg : a.heap.size ≤ g) : Ext a w' := ext_of_grown h k (fun j e => by injection e with e; omega)
theorem OnlyB.blk {g b : Nat} {w w' : World} {o : Obj} (k : OnlyB g w w') (h : w.heap[b]? = some o) (hne : b ≠ g) : w'.heap[b]? = some o := (k.block b (Array.getElem?_eq_some_iff.1 h).1 (fun e => by injection e with e; exact hne e)).trans h
theorem OnlyB.row {g b cap : Nat} {xs : List Int} {w w' : World} (k : OnlyB g w w') (h : RowAt w b cap xs) (hne : b ≠ g) : RowAt w' b cap xs := h.ofHeap k.size (k.block b h.lt (fun e => by injection e with e; exact hne e))

set_option maxHeartbeats 1000000 in
theorem orNone_any (g cap : Nat) (xs : List Int) (n : Nat) (hn : xs.length = n) (hm : n ≤ 1000) (w : World) (h : RowAt w g cap xs) :
    Calls Try.prog 51 #[.slice (some ⟨g, 0, none⟩) n cap] w fun e w' => e = .returned (.slice (some ⟨g, 0, none⟩) n cap) ∧ RowAt w' g cap (xs.map orN) ∧ OnlyB g w w' := by
  have H := hid h
  clear h
  go_enter Try.func51, Try.ntmps51
  go_wp2
  go_loopw [7] (fun i wr => ∃ k : Nat, k ≤ n ∧ i = .int .i64 k ∧ Hid (RowAt wr g cap ((xs.take k).map orN ++ xs.drop k)) ∧ OnlyB g w wr) (fun i _ => n - (intOf i).toNat)
  case atStart => exact ⟨0, Nat.zero_le _, rfl, by simpa using H, OnlyB.refl g w⟩
  case round =>
    obtain ⟨k, hk, rfl, R, hO⟩ := hrel
    by_cases hlt : k < n
    · have hl := orN_len xs k (by omega)
      have c0 := R.out.cell (k := k) (by omega)
      have f0 := R.out.fro k
      rw [orN_get xs k (by omega)] at c0
      have HS := hid (orN_step xs k (by omega))
      have HQ := hid (orN_same xs k (by omega))
      have HL := hid hl
      clear hl
      revert HS HQ c0
      generalize xs.getD k 0 = x
      intro c0 HS HQ
      by_cases hx : x = 2881
      · subst hx
        have RS := hid (show RowAt (wr.setCell ⟨g, k, none⟩ (.int .i64 (-1))) g cap ((xs.take (k + 1)).map orN ++ xs.drop (k + 1)) by rw [← HS.out]; exact R.out.set k (-1))
        go_wp2
        go_roundw
        case rel => exact ⟨k + 1, by omega, by go_num, RS, hO.set k _⟩
        case measure => simp [intOf]; omega
      · have hxb : (x == 2881) = false := by simpa using hx
        have RS := hid (show RowAt wr g cap ((xs.take (k + 1)).map orN ++ xs.drop (k + 1)) by rw [HQ.out hx]; exact R.out)
        clear HQ HS
        go_wp2
        go_roundw
        case rel => exact ⟨k + 1, by omega, by go_num, RS, hO⟩
        case measure => simp [intOf]; omega
    · obtain rfl : k = n := by omega
      have RS := hid (show RowAt wr g cap (xs.map orN) by have := R.out; rwa [List.take_of_length_le (by omega), List.drop_eq_nil_of_le (by omega), List.append_nil] at this)
      go_wp2
      go_ret
      exact ⟨rfl, RS.out, hO⟩
end Go.Proofs.Ytndoghcglbpllaa
