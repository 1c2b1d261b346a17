/- math/bits.Mul of 1 and a small number. -/
import Derived.Test.YtndoghcglbpllaaV01
import Derived.Test.YtndoghcglbpllaaV05
import Derived.IntWalk
import Derived.Laws.CopyOwn
import Derived.Deep.RegionHeld3
import Derived.Deep.OwnRows
import Derived.Test.YtndoghcglbpllaaV07
set_option linter.unusedSimpArgs false
set_option linter.unusedVariables false
namespace Go.Proofs.Ytndoghcglbpllaa
open Go.RowKit
set_option maxHeartbeats 4000000 in
theorem mul64_one (m : Int) (h1 : 0 ≤ m) (h2 : m ≤ 12) (w : World) :
    Calls Try.prog 106 #[.int .u64 1, .int .u64 m] w fun e w' => e = .returned (.tuple #[.int .u64 0, .int .u64 m]) ∧ w' = w := by
  obtain rfl | rfl | rfl | rfl | rfl | rfl | rfl | rfl | rfl | rfl | rfl | rfl | rfl : m = 0 ∨ m = 1 ∨ m = 2 ∨ m = 3 ∨ m = 4 ∨ m = 5 ∨ m = 6 ∨ m = 7 ∨ m = 8 ∨ m = 9 ∨ m = 10 ∨ m = 11 ∨ m = 12 := by omega
  all_goals
    clear h1 h2
    go_enter Try.func106, Try.ntmps106
    go_wp2
    go_ret2
    exact ⟨rfl, rfl⟩
set_option maxHeartbeats 400000 in
theorem mul_one (m : Int) (h1 : 0 ≤ m) (h2 : m ≤ 12) (w : World) :
    Calls Try.prog 103 #[.int .u64 1, .int .u64 m] w fun e w' => e = .returned (.tuple #[.int .u64 0, .int .u64 m]) ∧ w' = w := by
  go_enter Try.func103, Try.ntmps103
  go_wp2_with (go_at_call 106; refine (mul64_one _ h1 h2 _).mono ?_; rintro e w2 ⟨rfl, rfl⟩)
  go_ret2
  exact ⟨rfl, rfl⟩
end Go.Proofs.Ytndoghcglbpllaa
/- slices.Repeat of one number. -/
set_option linter.unusedSimpArgs false
set_option linter.unusedVariables false
namespace Go.Proofs.Ytndoghcglbpllaa
open Go.RowKit
def fillTo (k m : Nat) (v : Int) : List Value := List.replicate k (.int .i64 v) ++ List.replicate (m - k) (.int .i64 0)
theorem fillTo_length (k m : Nat) (v : Int) : k ≤ m → (fillTo k m v).length = m := by intro h; simp [fillTo]; omega
theorem fillTo_one (k m : Nat) (v : Int) : ∀ u ∈ fillTo k m v, u.oneCell' = true := by
  intro u hu
  simp only [fillTo, List.mem_append, List.mem_replicate] at hu
  rcases hu with ⟨_, rfl⟩ | ⟨_, rfl⟩ <;> rfl
theorem fillTo_get (k m : Nat) (v : Int) {j : Nat} (h : j < k) : (fillTo k m v)[j]? = some (.int .i64 v) := by
  simp [fillTo, List.getElem?_append_left, h]
theorem splice_fill (k m j : Nat) (v : Int) (_h : k + j ≤ m) : splice (fillTo k m v) k (List.replicate j (.int .i64 v)) = fillTo (k + j) m v := by
  unfold splice fillTo
  rw [List.take_left' (by simp), List.length_replicate, List.drop_append]
  simp only [List.length_replicate, List.drop_replicate]
  rw [show k - (k + j) = 0 from by omega, show k + j - k = j from by omega, show m - k - j = m - (k + j) from by omega]
  rw [← List.append_assoc, List.replicate_append_replicate]
  simp

theorem made_fill (m : Nat) (v : Int) : madeCells #[.int .i64 0] m = (fillTo 0 m v).toArray := by
  have h := toList_madeCells_one (.int .i64 0) m
  rw [← Array.toArray_toList (xs := madeCells #[.int .i64 0] m), h]
  simp [fillTo]

theorem one_at {w : World} {ad : Addr} {v : Int} (h : w.cell? ad = some (.int .i64 v)) : ∀ j u, ([.int .i64 v] : List Value)[j]? = some u → w.cell? (ad.add j) = some u := by
  intro j u hj
  have hj0 : j = 0 := by
    have := (List.getElem?_eq_some_iff.1 hj).1
    simpa using this
  subst hj0
  simp at hj
  subst hj
  exact h
theorem one_one (v : Int) : ∀ u ∈ ([.int .i64 v] : List Value), u.oneCell' = true := by
  intro u hu
  simp at hu
  subst hu
  rfl
theorem rep_one (n : Nat) (v : Int) : ∀ u ∈ List.replicate n (Value.int .i64 v), u.oneCell' = true := by
  intro u hu
  obtain ⟨_, rfl⟩ := List.mem_replicate.1 hu
  rfl
theorem fill_first {w : World} {g m : Nat} {v : Int} {f0 : List Value} (hf : fillTo 0 m v = f0) (h1 : 1 ≤ m) (h : w.heap[g]? = some (.cells (splice f0 0 [.int .i64 v]).toArray 3 (0, 0))) :
    w.heap[g]? = some (.cells (fillTo 1 m v).toArray 3 (0, 0)) := by
  subst hf
  have := splice_fill 0 m 1 v (by omega)
  rw [show ([Value.int .i64 v] : List Value) = List.replicate 1 (.int .i64 v) from rfl] at h
  rw [this] at h
  exact h

theorem fill_src {w : World} {g k m : Nat} {v : Int} (h : w.heap[g]? = some (.cells (fillTo k m v).toArray 3 (0, 0))) : ∀ j u, (List.replicate (min k (m - k)) (Value.int .i64 v))[j]? = some u → w.cell? (Addr.add ⟨g, 0, none⟩ j) = some u := by
  intro j u hu
  have hj : j < min k (m - k) := by
    have := (List.getElem?_eq_some_iff.1 hu).1
    simpa using this
  have hv : u = .int .i64 v := by
    rw [List.getElem?_replicate, if_pos hj] at hu
    injection hu with hu
    exact hu.symm
  subst hv
  have e : Addr.add ⟨g, 0, none⟩ j = ⟨g, j, none⟩ := by unfold Addr.add; split <;> simp_all
  rw [e, cell_of_row w g j _ 3 (0, 0) h]
  simpa using fillTo_get k m v (j := j) (by omega)

theorem row_fill {w : World} {g m : Nat} {v : Int} (h : w.heap[g]? = some (.cells (fillTo m m v).toArray 3 (0, 0))) (hm : m ≤ maxLen) : RowAt w g m (List.replicate m v) := by
  have hl : (List.replicate m v).length = m := List.length_replicate
  have hi : ints (List.replicate m v) = fillTo m m v := by simp [ints, fillTo]
  refine ⟨(Array.getElem?_eq_some_iff.1 h).1, ?_⟩
  rw [hl, hi]
  have hf := fillTo_length m m v (Nat.le_refl _)
  exact ⟨by rw [hf, Nat.mul_one], .inr ⟨g, m, _, rfl, Nat.zero_le _, h, Nat.le_refl _, hm, by simp [hf], by rw [List.take_of_length_le]; simp [hf]⟩⟩

set_option maxRecDepth 100000 in
set_option maxHeartbeats 1000000 in
theorem repeat_any (b off c : Nat) (v : Int) (m : Nat) (h1 : 1 ≤ m) (h2 : m ≤ 12) (w : World) (hb : b < w.heap.size) (hx : w.cell? ⟨b, off, none⟩ = some (.int .i64 v)) :
    Calls Try.prog 100 #[.slice (some ⟨b, off, none⟩) 1 c, .int .i64 m] w (NewRow (List.replicate m v) w) := by
  have hmu := mul_one (m : Int) (by omega) (by omega)
  have HMU := hid hmu
  clear hmu
  have hz : (Try.prog.info? 3).map (·.size) = some 1 := by kernel_rfl
  have HZ := hid hz
  clear hz
  have hm0 : (0 : Int) ≤ (m : Int) := by omega
  have hm1 : (m : Int) ≤ 12 := by omega
  have hn : ((m : Int) < 0) = False := by simp
  have hmk : ∀ W : World, (Instr.makeSlice 29 (.int .i64 (m : Int)) (.int .i64 (m : Int))).run Try.prog W = .ok (.slice (some ⟨W.heap.size, 0, none⟩) m m) (W.alloc (.cells (fillTo 0 m v).toArray 3)) := fun W => by
    rw [run_make_row' 29 3 (.int .i64 0) 8 Try.underlying29 info3 rfl .i64 .i64 m (by omega) (by omega) W, made_fill]
  have hl := fillTo_length 0 m v
  have HL := hid hl
  clear hl
  have ho := fillTo_one 0 m v
  have HO := hid ho
  clear ho
  generalize hf0 : fillTo 0 m v = f0 at *
  have HF0 := hid hf0
  clear hf0
  go_enter Try.func100, Try.ntmps100
  go_wp2_with (first
    | (go_at_call 103; refine (HMU.out _).mono ?_; rintro e w2 ⟨rfl, hw⟩; obtain rfl := hw.symm; clear hw)
    | ((refine wpList_copy_splice rfl (.tmp 31) (.tmp 32) 29 29 rfl 3 Try.underlying29 HZ.out _ _ _ _ _ _ rfl rfl w.heap.size 0 f0 3 (heap_alloc_new _ _) [.int .i64 v] (by show 1 = min 1 m; omega) (fun _ => ⟨rfl, _, rfl, one_at ((World.cell?_alloc_lt w _ _ hb).trans hx)⟩) (by rw [HL.out (by omega)]; show 0 + 1 ≤ m; omega) (one_one v) w.heap.size w (ext_alloc1 _ _) (Nat.le_refl _) ?_); intro w2 hg hB))
  have HG := hid (fill_first HF0.out h1 hg.out)
  have hE : Ext w w2 := hB
  clear hg hB hmk HF0 HO HL hx
  have HEQ := hid (⟨1, by omega, h1, rfl, HG⟩ : ∃ k : Nat, 1 ≤ k ∧ k ≤ m ∧ Value.int .i64 1 = .int .i64 (k : Int) ∧ Hid (w2.heap[w.heap.size]? = some (.cells (fillTo k m v).toArray 3 (0, 0))))
  clear HG
  go_loopw [8] (fun i wr => Ext w wr ∧ ∃ k : Nat, 1 ≤ k ∧ k ≤ m ∧ i = .int .i64 k ∧ Hid (wr.heap[w.heap.size]? = some (.cells (fillTo k m v).toArray 3 (0, 0)))) (fun i _ => m - (intOf i).toNat)
  case atStart => exact ⟨hE, HEQ.out⟩
  case round =>
    obtain ⟨hE, k, hk1, hk2, rfl, HG⟩ := hrel
    by_cases hlt : k < m
    · have hki : (k : Int) < (m : Int) := by omega
      have hk0 : (1 : Int) ≤ (k : Int) := by omega
      have hB : Below w.heap.size w wr := hE
      have HCS := hid (fill_src HG.out)
      have hsp := splice_fill k m (min k (m - k)) v (by omega)
      have HSP := hid hsp
      have HB := hid hB
      clear hsp hB
      go_wp2_with fail
      have hkm : (k : Int) ≤ (m : Int) := by omega
      go_region_held3 (fun _ => True) (trivial) ((refine step_copy_splice (by rfl) (.tmp 41) (.tmp 44) 29 29 (by rfl) 3 Try.underlying29 HZ.out _ (some ⟨w.heap.size, 0, none⟩) (m - k) (m - k) k m (by rfl) (by rfl) w.heap.size k (fillTo k m v) 3 (by exact HG.out) (List.replicate (min k (m - k)) (.int .i64 v)) (by rw [List.length_replicate]) (fun _ => ⟨if_neg (by omega), _, rfl, by exact HCS.out⟩) (by rw [List.length_replicate, fillTo_length k m v hk2]; omega) (rep_one _ v) w.heap.size w (by exact Below.drew HB.out) (Nat.le_refl _) ?_; intro w3 hg3 hB3))
      have HG3 := hid (show w3.heap[w.heap.size]? = some (.cells (fillTo (k + min k (m - k)) m v).toArray 3 (0, 0)) by rw [← HSP.out]; exact hg3.out)
      have hE3 : Ext w w3 := hB3
      clear hg3 hB3 HSP HB HCS HG
      go_wp2
      have hw := IntWalk.i64_in ((k : Int) + ((min k (m - k) : Nat) : Int)) (by omega)
      rw [hw]
      exact ⟨⟨hE3, k + min k (m - k), by omega, by omega, by rw [Int.natCast_add], HG3⟩, by simp only [intOf]; omega⟩
    · have hki : ((k : Int) < (m : Int)) = False := by simp; omega
      go_wp2_with fail
      go_ret
      obtain rfl : k = m := by omega
      exact NewRow.mk (g := w.heap.size) (cap := k) (by rw [List.length_replicate]; rfl) (row_fill HG.out (by unfold maxLen; omega)) (Nat.le_refl _) hE
end Go.Proofs.Ytndoghcglbpllaa
/- The lowest arrivals on routes of at most so many paths. -/
set_option linter.unusedSimpArgs false
set_option linter.unusedVariables false
namespace Go.Proofs.Ytndoghcglbpllaa
open Go.RowKit

theorem arrive_bd {sel : Int → Int → Int} (hsel : ∀ a b, 1 ≤ a → 1 ≤ b → 0 ≤ sel a b) {l pl ph : Int} (ha : PaOk l pl ph) {p : Pt} (hp : PtOk p) {t : Int} (ht : 0 ≤ t) : 0 ≤ arrive sel l pl ph p t ∧ arrive sel l pl ph p t ≤ 2881 := by
  obtain ⟨t1, t2, t3, s1, s2, s3, hos⟩ := hp
  obtain ⟨p1, p2, p3, l1, l2⟩ := ha
  have ⟨b1, b2⟩ := enter_bd (never := 2881) p.opens ht (by omega)
  have ⟨b3, b4⟩ := timeOf_bd t1 (by omega) p1 (by omega) s1 (by omega) l1 l2
  have ⟨b5, b6⟩ := timeOf_bd (t := p.th) (p := ph) (s := p.sh) (by omega) t3 (by omega) p3 (by omega) s3 l1 l2
  have h := hsel _ _ b3 b5
  unfold arrive
  omega
theorem selHi_pos : ∀ a b : Int, 1 ≤ a → 1 ≤ b → 0 ≤ selHi a b := fun _ _ _ h => by unfold selHi; omega
theorem selLo_pos : ∀ a b : Int, 1 ≤ a → 1 ≤ b → 0 ≤ selLo a b := fun _ _ h _ => by unfold selLo; omega

def BdRow (m : Nat) (xs : List Int) : Prop := xs.length = m ∧ ∀ k, k < m → 0 ≤ xs.getD k 0 ∧ xs.getD k 0 ≤ 2881
theorem bd_set {m : Nat} {xs : List Int} (h : BdRow m xs) (i : Nat) {v : Int} (h0 : 0 ≤ v) (h1 : v ≤ 2881) : BdRow m (xs.set i v) := by
  refine ⟨by simpa using h.1, fun k hk => ?_⟩
  have hl : k < xs.length := by rw [h.1]; exact hk
  by_cases hik : i = k
  · subst hik
    simp [List.getD, hl, h0, h1]
  · have := h.2 k hk
    simpa [List.getD, List.getElem?_set_ne hik] using this
theorem pmFold_bd {sel : Int → Int → Int} (hsel : ∀ a b, 1 ≤ a → 1 ≤ b → 0 ≤ sel a b) {l pl ph : Int} (ha : PaOk l pl ph) {m : Nat} {ps : List Pt} (hN : NOk m ps) {low : List Int} (hlow : BdRow m low) (is : List Nat) (his : ∀ i, i ∈ is → i < ps.length) : BdRow m (pmFold sel l pl ph ps low is) := by
  unfold pmFold
  suffices h : ∀ (is : List Nat), (∀ i, i ∈ is → i < ps.length) → ∀ acc, BdRow m acc → BdRow m (is.foldl (pmStep sel l pl ph ps low) acc) from h is his low hlow
  intro is
  induction is with
  | nil => intro _ acc h; exact h
  | cons i is ih =>
    intro hi acc h
    rw [List.foldl_cons]
    refine ih (fun j hj => hi j (List.mem_cons_of_mem _ hj)) _ ?_
    have hil := hi i List.mem_cons_self
    have hd := hN.dst i hil
    have hf := hN.frm i hil
    have h1 := h.2 (ps.getD i zeroPt).dst.toNat (by omega)
    have h2 := hlow.2 (ps.getD i zeroPt).frm.toNat (by omega)
    have h3 := arrive_bd hsel ha (hN.ok i hil) h2.1
    exact bd_set h _ (by omega) (by omega)
theorem walkIdx_mem {ps : List Pt} {g : Int} {n i : Nat} (h : i ∈ walkIdx ps g n) : i < n := by
  unfold walkIdx at h
  have := (List.mem_filter.1 h).1
  simpa using this

/-- The lowest arrivals on routes of at most k paths. -/
def rows (sel : Int → Int → Int) (g l pl ph : Int) (ps : List Pt) (m from_ : Nat) (start : Int) : Nat → List Int
  | 0 => (List.replicate m 2881).set from_ start
  | k + 1 => pmFold sel l pl ph ps (rows sel g l pl ph ps m from_ start k) (walkIdx ps g ps.length)
theorem rows_bd {sel : Int → Int → Int} (hsel : ∀ a b, 1 ≤ a → 1 ≤ b → 0 ≤ sel a b) {g l pl ph : Int} (ha : PaOk l pl ph) {m : Nat} {ps : List Pt} (hN : NOk m ps) {from_ : Nat} {start : Int} (h0 : 0 ≤ start) (h1 : start ≤ 2881) : ∀ k, BdRow m (rows sel g l pl ph ps m from_ start k)
  | 0 => bd_set ⟨by simp, fun k hk => by simp [List.getD, hk]⟩ _ h0 h1
  | k + 1 => pmFold_bd hsel ha hN (rows_bd hsel ha hN h0 h1 k) _ (fun _ h => walkIdx_mem h)

set_option maxRecDepth 100000 in
set_option maxHeartbeats 2000000 in
theorem arrivals_sure (g l pl ph : Int) (n c : Nat) (b off : Nat) (ps : List Pt) (hn : ps.length = n) (A : Option Addr) (m : Nat) (hm1 : 1 ≤ m) (hm2 : m ≤ 12) (hN : NOk m ps) (ha : PaOk l pl ph) (fr : Nat) (hfr : fr < m) (start : Int) (h0 : 0 ≤ start) (h1 : start ≤ 2881) (most : Nat) (hmost : most ≤ 1000)
    (w : World) (hA : 0 < n → A = some ⟨b, off, none⟩ ∧ b < w.heap.size) (hp : ∀ k, k < ps.length → ∃ A' c', PtAt w b (off + k * 8) (ps.getD k zeroPt) A' c') :
    Calls Try.prog 85 #[.agg (wbox (m : Int) g l pl ph A n c), .int .i64 (fr : Int), .int .i64 start, .int .i64 (most : Int), .func (.func 70) #[] #[]] w (NewRow (rows selHi g l pl ph ps m fr start most) w) := by
  have HB := hid (fun k => rows_bd selHi_pos (g := g) ha hN (from_ := fr) h0 h1 k)
  have HM := hid (fun (k : Nat) (bl ol cl : Nat) (W : World) (hE : Ext w W) (hl : IntsAt W (some ⟨bl, ol, none⟩) (rows selHi g l pl ph ps m fr start k)) =>
    pathMore_sure g l pl ph n c b off ps hn A bl ol cl (rows selHi g l pl ph ps m fr start k) (by rw [(HB.out k).1]; exact hm2) (by rw [(HB.out k).1]; exact hm1) (by rw [(HB.out k).1]; exact hN) ha (by rw [(HB.out k).1]; exact (HB.out k).2) (m : Int) W (fun h0 => ⟨(hA h0).1, Nat.lt_of_lt_of_le (hA h0).2 hE.size⟩)
      (fun k hk => by obtain ⟨A', c', h⟩ := hp k hk; exact ⟨A', c', h.ext (hA (by omega)).2 hE⟩) hl)
  have HR := hid (fun (b off c : Nat) (W : World) (hb : b < W.heap.size) (hx : W.cell? ⟨b, off, none⟩ = some (.int .i64 2881)) => repeat_any b off c 2881 m hm1 hm2 W hb hx)
  have HNN := hid hn
  clear hp hn hN hA
  have hfi0 : (0 : Int) ≤ (fr : Int) := by omega
  have hfi1 : (fr : Int) < (m : Int) := by omega
  go_enter Try.func85, Try.ntmps85
  simp only [wbox]
  go_wp2_with fail
  refine (HR.out _ _ _ _ (by simp) (by go_simp)).mono ?_
  rintro e w1 ⟨gr, cap, rfl, hrow, hgr, hE⟩
  (first | (have hK := KC.step (n := w.heap.size + 1) (by with_reducible assumption) hE) | (have hK := KC.step (KC.step (n := w.heap.size + 1) (by with_reducible assumption) (ext_alloc1 _ _)) hE) | (have hK := KC.step (KC.refl (n := w.heap.size + 1) (by simp)) hE)); have hC := hK.cell; have hF := hK.fro; have hX := hK.ext
  rw [List.length_replicate]
  have hr0 := hrow.cell (k := fr) (by simp; exact hfr)
  have hrf := hrow.fro fr
  have XR := hid (show RowAt (w1.setCell ⟨gr, fr, none⟩ (.int .i64 start)) gr cap (rows selHi g l pl ph ps m fr start 0) from hrow.set fr start)
  have gw : w.heap.size + 1 ≤ gr := by simp at hgr; omega
  have hsz := hK.size
  have B0 := hid (blk_ext (blk_ext (heap_alloc_new w (.cells (wbox (m : Int) g l pl ph A n c) 70)) (ext_alloc1 _ _)) hE)
  have EW : Ext w w1 := by (repeat' (first | with_reducible assumption | with_reducible exact Ext.refl _ | with_reducible refine Ext.alloc ?_ _ | with_reducible refine Ext.set ?_ ?_ _ | with_reducible refine Ext.drew ?_ | with_reducible refine Ext.drewN ?_ _ | with_reducible refine Ext.trans ?_ (by assumption) | (dsimp only; omega)))
  have hgw : w.heap.size ≠ gr := by omega
  have B1 := hid ((Below.heap_setCell w1 ⟨gr, fr, none⟩ (.int .i64 start) w.heap.size hgw).trans B0.out)
  have EW1 : Ext w (w1.setCell ⟨gr, fr, none⟩ (.int .i64 start)) := EW.set (by dsimp only; omega) _
  have HG := hid (show w.heap.size ≤ gr by omega)
  clear hrow hgr hE hK hC hX B0 EW HR hgw gw hsz
  go_wp2_with fail
  clear hr0 hrf hF
  go_loopw [11, 22] (fun s i wr => Ext w wr ∧ Hid (wr.heap[w.heap.size]? = some (.cells (wbox (m : Int) g l pl ph A n c) 70 (0, 0))) ∧ ∃ (k gr cap : Nat), k ≤ most ∧ i = .int .i64 k ∧ s = .slice (some ⟨gr, 0, none⟩) m cap ∧ w.heap.size ≤ gr ∧ Hid (RowAt wr gr cap (rows selHi g l pl ph ps m fr start k))) (fun _ i _ => most - (intOf i).toNat)
  case atStart => exact ⟨EW1, B1, 0, gr, cap, Nat.zero_le _, rfl, rfl, HG.out, XR⟩
  case round =>
    clear XR HG EW1 B1
    obtain ⟨hE1, HBX, k, g2, cap2, hk, rfl, rfl, hg2, XR⟩ := hrel
    by_cases hlt : k < most
    · have c0 := blk_cell HBX.out 0
      have c1 := blk_cell HBX.out 1
      have c2 := blk_cell HBX.out 2
      have c3 := blk_cell HBX.out 3
      have c4 := blk_cell HBX.out 4
      have c5 := blk_cell HBX.out 5
      simp only [wbox, List.getElem?_toArray, List.getElem?_cons_zero, List.getElem?_cons_succ] at c0 c1 c2 c3 c4 c5
      go_wp2_with fail
      have hmm := HM.out k g2 0 cap2 wr hE1 XR.out.ints
      rw [(HB.out k).1] at hmm
      refine hmm.mono ?_
      clear hmm
      rintro e w2 ⟨g3, cap3, rfl, hrow3, hg3, hE⟩
      have hln := (HB.out (k + 1)).1
      rw [rows, HNN.out] at hln
      clear c0 c1 c2 c3 c4 c5
      have XR3 := hid (show RowAt w2 g3 cap3 (rows selHi g l pl ph ps m fr start (k + 1)) by rw [rows, HNN.out]; exact hrow3)
      have HBX2 := hid (blk_ext HBX.out hE)
      have hE2 := hE1.trans hE
      rw [hln]
      clear hln hrow3 hE XR
      go_wp2
      go_roundw
      case rel => exact ⟨hE2, HBX2, k + 1, g3, cap3, by omega, by go_num, rfl, by have := hE1.size; omega, XR3⟩
      case measure => simp [intOf]; omega
    · obtain rfl : k = most := by omega
      have hln := hid (HB.out k).1
      go_wp2
      go_ret
      exact NewRow.mk (by rw [hln.out]; rfl) XR.out hg2 hE1
set_option maxRecDepth 100000 in
set_option maxHeartbeats 2000000 in
theorem arrivals_best (g l pl ph : Int) (n c : Nat) (b off : Nat) (ps : List Pt) (hn : ps.length = n) (A : Option Addr) (m : Nat) (hm1 : 1 ≤ m) (hm2 : m ≤ 12) (hN : NOk m ps) (ha : PaOk l pl ph) (fr : Nat) (hfr : fr < m) (start : Int) (h0 : 0 ≤ start) (h1 : start ≤ 2881) (most : Nat) (hmost : most ≤ 1000)
    (w : World) (hA : 0 < n → A = some ⟨b, off, none⟩ ∧ b < w.heap.size) (hp : ∀ k, k < ps.length → ∃ A' c', PtAt w b (off + k * 8) (ps.getD k zeroPt) A' c') :
    Calls Try.prog 85 #[.agg (wbox (m : Int) g l pl ph A n c), .int .i64 (fr : Int), .int .i64 start, .int .i64 (most : Int), .func (.func 87) #[] #[]] w (NewRow (rows selLo g l pl ph ps m fr start most) w) := by
  have HB := hid (fun k => rows_bd selLo_pos (g := g) ha hN (from_ := fr) h0 h1 k)
  have HM := hid (fun (k : Nat) (bl ol cl : Nat) (W : World) (hE : Ext w W) (hl : IntsAt W (some ⟨bl, ol, none⟩) (rows selLo g l pl ph ps m fr start k)) =>
    pathMore_best g l pl ph n c b off ps hn A bl ol cl (rows selLo g l pl ph ps m fr start k) (by rw [(HB.out k).1]; exact hm2) (by rw [(HB.out k).1]; exact hm1) (by rw [(HB.out k).1]; exact hN) ha (by rw [(HB.out k).1]; exact (HB.out k).2) (m : Int) W (fun h0 => ⟨(hA h0).1, Nat.lt_of_lt_of_le (hA h0).2 hE.size⟩)
      (fun k hk => by obtain ⟨A', c', h⟩ := hp k hk; exact ⟨A', c', h.ext (hA (by omega)).2 hE⟩) hl)
  have HR := hid (fun (b off c : Nat) (W : World) (hb : b < W.heap.size) (hx : W.cell? ⟨b, off, none⟩ = some (.int .i64 2881)) => repeat_any b off c 2881 m hm1 hm2 W hb hx)
  have HNN := hid hn
  clear hp hn hN hA
  have hfi0 : (0 : Int) ≤ (fr : Int) := by omega
  have hfi1 : (fr : Int) < (m : Int) := by omega
  go_enter Try.func85, Try.ntmps85
  simp only [wbox]
  go_wp2_with fail
  refine (HR.out _ _ _ _ (by simp) (by go_simp)).mono ?_
  rintro e w1 ⟨gr, cap, rfl, hrow, hgr, hE⟩
  (first | (have hK := KC.step (n := w.heap.size + 1) (by with_reducible assumption) hE) | (have hK := KC.step (KC.step (n := w.heap.size + 1) (by with_reducible assumption) (ext_alloc1 _ _)) hE) | (have hK := KC.step (KC.refl (n := w.heap.size + 1) (by simp)) hE)); have hC := hK.cell; have hF := hK.fro; have hX := hK.ext
  rw [List.length_replicate]
  have hr0 := hrow.cell (k := fr) (by simp; exact hfr)
  have hrf := hrow.fro fr
  have XR := hid (show RowAt (w1.setCell ⟨gr, fr, none⟩ (.int .i64 start)) gr cap (rows selLo g l pl ph ps m fr start 0) from hrow.set fr start)
  have gw : w.heap.size + 1 ≤ gr := by simp at hgr; omega
  have hsz := hK.size
  have B0 := hid (blk_ext (blk_ext (heap_alloc_new w (.cells (wbox (m : Int) g l pl ph A n c) 70)) (ext_alloc1 _ _)) hE)
  have EW : Ext w w1 := by (repeat' (first | with_reducible assumption | with_reducible exact Ext.refl _ | with_reducible refine Ext.alloc ?_ _ | with_reducible refine Ext.set ?_ ?_ _ | with_reducible refine Ext.drew ?_ | with_reducible refine Ext.drewN ?_ _ | with_reducible refine Ext.trans ?_ (by assumption) | (dsimp only; omega)))
  have hgw : w.heap.size ≠ gr := by omega
  have B1 := hid ((Below.heap_setCell w1 ⟨gr, fr, none⟩ (.int .i64 start) w.heap.size hgw).trans B0.out)
  have EW1 : Ext w (w1.setCell ⟨gr, fr, none⟩ (.int .i64 start)) := EW.set (by dsimp only; omega) _
  have HG := hid (show w.heap.size ≤ gr by omega)
  clear hrow hgr hE hK hC hX B0 EW HR hgw gw hsz
  go_wp2_with fail
  clear hr0 hrf hF
  go_loopw [11, 22] (fun s i wr => Ext w wr ∧ Hid (wr.heap[w.heap.size]? = some (.cells (wbox (m : Int) g l pl ph A n c) 70 (0, 0))) ∧ ∃ (k gr cap : Nat), k ≤ most ∧ i = .int .i64 k ∧ s = .slice (some ⟨gr, 0, none⟩) m cap ∧ w.heap.size ≤ gr ∧ Hid (RowAt wr gr cap (rows selLo g l pl ph ps m fr start k))) (fun _ i _ => most - (intOf i).toNat)
  case atStart => exact ⟨EW1, B1, 0, gr, cap, Nat.zero_le _, rfl, rfl, HG.out, XR⟩
  case round =>
    clear XR HG EW1 B1
    obtain ⟨hE1, HBX, k, g2, cap2, hk, rfl, rfl, hg2, XR⟩ := hrel
    by_cases hlt : k < most
    · have c0 := blk_cell HBX.out 0
      have c1 := blk_cell HBX.out 1
      have c2 := blk_cell HBX.out 2
      have c3 := blk_cell HBX.out 3
      have c4 := blk_cell HBX.out 4
      have c5 := blk_cell HBX.out 5
      simp only [wbox, List.getElem?_toArray, List.getElem?_cons_zero, List.getElem?_cons_succ] at c0 c1 c2 c3 c4 c5
      go_wp2_with fail
      have hmm := HM.out k g2 0 cap2 wr hE1 XR.out.ints
      rw [(HB.out k).1] at hmm
      refine hmm.mono ?_
      clear hmm
      rintro e w2 ⟨g3, cap3, rfl, hrow3, hg3, hE⟩
      have hln := (HB.out (k + 1)).1
      rw [rows, HNN.out] at hln
      clear c0 c1 c2 c3 c4 c5
      have XR3 := hid (show RowAt w2 g3 cap3 (rows selLo g l pl ph ps m fr start (k + 1)) by rw [rows, HNN.out]; exact hrow3)
      have HBX2 := hid (blk_ext HBX.out hE)
      have hE2 := hE1.trans hE
      rw [hln]
      clear hln hrow3 hE XR
      go_wp2
      go_roundw
      case rel => exact ⟨hE2, HBX2, k + 1, g3, cap3, by omega, by go_num, rfl, by have := hE1.size; omega, XR3⟩
      case measure => simp [intOf]; omega
    · obtain rfl : k = most := by omega
      have hln := hid (HB.out k).1
      go_wp2
      go_ret
      exact NewRow.mk (by rw [hln.out]; rfl) XR.out hg2 hE1
end Go.Proofs.Ytndoghcglbpllaa
/- Who starts later does not arrive sooner. -/
set_option linter.unusedSimpArgs false
set_option linter.unusedVariables false
namespace Go.Proofs.Ytndoghcglbpllaa
open Go.RowKit
theorem enter_mono {os : List (Int × Int)} : ∀ {f f' t t' : Int}, f ≤ f' → t ≤ t' → enter f os t ≤ enter f' os t' := by
  unfold enter
  induction os with
  | nil => intro f f' t t' h _; simpa using h
  | cons o os ih =>
    intro f f' t t' h ht
    simp only [List.foldl_cons]
    refine ih ?_ ht
    unfold enterStep
    split <;> split <;> omega
theorem arrive_mono (sel : Int → Int → Int) (l pl ph : Int) (p : Pt) {t t' : Int} (h : t ≤ t') : arrive sel l pl ph p t ≤ arrive sel l pl ph p t' := by
  have := enter_mono (os := p.opens) (Int.le_refl 2881) h
  unfold arrive
  omega
def LeRow (xs ys : List Int) : Prop := xs.length = ys.length ∧ ∀ k, xs.getD k 0 ≤ ys.getD k 0
theorem LeRow.refl (xs : List Int) : LeRow xs xs := ⟨rfl, fun _ => Int.le_refl _⟩
theorem getD_set (xs : List Int) (i : Nat) (v : Int) (k : Nat) : (xs.set i v).getD k 0 = if i = k ∧ k < xs.length then v else xs.getD k 0 := by
  simp only [List.getD, List.getElem?_set]
  by_cases h : i = k
  · subst h
    by_cases hl : i < xs.length
    · simp [hl]
    · simp [hl]
  · simp [h]
theorem LeRow.set {xs ys : List Int} (h : LeRow xs ys) (i : Nat) {u v : Int} (huv : u ≤ v) : LeRow (xs.set i u) (ys.set i v) := by
  refine ⟨by simpa using h.1, fun k => ?_⟩
  rw [getD_set, getD_set, h.1]
  have := h.2 k
  split <;> omega
theorem pmFold_mono (sel : Int → Int → Int) (l pl ph : Int) (ps : List Pt) {low low' : List Int} (hl : LeRow low low') (is : List Nat) : LeRow (pmFold sel l pl ph ps low is) (pmFold sel l pl ph ps low' is) := by
  unfold pmFold
  suffices h : ∀ acc acc', LeRow acc acc' → LeRow (is.foldl (pmStep sel l pl ph ps low) acc) (is.foldl (pmStep sel l pl ph ps low') acc') from h _ _ hl
  induction is with
  | nil => intro acc acc' h; exact h
  | cons i is ih =>
    intro acc acc' h
    simp only [List.foldl_cons]
    refine ih _ _ ?_
    unfold pmStep
    refine h.set _ ?_
    have h1 := h.2 (ps.getD i zeroPt).dst.toNat
    have h2 := arrive_mono sel l pl ph (ps.getD i zeroPt) (hl.2 (ps.getD i zeroPt).frm.toNat)
    omega
theorem rows_mono (sel : Int → Int → Int) (g l pl ph : Int) (ps : List Pt) (m from_ : Nat) {s s' : Int} (h : s ≤ s') : ∀ k, LeRow (rows sel g l pl ph ps m from_ s k) (rows sel g l pl ph ps m from_ s' k)
  | 0 => (LeRow.refl _).set _ h
  | k + 1 => pmFold_mono sel l pl ph ps (rows_mono sel g l pl ph ps m from_ h k) _
end Go.Proofs.Ytndoghcglbpllaa
