/- slices.Repeat of one number. -/
import Derived.Test.YtndoghcglbpllaaRow
import Derived.Test.YtndoghcglbpllaaMul
import Derived.IntWalk
import Derived.Laws.CopyOwn
import Derived.Deep.RegionHeld3
import Derived.Deep.OwnRows
set_option linter.unusedSimpArgs false
set_option linter.unusedVariables false
namespace Go.Proofs.Ytndoghcglbpllaa
open Go.RowKit
def fillTo (k m : Nat) (v : Int) : List Value := List.replicate k (.int .i64 v) ++ List.replicate (m - k) (.int .i64 0)
theorem fillTo_length (k m : Nat) (v : Int) : k ≤ m → (fillTo k m v).length = m := by intro h; simp [fillTo]; omega
theorem fillTo_one (k m : Nat) (v : Int) : ∀ u ∈ fillTo k m v, u.oneCell' = true := by
  intro u hu
  simp only [fillTo, List.mem_append, List.mem_replicate] at hu
  rcases hu with ⟨_, rfl⟩ | ⟨_, rfl⟩ <;> rfl
theorem fillTo_get (k m : Nat) (v : Int) {j : Nat} (h : j < k) : (fillTo k m v)[j]? = some (.int .i64 v) := by
  simp [fillTo, List.getElem?_append_left, h]
theorem splice_fill (k m j : Nat) (v : Int) (_h : k + j ≤ m) : splice (fillTo k m v) k (List.replicate j (.int .i64 v)) = fillTo (k + j) m v := by
  unfold splice fillTo
  rw [List.take_left' (by simp), List.length_replicate, List.drop_append]
  simp only [List.length_replicate, List.drop_replicate]
  rw [show k - (k + j) = 0 from by omega, show k + j - k = j from by omega, show m - k - j = m - (k + j) from by omega]
  rw [← List.append_assoc, List.replicate_append_replicate]
  simp

theorem made_fill (m : Nat) (v : Int) : madeCells #[.int .i64 0] m = (fillTo 0 m v).toArray := by
  have h := toList_madeCells_one (.int .i64 0) m
  rw [← Array.toArray_toList (xs := madeCells #[.int .i64 0] m), h]
  simp [fillTo]

theorem one_at {w : World} {ad : Addr} {v : Int} (h : w.cell? ad = some (.int .i64 v)) : ∀ j u, ([.int .i64 v] : List Value)[j]? = some u → w.cell? (ad.add j) = some u := by
  intro j u hj
  have hj0 : j = 0 := by
    have := (List.getElem?_eq_some_iff.1 hj).1
    simpa using this
  subst hj0
  simp at hj
  subst hj
  exact h
theorem one_one (v : Int) : ∀ u ∈ ([.int .i64 v] : List Value), u.oneCell' = true := by
  intro u hu
  simp at hu
  subst hu
  rfl
theorem rep_one (n : Nat) (v : Int) : ∀ u ∈ List.replicate n (Value.int .i64 v), u.oneCell' = true := by
  intro u hu
  obtain ⟨_, rfl⟩ := List.mem_replicate.1 hu
  rfl
theorem fill_first {w : World} {g m : Nat} {v : Int} {f0 : List Value} (hf : fillTo 0 m v = f0) (h1 : 1 ≤ m) (h : w.heap[g]? = some (.cells (splice f0 0 [.int .i64 v]).toArray 3 (0, 0))) :
    w.heap[g]? = some (.cells (fillTo 1 m v).toArray 3 (0, 0)) := by
  subst hf
  have := splice_fill 0 m 1 v (by omega)
  rw [show ([Value.int .i64 v] : List Value) = List.replicate 1 (.int .i64 v) from rfl] at h
  rw [this] at h
  exact h

theorem fill_src {w : World} {g k m : Nat} {v : Int} (h : w.heap[g]? = some (.cells (fillTo k m v).toArray 3 (0, 0))) : ∀ j u, (List.replicate (min k (m - k)) (Value.int .i64 v))[j]? = some u → w.cell? (Addr.add ⟨g, 0, none⟩ j) = some u := by
  intro j u hu
  have hj : j < min k (m - k) := by
    have := (List.getElem?_eq_some_iff.1 hu).1
    simpa using this
  have hv : u = .int .i64 v := by
    rw [List.getElem?_replicate, if_pos hj] at hu
    injection hu with hu
    exact hu.symm
  subst hv
  have e : Addr.add ⟨g, 0, none⟩ j = ⟨g, j, none⟩ := by unfold Addr.add; split <;> simp_all
  rw [e, cell_of_row w g j _ 3 (0, 0) h]
  simpa using fillTo_get k m v (j := j) (by omega)

theorem row_fill {w : World} {g m : Nat} {v : Int} (h : w.heap[g]? = some (.cells (fillTo m m v).toArray 3 (0, 0))) (hm : m ≤ maxLen) : RowAt w g m (List.replicate m v) := by
  have hl : (List.replicate m v).length = m := List.length_replicate
  have hi : ints (List.replicate m v) = fillTo m m v := by simp [ints, fillTo]
  refine ⟨(Array.getElem?_eq_some_iff.1 h).1, ?_⟩
  rw [hl, hi]
  have hf := fillTo_length m m v (Nat.le_refl _)
  exact ⟨by rw [hf, Nat.mul_one], .inr ⟨g, m, _, rfl, Nat.zero_le _, h, Nat.le_refl _, hm, by simp [hf], by rw [List.take_of_length_le]; simp [hf]⟩⟩

set_option maxRecDepth 100000 in
set_option maxHeartbeats 1000000 in
theorem repeat_any (b off c : Nat) (v : Int) (m : Nat) (h1 : 1 ≤ m) (h2 : m ≤ 12) (w : World) (hb : b < w.heap.size) (hx : w.cell? ⟨b, off, none⟩ = some (.int .i64 v)) :
    Calls Try.prog 100 #[.slice (some ⟨b, off, none⟩) 1 c, .int .i64 m] w (NewRow (List.replicate m v) w) := by
  have hmu := mul_one (m : Int) (by omega) (by omega)
  have HMU := hid hmu
  clear hmu
  have hz : (Try.prog.info? 3).map (·.size) = some 1 := by kernel_rfl
  have HZ := hid hz
  clear hz
  have hm0 : (0 : Int) ≤ (m : Int) := by omega
  have hm1 : (m : Int) ≤ 12 := by omega
  have hn : ((m : Int) < 0) = False := by simp
  have hmk : ∀ W : World, (Instr.makeSlice 29 (.int .i64 (m : Int)) (.int .i64 (m : Int))).run Try.prog W = .ok (.slice (some ⟨W.heap.size, 0, none⟩) m m) (W.alloc (.cells (fillTo 0 m v).toArray 3)) := fun W => by
    rw [run_make_row' 29 3 (.int .i64 0) 8 Try.underlying29 info3 rfl .i64 .i64 m (by omega) (by omega) W, made_fill]
  have hl := fillTo_length 0 m v
  have HL := hid hl
  clear hl
  have ho := fillTo_one 0 m v
  have HO := hid ho
  clear ho
  generalize hf0 : fillTo 0 m v = f0 at *
  have HF0 := hid hf0
  clear hf0
  go_enter Try.func100, Try.ntmps100
  go_wp2_with (first
    | (go_at_call 103; refine (HMU.out _).mono ?_; rintro e w2 ⟨rfl, hw⟩; obtain rfl := hw.symm; clear hw)
    | ((refine wpList_copy_splice rfl (.tmp 31) (.tmp 32) 29 29 rfl 3 Try.underlying29 HZ.out _ _ _ _ _ _ rfl rfl w.heap.size 0 f0 3 (heap_alloc_new _ _) [.int .i64 v] (by show 1 = min 1 m; omega) (fun _ => ⟨rfl, _, rfl, one_at ((World.cell?_alloc_lt w _ _ hb).trans hx)⟩) (by rw [HL.out (by omega)]; show 0 + 1 ≤ m; omega) (one_one v) w.heap.size w (ext_alloc1 _ _) (Nat.le_refl _) ?_); intro w2 hg hB))
  have HG := hid (fill_first HF0.out h1 hg.out)
  have hE : Ext w w2 := hB
  clear hg hB hmk HF0 HO HL hx
  have HEQ := hid (⟨1, by omega, h1, rfl, HG⟩ : ∃ k : Nat, 1 ≤ k ∧ k ≤ m ∧ Value.int .i64 1 = .int .i64 (k : Int) ∧ Hid (w2.heap[w.heap.size]? = some (.cells (fillTo k m v).toArray 3 (0, 0))))
  clear HG
  go_loopw [8] (fun i wr => Ext w wr ∧ ∃ k : Nat, 1 ≤ k ∧ k ≤ m ∧ i = .int .i64 k ∧ Hid (wr.heap[w.heap.size]? = some (.cells (fillTo k m v).toArray 3 (0, 0)))) (fun i _ => m - (intOf i).toNat)
  case atStart => exact ⟨hE, HEQ.out⟩
  case round =>
    obtain ⟨hE, k, hk1, hk2, rfl, HG⟩ := hrel
    by_cases hlt : k < m
    · have hki : (k : Int) < (m : Int) := by omega
      have hk0 : (1 : Int) ≤ (k : Int) := by omega
      have hB : Below w.heap.size w wr := hE
      have HCS := hid (fill_src HG.out)
      have hsp := splice_fill k m (min k (m - k)) v (by omega)
      have HSP := hid hsp
      have HB := hid hB
      clear hsp hB
      go_wp2_with fail
      have hkm : (k : Int) ≤ (m : Int) := by omega
      go_region_held3 (fun _ => True) (trivial) ((refine step_copy_splice (by rfl) (.tmp 41) (.tmp 44) 29 29 (by rfl) 3 Try.underlying29 HZ.out _ (some ⟨w.heap.size, 0, none⟩) (m - k) (m - k) k m (by rfl) (by rfl) w.heap.size k (fillTo k m v) 3 (by exact HG.out) (List.replicate (min k (m - k)) (.int .i64 v)) (by rw [List.length_replicate]) (fun _ => ⟨if_neg (by omega), _, rfl, by exact HCS.out⟩) (by rw [List.length_replicate, fillTo_length k m v hk2]; omega) (rep_one _ v) w.heap.size w (by exact Below.drew HB.out) (Nat.le_refl _) ?_; intro w3 hg3 hB3))
      have HG3 := hid (show w3.heap[w.heap.size]? = some (.cells (fillTo (k + min k (m - k)) m v).toArray 3 (0, 0)) by rw [← HSP.out]; exact hg3.out)
      have hE3 : Ext w w3 := hB3
      clear hg3 hB3 HSP HB HCS HG
      go_wp2
      have hw := IntWalk.i64_in ((k : Int) + ((min k (m - k) : Nat) : Int)) (by omega)
      rw [hw]
      exact ⟨⟨hE3, k + min k (m - k), by omega, by omega, by rw [Int.natCast_add], HG3⟩, by simp only [intOf]; omega⟩
    · have hki : ((k : Int) < (m : Int)) = False := by simp; omega
      go_wp2_with fail
      go_ret
      obtain rfl : k = m := by omega
      exact NewRow.mk (g := w.heap.size) (cap := k) (by rw [List.length_replicate]; rfl) (row_fill HG.out (by unfold maxLen; omega)) (Nat.le_refl _) hE
end Go.Proofs.Ytndoghcglbpllaa
