/- An ease as an argument. -/
import Derived.Test.YtndoghcglbpllaaE01
import Derived.IntWalk
import Derived.Laws.CopyOwn
import Derived.Deep.RegionHeld3
import Derived.Deep.OwnRows
import Derived.RangeFuncNested
import Derived.RangeFuncBound
import Derived.RangeFuncCalls
import Derived.RangeFuncLeaves
import Derived.OwnWalkIn
import Derived.TacticsInMore
import Derived.LoopNIn
import Derived.LoopIn
set_option linter.unusedSimpArgs false
set_option linter.unusedVariables false
namespace Go.Proofs.Ytndoghcglbpllaa
open Go.RowKit
open Go.ChangeShapes Go.WideShapes Go.Deep Go.Joins
theorem list15 {α : Type} {cs : List α} (h : cs.length = 15) : ∃ c0 c1 c2 c3 c4 c5 c6 c7 c8 c9 c10 c11 c12 c13 c14, cs = [c0, c1, c2, c3, c4, c5, c6, c7, c8, c9, c10, c11, c12, c13, c14] := by
  match cs, h with
  | [c0, c1, c2, c3, c4, c5, c6, c7, c8, c9, c10, c11, c12, c13, c14], _ => exact ⟨_, _, _, _, _, _, _, _, _, _, _, _, _, _, _, rfl⟩
theorem cellsEase : Try.prog.cellsOf 59 = 15 := by kernel_rfl
section
variable {H : Type} {enc : TypeId × Value → H} {w : World} {base : Nat} {spare : Nat → Bool} {held : Bool}
set_option maxRecDepth 100000 in
theorem open_ease {r : Reach} {b0 : Nat} {v : Value} {d : DataW H} {p : List MemPlace} (hv : Value.okWide Try.prog w r b0 59 v) (h : DataW.Trod enc Try.prog w base spare held 59 v d p) :
    ∃ n0 n1 n2 n3 n4 n5 n6 f2 d2 g2 tl2 th2 sl2 sh2 om A c, v = .agg #[.int .i64 n0, .int .i64 n1, .int .i64 n2, .int .i64 n3, .int .i64 n4, .int .i64 n5, .int .i64 n6, .int .i64 f2, .int .i64 d2, .int .i64 g2, .int .i64 tl2, .int .i64 th2, .int .i64 sl2, .int .i64 sh2, .slice A (List.length om) c] ∧ om.length ≤ c ∧ OpensAt w A om := by
  obtain ⟨cs, rfl, hsz⟩ := okWide_struct Try.underlying59 hv
  have hl : cs.toList.length = 15 := by rw [Array.length_toList]; exact hsz.trans cellsEase
  obtain ⟨c0, c1, c2, c3, c4, c5, c6, c7, c8, c9, c10, c11, c12, c13, c14, hcs⟩ := list15 hl
  obtain rfl : cs = #[c0, c1, c2, c3, c4, c5, c6, c7, c8, c9, c10, c11, c12, c13, c14] := by
    apply Array.toList_inj.1
    exact hcs
  clear hcs hl
  obtain ⟨fuel, hf0⟩ := h
  obtain ⟨ys, n', hn', hy, hlen, hyl, hf⟩ := DataW.trod_struct Try.underlying59 hf0
  have h0 : DataW.trod enc Try.prog w base spare held n' 3 (([c0, c1, c2, c3, c4, c5, c6, c7, c8, c9, c10, c11, c12, c13, c14].drop 0).take (Try.prog.cellsOf 3)) = ys[0]? := hf 0 _ rfl
  obtain ⟨y0, e0⟩ := some_of_len hyl (k := 0) (by simp)
  rw [e0, cellsInt] at h0
  simp only [List.drop_zero, List.drop_succ_cons, List.take_succ_cons, List.take_zero] at h0
  obtain ⟨n0, g0, _, _⟩ := DataW.trod_int Try.underlying3 h0
  have h1 : DataW.trod enc Try.prog w base spare held n' 3 (([c0, c1, c2, c3, c4, c5, c6, c7, c8, c9, c10, c11, c12, c13, c14].drop 1).take (Try.prog.cellsOf 3)) = ys[1]? := hf 1 _ rfl
  obtain ⟨y1, e1⟩ := some_of_len hyl (k := 1) (by simp)
  rw [e1, cellsInt] at h1
  simp only [List.drop_zero, List.drop_succ_cons, List.take_succ_cons, List.take_zero] at h1
  obtain ⟨n1, g1, _, _⟩ := DataW.trod_int Try.underlying3 h1
  have h2 : DataW.trod enc Try.prog w base spare held n' 3 (([c0, c1, c2, c3, c4, c5, c6, c7, c8, c9, c10, c11, c12, c13, c14].drop 2).take (Try.prog.cellsOf 3)) = ys[2]? := hf 2 _ rfl
  obtain ⟨y2, e2⟩ := some_of_len hyl (k := 2) (by simp)
  rw [e2, cellsInt] at h2
  simp only [List.drop_zero, List.drop_succ_cons, List.take_succ_cons, List.take_zero] at h2
  obtain ⟨n2, g2, _, _⟩ := DataW.trod_int Try.underlying3 h2
  have h3 : DataW.trod enc Try.prog w base spare held n' 3 (([c0, c1, c2, c3, c4, c5, c6, c7, c8, c9, c10, c11, c12, c13, c14].drop 3).take (Try.prog.cellsOf 3)) = ys[3]? := hf 3 _ rfl
  obtain ⟨y3, e3⟩ := some_of_len hyl (k := 3) (by simp)
  rw [e3, cellsInt] at h3
  simp only [List.drop_zero, List.drop_succ_cons, List.take_succ_cons, List.take_zero] at h3
  obtain ⟨n3, g3, _, _⟩ := DataW.trod_int Try.underlying3 h3
  have h4 : DataW.trod enc Try.prog w base spare held n' 3 (([c0, c1, c2, c3, c4, c5, c6, c7, c8, c9, c10, c11, c12, c13, c14].drop 4).take (Try.prog.cellsOf 3)) = ys[4]? := hf 4 _ rfl
  obtain ⟨y4, e4⟩ := some_of_len hyl (k := 4) (by simp)
  rw [e4, cellsInt] at h4
  simp only [List.drop_zero, List.drop_succ_cons, List.take_succ_cons, List.take_zero] at h4
  obtain ⟨n4, g4, _, _⟩ := DataW.trod_int Try.underlying3 h4
  have h5 : DataW.trod enc Try.prog w base spare held n' 3 (([c0, c1, c2, c3, c4, c5, c6, c7, c8, c9, c10, c11, c12, c13, c14].drop 5).take (Try.prog.cellsOf 3)) = ys[5]? := hf 5 _ rfl
  obtain ⟨y5, e5⟩ := some_of_len hyl (k := 5) (by simp)
  rw [e5, cellsInt] at h5
  simp only [List.drop_zero, List.drop_succ_cons, List.take_succ_cons, List.take_zero] at h5
  obtain ⟨n5, g5, _, _⟩ := DataW.trod_int Try.underlying3 h5
  have h6 : DataW.trod enc Try.prog w base spare held n' 3 (([c0, c1, c2, c3, c4, c5, c6, c7, c8, c9, c10, c11, c12, c13, c14].drop 6).take (Try.prog.cellsOf 3)) = ys[6]? := hf 6 _ rfl
  obtain ⟨y6, e6⟩ := some_of_len hyl (k := 6) (by simp)
  rw [e6, cellsInt] at h6
  simp only [List.drop_zero, List.drop_succ_cons, List.take_succ_cons, List.take_zero] at h6
  obtain ⟨n6, g6, _, _⟩ := DataW.trod_int Try.underlying3 h6
  have h7 : DataW.trod enc Try.prog w base spare held n' 56 (([c0, c1, c2, c3, c4, c5, c6, c7, c8, c9, c10, c11, c12, c13, c14].drop 7).take (Try.prog.cellsOf 56)) = ys[7]? := hf 7 _ rfl
  obtain ⟨y7, e7⟩ := some_of_len hyl (k := 7) (by simp)
  rw [e7, cellsPath] at h7
  simp only [List.drop_zero, List.drop_succ_cons, List.take_succ_cons, List.take_zero] at h7
  obtain ⟨⟨f2, d2, gg2, tl2, th2, sl2, sh2, om⟩, A, c, g7, hc, ho⟩ := open_path h7
  simp only [List.cons.injEq, and_true] at g0 g1 g2 g3 g4 g5 g6
  simp only [pcellsL, List.cons.injEq, and_true] at g7
  obtain ⟨u0, u1, u2, u3, u4, u5, u6, u7⟩ := g7
  subst g0 g1 g2 g3 g4 g5 g6 u0 u1 u2 u3 u4 u5 u6 u7
  exact ⟨n0, n1, n2, n3, n4, n5, n6, f2, d2, gg2, tl2, th2, sl2, sh2, om, A, c, rfl, hc, ho⟩
end
end Go.Proofs.Ytndoghcglbpllaa
/- Rows of numbers of the call's own; slices.Clone over numbers. -/
set_option linter.unusedSimpArgs false
set_option linter.unusedVariables false
namespace Go.Proofs.Ytndoghcglbpllaa
open Go.RowKit

theorem info3 : (Try.prog.info? 3).map (fun i => (i.zero, i.size, i.bytes)) = some (some (.int .i64 0), 1, 8) := by kernel_rfl

def ints (xs : List Int) : List Value := xs.map (Value.int .i64)
theorem ints_getD (xs : List Int) (k : Nat) (h : k < xs.length) : (ints xs)[k]? = some (.int .i64 (xs.getD k 0)) := by
  simp [ints, List.getD, List.getElem?_eq_getElem h]

theorem ints_one (xs : List Int) : ∀ u ∈ ints xs, u.oneCell' = true := by
  intro u hu
  obtain ⟨x, _, rfl⟩ := List.mem_map.1 hu
  rfl
theorem addBlock (a : Addr) (n : Nat) : (a.add n).block = a.block := by unfold Addr.add; split <;> rfl

/-- Block g is a row of numbers of the call's own. -/
def RowAt (w : World) (g cap : Nat) (xs : List Int) : Prop := g < w.heap.size ∧ w.ownsRow 0 3 1 (.slice (some ⟨g, 0, none⟩) xs.length cap) xs.length (ints xs)
theorem RowAt.lt {w : World} {g cap : Nat} {xs : List Int} (h : RowAt w g cap xs) : g < w.heap.size := h.1
theorem RowAt.cell {w : World} {g cap : Nat} {xs : List Int} (h : RowAt w g cap xs) {k : Nat} (hk : k < xs.length) : w.cell? ⟨g, k, none⟩ = some (.int .i64 (xs.getD k 0)) := by
  rw [h.2.cellAt k (by omega), ints_getD xs k hk]
theorem RowAt.fro {w : World} {g cap : Nat} {xs : List Int} (h : RowAt w g cap xs) (k : Nat) : w.frozen? ⟨g, k, none⟩ = false := h.2.frozenAt k
theorem RowAt.set {w : World} {g cap : Nat} {xs : List Int} (h : RowAt w g cap xs) (k : Nat) (x : Int) : RowAt (w.setCell ⟨g, k, none⟩ (.int .i64 x)) g cap (xs.set k x) := by
  refine ⟨by simpa using h.1, ?_⟩
  have := (h.2.stored k (.int .i64 x)).1
  simpa [ints, List.map_set] using this
theorem RowAt.ints {w : World} {g cap : Nat} {xs : List Int} (h : RowAt w g cap xs) : IntsAt w (some ⟨g, 0, none⟩) xs := fun _ => ⟨g, 0, rfl, h.1, fun k hk => by rw [Nat.zero_add]; exact h.cell hk⟩
theorem RowAt.ext {w w' : World} {g cap : Nat} {xs : List Int} (h : RowAt w g cap xs) (e : Ext w w') : RowAt w' g cap xs := by
  refine ⟨Nat.lt_of_lt_of_le h.1 e.size, ?_⟩
  obtain ⟨hl, hd⟩ := h.2
  refine ⟨hl, ?_⟩
  rcases hd with h0 | ⟨g', cap', cur, hv, hb, hh, h3, h4, h5, h6⟩
  · exact .inl h0
  · refine .inr ⟨g', cap', cur, hv, hb, ?_, h3, h4, h5, h6⟩
    have hg : g' = g := by
      injection hv with hv
      injection hv with hv
      injection hv with hv
      exact hv.symm
    subst hg
    exact (Below.block e g' h.1).trans hh
theorem RowAt.setFar {w : World} {g cap : Nat} {xs : List Int} (h : RowAt w g cap xs) {p : Addr} (hp : p.block ≠ g) (u : Value) : RowAt (w.setCell p u) g cap xs := by
  refine ⟨by simpa using h.1, ?_⟩
  obtain ⟨hl, hd⟩ := h.2
  refine ⟨hl, ?_⟩
  rcases hd with h0 | ⟨g', cap', cur, hv, hb, hh, h3, h4, h5, h6⟩
  · exact .inl h0
  · refine .inr ⟨g', cap', cur, hv, hb, ?_, h3, h4, h5, h6⟩
    have hg : g' = g := by
      injection hv with hv
      injection hv with hv
      injection hv with hv
      exact hv.symm
    subst hg
    exact (Below.heap_setCell w p u g' (fun e => hp e.symm)).trans hh
/-- The call returns a new row. -/
def NewRow (xs : List Int) (w : World) (e : Ending) (w' : World) : Prop :=
  ∃ g cap, e = .returned (.slice (some ⟨g, 0, none⟩) xs.length cap) ∧ RowAt w' g cap xs ∧ w.heap.size ≤ g ∧ Ext w w'
theorem NewRow.mk {xs : List Int} {w w' : World} {e : Ending} {g cap : Nat} (h : e = .returned (.slice (some ⟨g, 0, none⟩) xs.length cap)) (hr : RowAt w' g cap xs) (hg : w.heap.size ≤ g) (he : Ext w w') : NewRow xs w e w' := ⟨g, cap, h, hr, hg, he⟩
theorem row_of_own {w : World} {base : Nat} {v : Value} {n : Nat} {xs : List Int} (h : w.ownsRow base 3 1 v n (ints xs)) (hn : 0 < n) : ∃ g cap, v = .slice (some ⟨g, 0, none⟩) xs.length cap ∧ base ≤ g ∧ RowAt w g cap xs := by
  obtain ⟨hl, hd⟩ := h
  have hx : n = xs.length := by simpa [ints] using hl.symm
  subst hx
  rcases hd with ⟨_, h0⟩ | ⟨g, cap, cur, hv, hb, hh, h3, h4, h5, h6⟩
  · omega
  · exact ⟨g, cap, hv, hb, (Array.getElem?_eq_some_iff.1 hh).1, hl, .inr ⟨g, cap, cur, rfl, Nat.zero_le _, hh, h3, h4, h5, h6⟩⟩

theorem ext_of_grown {w w1 w' : World} {row : Option Nat} (h : Ext w w1) (hg : w1.grownBy w' row) (hr : ∀ k, row = some k → w.heap.size ≤ k) : Ext w w' := Below.grown h hg h.size hr

set_option maxHeartbeats 1000000 in
theorem cloneInts_any (b off c : Nat) (xs : List Int) (hm : xs.length ≤ 1000) (hp : 0 < xs.length) (w : World) (hx : IntsAt w (some ⟨b, off, none⟩) xs) :
    Calls Try.prog 104 #[.slice (some ⟨b, off, none⟩) xs.length c] w (NewRow xs w) := by
  have hcell : ∀ j u, (ints xs)[j]? = some u → w.cell? (Addr.add ⟨b, off, none⟩ j) = some u := by
    obtain ⟨b', off', hA, hb, hc⟩ := hx (by rintro rfl; simp at hp)
    injection hA with hA
    injection hA with h1 h2
    subst h1 h2
    intro j u hj
    have hjl : j < xs.length := by
      have := (List.getElem?_eq_some_iff.1 hj).1
      simpa [ints] using this
    rw [ints_getD xs j hjl] at hj
    injection hj with hj
    subst hj
    rw [show Addr.add ⟨b, off, none⟩ j = ⟨b, off + j, none⟩ from by unfold Addr.add; split <;> simp_all]
    exact hc j hjl
  have hb : b < w.heap.size := by
    obtain ⟨b', off', hA, hb, hc⟩ := hx (by rintro rfl; simp at hp)
    injection hA with hA
    injection hA with h1 h2
    subst h1
    exact hb
  have H := hid hcell
  clear hcell hx
  obtain ⟨i0, hi, hz0, hz1, hz2⟩ := info_parts info3
  have HI := hid hi
  have HZ0 := hid hz0
  have HZ1 := hid hz1
  have HZ2 := hid hz2
  clear hi hz0 hz1 hz2
  have hnil : ∀ (W : World) (a : Option Addr) (n c n' c' : Nat), (binOp .eql 29 (.slice a n c) (.slice none n' c')).run Try.prog W = .ok (.bool a.isNone) W := fun W a n c n' c' => Lib.run_eql_slice_nil W _ _ a n c n' c' Try.underlying29
  go_enter Try.func104, Try.ntmps104
  have h0 := World.ownsRow_lit (base := w.heap.size) (e := 3) (size := 1) w #[] 0 (Nat.le_refl _) (by unfold maxLen; omega) rfl
  have H0 := hid h0
  clear h0
  go_wp2_with (at_builtin; refine wpList_append_own _ rfl _ _ 29 rfl w.heap.size 3 i0 (.int .i64 0) 1 8 Try.underlying29 HI.out HZ0.out HZ1.out HZ2.out rfl (by decide) _ _ _ rfl H0.out ⟨b, off, none⟩ xs.length _ (ints xs) rfl (by simp [ints]) (fun j u hj => (World.cell?_alloc_lt w _ _ (by rw [addBlock]; exact hb)).trans (H.out j u hj)) (ints_one xs) (by unfold maxLen; omega) (by omega) (by simp) ?_; intro v' w2 hown hgrow _)
  simp only [List.nil_append, Nat.zero_add] at hown
  obtain ⟨g, cap, rfl, hg, hrow⟩ := row_of_own hown hp
  have hE : Ext w w2 := ext_of_grown (ext_alloc1 _ _) hgrow (fun k hk => by have hk' : some w.heap.size = some k := hk; injection hk' with hk'; omega)
  have hG := hid hg
  have hR := hid hrow
  clear hown hgrow hg hrow H H0
  go_wp2
  go_ret
  exact NewRow.mk rfl hR.out hG.out hE
end Go.Proofs.Ytndoghcglbpllaa
/- math/bits.Mul of 1 and a small number. -/
set_option linter.unusedSimpArgs false
set_option linter.unusedVariables false
namespace Go.Proofs.Ytndoghcglbpllaa
open Go.RowKit
set_option maxHeartbeats 4000000 in
theorem mul64_one (m : Int) (h1 : 0 ≤ m) (h2 : m ≤ 12) (w : World) :
    Calls Try.prog 106 #[.int .u64 1, .int .u64 m] w fun e w' => e = .returned (.tuple #[.int .u64 0, .int .u64 m]) ∧ w' = w := by
  obtain rfl | rfl | rfl | rfl | rfl | rfl | rfl | rfl | rfl | rfl | rfl | rfl | rfl : m = 0 ∨ m = 1 ∨ m = 2 ∨ m = 3 ∨ m = 4 ∨ m = 5 ∨ m = 6 ∨ m = 7 ∨ m = 8 ∨ m = 9 ∨ m = 10 ∨ m = 11 ∨ m = 12 := by omega
  all_goals
    clear h1 h2
    go_enter Try.func106, Try.ntmps106
    go_wp2
    go_ret2
    exact ⟨rfl, rfl⟩
set_option maxHeartbeats 400000 in
theorem mul_one (m : Int) (h1 : 0 ≤ m) (h2 : m ≤ 12) (w : World) :
    Calls Try.prog 103 #[.int .u64 1, .int .u64 m] w fun e w' => e = .returned (.tuple #[.int .u64 0, .int .u64 m]) ∧ w' = w := by
  go_enter Try.func103, Try.ntmps103
  go_wp2_with (go_at_call 106; refine (mul64_one _ h1 h2 _).mono ?_; rintro e w2 ⟨rfl, rfl⟩)
  go_ret2
  exact ⟨rfl, rfl⟩
end Go.Proofs.Ytndoghcglbpllaa
/- slices.Repeat of one number. -/
set_option linter.unusedSimpArgs false
set_option linter.unusedVariables false
namespace Go.Proofs.Ytndoghcglbpllaa
open Go.RowKit
def fillTo (k m : Nat) (v : Int) : List Value := List.replicate k (.int .i64 v) ++ List.replicate (m - k) (.int .i64 0)
theorem fillTo_length (k m : Nat) (v : Int) : k ≤ m → (fillTo k m v).length = m := by intro h; simp [fillTo]; omega
theorem fillTo_one (k m : Nat) (v : Int) : ∀ u ∈ fillTo k m v, u.oneCell' = true := by
  intro u hu
  simp only [fillTo, List.mem_append, List.mem_replicate] at hu
  rcases hu with ⟨_, rfl⟩ | ⟨_, rfl⟩ <;> rfl
theorem fillTo_get (k m : Nat) (v : Int) {j : Nat} (h : j < k) : (fillTo k m v)[j]? = some (.int .i64 v) := by
  simp [fillTo, List.getElem?_append_left, h]
theorem splice_fill (k m j : Nat) (v : Int) (_h : k + j ≤ m) : splice (fillTo k m v) k (List.replicate j (.int .i64 v)) = fillTo (k + j) m v := by
  unfold splice fillTo
  rw [List.take_left' (by simp), List.length_replicate, List.drop_append]
  simp only [List.length_replicate, List.drop_replicate]
  rw [show k - (k + j) = 0 from by omega, show k + j - k = j from by omega, show m - k - j = m - (k + j) from by omega]
  rw [← List.append_assoc, List.replicate_append_replicate]
  simp

theorem made_fill (m : Nat) (v : Int) : madeCells #[.int .i64 0] m = (fillTo 0 m v).toArray := by
  have h := toList_madeCells_one (.int .i64 0) m
  rw [← Array.toArray_toList (xs := madeCells #[.int .i64 0] m), h]
  simp [fillTo]

theorem one_at {w : World} {ad : Addr} {v : Int} (h : w.cell? ad = some (.int .i64 v)) : ∀ j u, ([.int .i64 v] : List Value)[j]? = some u → w.cell? (ad.add j) = some u := by
  intro j u hj
  have hj0 : j = 0 := by
    have := (List.getElem?_eq_some_iff.1 hj).1
    simpa using this
  subst hj0
  simp at hj
  subst hj
  exact h
theorem one_one (v : Int) : ∀ u ∈ ([.int .i64 v] : List Value), u.oneCell' = true := by
  intro u hu
  simp at hu
  subst hu
  rfl
theorem rep_one (n : Nat) (v : Int) : ∀ u ∈ List.replicate n (Value.int .i64 v), u.oneCell' = true := by
  intro u hu
  obtain ⟨_, rfl⟩ := List.mem_replicate.1 hu
  rfl
theorem fill_first {w : World} {g m : Nat} {v : Int} {f0 : List Value} (hf : fillTo 0 m v = f0) (h1 : 1 ≤ m) (h : w.heap[g]? = some (.cells (splice f0 0 [.int .i64 v]).toArray 3 (0, 0))) :
    w.heap[g]? = some (.cells (fillTo 1 m v).toArray 3 (0, 0)) := by
  subst hf
  have := splice_fill 0 m 1 v (by omega)
  rw [show ([Value.int .i64 v] : List Value) = List.replicate 1 (.int .i64 v) from rfl] at h
  rw [this] at h
  exact h

theorem fill_src {w : World} {g k m : Nat} {v : Int} (h : w.heap[g]? = some (.cells (fillTo k m v).toArray 3 (0, 0))) : ∀ j u, (List.replicate (min k (m - k)) (Value.int .i64 v))[j]? = some u → w.cell? (Addr.add ⟨g, 0, none⟩ j) = some u := by
  intro j u hu
  have hj : j < min k (m - k) := by
    have := (List.getElem?_eq_some_iff.1 hu).1
    simpa using this
  have hv : u = .int .i64 v := by
    rw [List.getElem?_replicate, if_pos hj] at hu
    injection hu with hu
    exact hu.symm
  subst hv
  have e : Addr.add ⟨g, 0, none⟩ j = ⟨g, j, none⟩ := by unfold Addr.add; split <;> simp_all
  rw [e, cell_of_row w g j _ 3 (0, 0) h]
  simpa using fillTo_get k m v (j := j) (by omega)

theorem row_fill {w : World} {g m : Nat} {v : Int} (h : w.heap[g]? = some (.cells (fillTo m m v).toArray 3 (0, 0))) (hm : m ≤ maxLen) : RowAt w g m (List.replicate m v) := by
  have hl : (List.replicate m v).length = m := List.length_replicate
  have hi : ints (List.replicate m v) = fillTo m m v := by simp [ints, fillTo]
  refine ⟨(Array.getElem?_eq_some_iff.1 h).1, ?_⟩
  rw [hl, hi]
  have hf := fillTo_length m m v (Nat.le_refl _)
  exact ⟨by rw [hf, Nat.mul_one], .inr ⟨g, m, _, rfl, Nat.zero_le _, h, Nat.le_refl _, hm, by simp [hf], by rw [List.take_of_length_le]; simp [hf]⟩⟩

set_option maxRecDepth 100000 in
set_option maxHeartbeats 1000000 in
theorem repeat_any (b off c : Nat) (v : Int) (m : Nat) (h1 : 1 ≤ m) (h2 : m ≤ 12) (w : World) (hb : b < w.heap.size) (hx : w.cell? ⟨b, off, none⟩ = some (.int .i64 v)) :
    Calls Try.prog 100 #[.slice (some ⟨b, off, none⟩) 1 c, .int .i64 m] w (NewRow (List.replicate m v) w) := by
  have hmu := mul_one (m : Int) (by omega) (by omega)
  have HMU := hid hmu
  clear hmu
  have hz : (Try.prog.info? 3).map (·.size) = some 1 := by kernel_rfl
  have HZ := hid hz
  clear hz
  have hm0 : (0 : Int) ≤ (m : Int) := by omega
  have hm1 : (m : Int) ≤ 12 := by omega
  have hn : ((m : Int) < 0) = False := by simp
  have hmk : ∀ W : World, (Instr.makeSlice 29 (.int .i64 (m : Int)) (.int .i64 (m : Int))).run Try.prog W = .ok (.slice (some ⟨W.heap.size, 0, none⟩) m m) (W.alloc (.cells (fillTo 0 m v).toArray 3)) := fun W => by
    rw [run_make_row' 29 3 (.int .i64 0) 8 Try.underlying29 info3 rfl .i64 .i64 m (by omega) (by omega) W, made_fill]
  have hl := fillTo_length 0 m v
  have HL := hid hl
  clear hl
  have ho := fillTo_one 0 m v
  have HO := hid ho
  clear ho
  generalize hf0 : fillTo 0 m v = f0 at *
  have HF0 := hid hf0
  clear hf0
  go_enter Try.func100, Try.ntmps100
  go_wp2_with (first
    | (go_at_call 103; refine (HMU.out _).mono ?_; rintro e w2 ⟨rfl, hw⟩; obtain rfl := hw.symm; clear hw)
    | ((refine wpList_copy_splice rfl (.tmp 31) (.tmp 32) 29 29 rfl 3 Try.underlying29 HZ.out _ _ _ _ _ _ rfl rfl w.heap.size 0 f0 3 (heap_alloc_new _ _) [.int .i64 v] (by show 1 = min 1 m; omega) (fun _ => ⟨rfl, _, rfl, one_at ((World.cell?_alloc_lt w _ _ hb).trans hx)⟩) (by rw [HL.out (by omega)]; show 0 + 1 ≤ m; omega) (one_one v) w.heap.size w (ext_alloc1 _ _) (Nat.le_refl _) ?_); intro w2 hg hB))
  have HG := hid (fill_first HF0.out h1 hg.out)
  have hE : Ext w w2 := hB
  clear hg hB hmk HF0 HO HL hx
  have HEQ := hid (⟨1, by omega, h1, rfl, HG⟩ : ∃ k : Nat, 1 ≤ k ∧ k ≤ m ∧ Value.int .i64 1 = .int .i64 (k : Int) ∧ Hid (w2.heap[w.heap.size]? = some (.cells (fillTo k m v).toArray 3 (0, 0))))
  clear HG
  go_loopw [8] (fun i wr => Ext w wr ∧ ∃ k : Nat, 1 ≤ k ∧ k ≤ m ∧ i = .int .i64 k ∧ Hid (wr.heap[w.heap.size]? = some (.cells (fillTo k m v).toArray 3 (0, 0)))) (fun i _ => m - (intOf i).toNat)
  case atStart => exact ⟨hE, HEQ.out⟩
  case round =>
    obtain ⟨hE, k, hk1, hk2, rfl, HG⟩ := hrel
    by_cases hlt : k < m
    · have hki : (k : Int) < (m : Int) := by omega
      have hk0 : (1 : Int) ≤ (k : Int) := by omega
      have hB : Below w.heap.size w wr := hE
      have HCS := hid (fill_src HG.out)
      have hsp := splice_fill k m (min k (m - k)) v (by omega)
      have HSP := hid hsp
      have HB := hid hB
      clear hsp hB
      go_wp2_with fail
      have hkm : (k : Int) ≤ (m : Int) := by omega
      go_region_held3 (fun _ => True) (trivial) ((refine step_copy_splice (by rfl) (.tmp 41) (.tmp 44) 29 29 (by rfl) 3 Try.underlying29 HZ.out _ (some ⟨w.heap.size, 0, none⟩) (m - k) (m - k) k m (by rfl) (by rfl) w.heap.size k (fillTo k m v) 3 (by exact HG.out) (List.replicate (min k (m - k)) (.int .i64 v)) (by rw [List.length_replicate]) (fun _ => ⟨if_neg (by omega), _, rfl, by exact HCS.out⟩) (by rw [List.length_replicate, fillTo_length k m v hk2]; omega) (rep_one _ v) w.heap.size w (by exact Below.drew HB.out) (Nat.le_refl _) ?_; intro w3 hg3 hB3))
      have HG3 := hid (show w3.heap[w.heap.size]? = some (.cells (fillTo (k + min k (m - k)) m v).toArray 3 (0, 0)) by rw [← HSP.out]; exact hg3.out)
      have hE3 : Ext w w3 := hB3
      clear hg3 hB3 HSP HB HCS HG
      go_wp2
      have hw := IntWalk.i64_in ((k : Int) + ((min k (m - k) : Nat) : Int)) (by omega)
      rw [hw]
      exact ⟨⟨hE3, k + min k (m - k), by omega, by omega, by rw [Int.natCast_add], HG3⟩, by simp only [intOf]; omega⟩
    · have hki : ((k : Int) < (m : Int)) = False := by simp; omega
      go_wp2_with fail
      go_ret
      obtain rfl : k = m := by omega
      exact NewRow.mk (g := w.heap.size) (cap := k) (by rw [List.length_replicate]; rfl) (row_fill HG.out (by unfold maxLen; omega)) (Nat.le_refl _) hE
end Go.Proofs.Ytndoghcglbpllaa
/- A region that draws its order, in a round of a range over a function: by the held walk of the plain logic. -/
set_option linter.unusedSimpArgs false
set_option linter.unusedVariables false
namespace Go.Proofs.Ytndoghcglbpllaa
open Go.RowKit
section
variable {P : Program} {ops : Array Oper} {Q : Exit → Act → World → Prop} {l n : Nat}

theorem rowsIn_round {row : String} {args : Array Value} {w : World} {R : Value → World → Prop} (h : Rows P row args w R) : RowsIn (Fence.wide.inRound l) n P row args w R :=
  fun c cs _ => let ⟨v, w', r, s⟩ := h c cs; ⟨v, w', r, stepsIn_wide.2 s⟩

theorem oper_in {o : Oper} {a : Act} {w : World} {K K' : Act → World → Prop} (hnd : ∀ c, o.op ≠ .defer c) (hK : ∀ a w, K a w → K' a w) (h : o.wp P a w K Q) : o.wpIn (Fence.wide.inRound l) n P a w K' Q := by
  refine ⟨fun _ _ => trivial, ?_⟩
  unfold Oper.wp at h
  rw [Oper.semAt_eq _ _ _ hnd]
  revert h
  generalize (execOp a.eval o).run P w = r
  intro h
  match r, h with
  | .ok (.value v) w', h => exact hK _ _ h
  | .ok .skip w', h => exact hK _ _ h
  | .ok (.defer d) w', h => exact hK _ _ h
  | .ok (.enter f args) w', h =>
    refine ⟨fun hh => by simp [Fence.wide, Fence.inRound] at hh, ?_⟩
    refine CallsIn.inRound l (callsIn_wide.2 (Calls.mono h ?_))
    intro e w'' he
    cases e with
    | returned v => exact hK _ _ he
    | panicked c => exact he
    | outgrown => exact he
  | .ok (.row row args) w', h => exact ⟨fun hh => by simp [Fence.wide, Fence.inRound] at hh, rowsIn_round (Rows.mono h fun _ _ hh => hK _ _ hh)⟩
  | .halt (.panic v) w', h => exact h

theorem ops_in (hQ : ¬ LetsOut Q) (hnd : ∀ o, o ∈ ops → ∀ c, o.op ≠ .defer c) : ∀ (list : List Nat) (a : Act) (w : World), wpOps P ops Q list a w → wpOpsIn (Fence.wide.inRound l) n P ops Q list a w
  | [], _, _, h => h
  | i :: rest, a, w, h => by
    unfold wpOps at h
    unfold wpOpsIn
    cases ho : ops[i]? with
    | none =>
      rw [ho] at h
      exact ops_in hQ hnd rest a w h
    | some o =>
      rw [ho] at h
      dsimp only at h ⊢
      by_cases hw : Region.wanted o (yielded ops a.tmps) = true
      · rw [if_pos hw] at h ⊢
        rcases h with h | ⟨_, h⟩
        · exact oper_in (hnd o (Array.mem_of_getElem? ho)) (fun a w hh => ops_in hQ hnd rest a w hh) h
        · exact absurd h hQ
      · rw [if_neg hw] at h ⊢
        exact ⟨fun _ _ => trivial, ops_in hQ hnd rest _ w h⟩

def noDefer (ops : Array Oper) : Bool := ops.all fun o => match o.op with | .defer _ => false | _ => true
theorem noDefer_spec (h : noDefer ops = true) : ∀ o, o ∈ ops → ∀ c, o.op ≠ .defer c := by
  intro o ho c hc
  unfold noDefer at h
  rw [Array.all_eq_true_iff_forall_mem] at h
  have := h o ho
  simp [hc] at this

/-- The beginning of the held walk, in a round. -/
theorem wpIn_region_held {S : World → Prop} {id : Nat} {a : Act} {w : World} (hm : P.follows .mixedOrders = true) (hd : noDefer ops = true) (hQ : ¬ LetsOut Q) (hS : S w.drew)
    (h : S w.drew → wpAnyH P .any ops Q S ops.size (Array.replicate ops.size false) a w.drew) : (Code.region id ops true).wpIn (Fence.wide.inRound l) n P Q a w :=
  wpIn_region_draw fun t => by
    simp only [Region.schedule, hm, Bool.true_or, if_true]
    exact ops_in hQ (noDefer_spec hd) _ a _ (wpAny_sound ops.size t _ a _ (wpAny_of_held _ _ _ _ (h hS)))
end
theorem noOut_ownPostG {α : Type} {B : Nat} {Kp : World → World → Prop} {I : List α → World → Prop} {Ix : Code → List α → World → Prop} {xs : List α} {W : World} : ¬ LetsOut (ownPostG B Kp I Ix xs W) := fun ⟨_, _, h⟩ => h

/-- What a round keeps: all that lies below n, and block b. -/
def KpB (n b : Nat) (A B : World) : Prop := Below n A B ∧ B.heap[b]? = A.heap[b]?
theorem kpB_t {n b : Nat} {A B C : World} (h : KpB n b A B) (k : KpB n b B C) : KpB n b A C := ⟨h.1.trans k.1, k.2.trans h.2⟩
theorem kpB_b {n b : Nat} {w : World} (hn : n ≤ w.heap.size) (hb : b < w.heap.size) (W : World) (l : Nat) (o o' : Obj) (hl : w.heap.size ≤ l) (h : W.heap[l]? = some o) (hc : o.isCells = false) (hw : o.isWalk = false) : KpB n b W (W.putObj l o') :=
  ⟨belowK_b hn W l o o' hl h hc hw, World.putObj_heap_other (by omega)⟩
theorem KpB.cell {n b : Nat} {A B : World} (h : KpB n b A B) (i : Nat) : B.cell? ⟨b, i, none⟩ = A.cell? ⟨b, i, none⟩ := World.cell?_of_block h.2
end Go.Proofs.Ytndoghcglbpllaa
