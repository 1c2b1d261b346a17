/- Rows of numbers of the call's own; slices.Clone over numbers. -/
import Derived.Test.YtndoghcglbpllaaBase
set_option linter.unusedSimpArgs false
set_option linter.unusedVariables false
namespace Go.Proofs.Ytndoghcglbpllaa
open Go.RowKit

theorem info3 : (Try.prog.info? 3).map (fun i => (i.zero, i.size, i.bytes)) = some (some (.int .i64 0), 1, 8) := by kernel_rfl

def ints (xs : List Int) : List Value := xs.map (Value.int .i64)
theorem ints_getD (xs : List Int) (k : Nat) (h : k < xs.length) : (ints xs)[k]? = some (.int .i64 (xs.getD k 0)) := by
  simp [ints, List.getD, List.getElem?_eq_getElem h]

theorem ints_one (xs : List Int) : ∀ u ∈ ints xs, u.oneCell' = true := by
  intro u hu
  obtain ⟨x, _, rfl⟩ := List.mem_map.1 hu
  rfl
theorem addBlock (a : Addr) (n : Nat) : (a.add n).block = a.block := by unfold Addr.add; split <;> rfl

/-- Block g is a row of numbers of the call's own. -/
def RowAt (w : World) (g cap : Nat) (xs : List Int) : Prop := g < w.heap.size ∧ w.ownsRow 0 3 1 (.slice (some ⟨g, 0, none⟩) xs.length cap) xs.length (ints xs)
theorem RowAt.lt {w : World} {g cap : Nat} {xs : List Int} (h : RowAt w g cap xs) : g < w.heap.size := h.1
theorem RowAt.cell {w : World} {g cap : Nat} {xs : List Int} (h : RowAt w g cap xs) {k : Nat} (hk : k < xs.length) : w.cell? ⟨g, k, none⟩ = some (.int .i64 (xs.getD k 0)) := by
  rw [h.2.cellAt k (by omega), ints_getD xs k hk]
theorem RowAt.fro {w : World} {g cap : Nat} {xs : List Int} (h : RowAt w g cap xs) (k : Nat) : w.frozen? ⟨g, k, none⟩ = false := h.2.frozenAt k
theorem RowAt.set {w : World} {g cap : Nat} {xs : List Int} (h : RowAt w g cap xs) (k : Nat) (x : Int) : RowAt (w.setCell ⟨g, k, none⟩ (.int .i64 x)) g cap (xs.set k x) := by
  refine ⟨by simpa using h.1, ?_⟩
  have := (h.2.stored k (.int .i64 x)).1
  simpa [ints, List.map_set] using this
theorem RowAt.ints {w : World} {g cap : Nat} {xs : List Int} (h : RowAt w g cap xs) : IntsAt w (some ⟨g, 0, none⟩) xs := fun _ => ⟨g, 0, rfl, h.1, fun k hk => by rw [Nat.zero_add]; exact h.cell hk⟩
theorem RowAt.ext {w w' : World} {g cap : Nat} {xs : List Int} (h : RowAt w g cap xs) (e : Ext w w') : RowAt w' g cap xs := by
  refine ⟨Nat.lt_of_lt_of_le h.1 e.size, ?_⟩
  obtain ⟨hl, hd⟩ := h.2
  refine ⟨hl, ?_⟩
  rcases hd with h0 | ⟨g', cap', cur, hv, hb, hh, h3, h4, h5, h6⟩
  · exact .inl h0
  · refine .inr ⟨g', cap', cur, hv, hb, ?_, h3, h4, h5, h6⟩
    have hg : g' = g := by
      injection hv with hv
      injection hv with hv
      injection hv with hv
      exact hv.symm
    subst hg
    exact (Below.block e g' h.1).trans hh
theorem RowAt.setFar {w : World} {g cap : Nat} {xs : List Int} (h : RowAt w g cap xs) {p : Addr} (hp : p.block ≠ g) (u : Value) : RowAt (w.setCell p u) g cap xs := by
  refine ⟨by simpa using h.1, ?_⟩
  obtain ⟨hl, hd⟩ := h.2
  refine ⟨hl, ?_⟩
  rcases hd with h0 | ⟨g', cap', cur, hv, hb, hh, h3, h4, h5, h6⟩
  · exact .inl h0
  · refine .inr ⟨g', cap', cur, hv, hb, ?_, h3, h4, h5, h6⟩
    have hg : g' = g := by
      injection hv with hv
      injection hv with hv
      injection hv with hv
      exact hv.symm
    subst hg
    exact (Below.heap_setCell w p u g' (fun e => hp e.symm)).trans hh
/-- The call returns a new row. -/
def NewRow (xs : List Int) (w : World) (e : Ending) (w' : World) : Prop :=
  ∃ g cap, e = .returned (.slice (some ⟨g, 0, none⟩) xs.length cap) ∧ RowAt w' g cap xs ∧ w.heap.size ≤ g ∧ Ext w w'
theorem NewRow.mk {xs : List Int} {w w' : World} {e : Ending} {g cap : Nat} (h : e = .returned (.slice (some ⟨g, 0, none⟩) xs.length cap)) (hr : RowAt w' g cap xs) (hg : w.heap.size ≤ g) (he : Ext w w') : NewRow xs w e w' := ⟨g, cap, h, hr, hg, he⟩
theorem row_of_own {w : World} {base : Nat} {v : Value} {n : Nat} {xs : List Int} (h : w.ownsRow base 3 1 v n (ints xs)) (hn : 0 < n) : ∃ g cap, v = .slice (some ⟨g, 0, none⟩) xs.length cap ∧ base ≤ g ∧ RowAt w g cap xs := by
  obtain ⟨hl, hd⟩ := h
  have hx : n = xs.length := by simpa [ints] using hl.symm
  subst hx
  rcases hd with ⟨_, h0⟩ | ⟨g, cap, cur, hv, hb, hh, h3, h4, h5, h6⟩
  · omega
  · exact ⟨g, cap, hv, hb, (Array.getElem?_eq_some_iff.1 hh).1, hl, .inr ⟨g, cap, cur, rfl, Nat.zero_le _, hh, h3, h4, h5, h6⟩⟩

theorem ext_of_grown {w w1 w' : World} {row : Option Nat} (h : Ext w w1) (hg : w1.grownBy w' row) (hr : ∀ k, row = some k → w.heap.size ≤ k) : Ext w w' := Below.grown h hg h.size hr

set_option maxHeartbeats 1000000 in
theorem cloneInts_any (b off c : Nat) (xs : List Int) (hm : xs.length ≤ 1000) (hp : 0 < xs.length) (w : World) (hx : IntsAt w (some ⟨b, off, none⟩) xs) :
    Calls Try.prog 104 #[.slice (some ⟨b, off, none⟩) xs.length c] w (NewRow xs w) := by
  have hcell : ∀ j u, (ints xs)[j]? = some u → w.cell? (Addr.add ⟨b, off, none⟩ j) = some u := by
    obtain ⟨b', off', hA, hb, hc⟩ := hx (by rintro rfl; simp at hp)
    injection hA with hA
    injection hA with h1 h2
    subst h1 h2
    intro j u hj
    have hjl : j < xs.length := by
      have := (List.getElem?_eq_some_iff.1 hj).1
      simpa [ints] using this
    rw [ints_getD xs j hjl] at hj
    injection hj with hj
    subst hj
    rw [show Addr.add ⟨b, off, none⟩ j = ⟨b, off + j, none⟩ from by unfold Addr.add; split <;> simp_all]
    exact hc j hjl
  have hb : b < w.heap.size := by
    obtain ⟨b', off', hA, hb, hc⟩ := hx (by rintro rfl; simp at hp)
    injection hA with hA
    injection hA with h1 h2
    subst h1
    exact hb
  have H := hid hcell
  clear hcell hx
  obtain ⟨i0, hi, hz0, hz1, hz2⟩ := info_parts info3
  have HI := hid hi
  have HZ0 := hid hz0
  have HZ1 := hid hz1
  have HZ2 := hid hz2
  clear hi hz0 hz1 hz2
  have hnil : ∀ (W : World) (a : Option Addr) (n c n' c' : Nat), (binOp .eql 29 (.slice a n c) (.slice none n' c')).run Try.prog W = .ok (.bool a.isNone) W := fun W a n c n' c' => Lib.run_eql_slice_nil W _ _ a n c n' c' Try.underlying29
  go_enter Try.func104, Try.ntmps104
  have h0 := World.ownsRow_lit (base := w.heap.size) (e := 3) (size := 1) w #[] 0 (Nat.le_refl _) (by unfold maxLen; omega) rfl
  have H0 := hid h0
  clear h0
  go_wp2_with (at_builtin; refine wpList_append_own _ rfl _ _ 29 rfl w.heap.size 3 i0 (.int .i64 0) 1 8 Try.underlying29 HI.out HZ0.out HZ1.out HZ2.out rfl (by decide) _ _ _ rfl H0.out ⟨b, off, none⟩ xs.length _ (ints xs) rfl (by simp [ints]) (fun j u hj => (World.cell?_alloc_lt w _ _ (by rw [addBlock]; exact hb)).trans (H.out j u hj)) (ints_one xs) (by unfold maxLen; omega) (by omega) (by simp) ?_; intro v' w2 hown hgrow _)
  simp only [List.nil_append, Nat.zero_add] at hown
  obtain ⟨g, cap, rfl, hg, hrow⟩ := row_of_own hown hp
  have hE : Ext w w2 := ext_of_grown (ext_alloc1 _ _) hgrow (fun k hk => by have hk' : some w.heap.size = some k := hk; injection hk' with hk'; omega)
  have hG := hid hg
  have hR := hid hrow
  clear hown hgrow hg hrow H H0
  go_wp2
  go_ret
  exact NewRow.mk rfl hR.out hG.out hE
end Go.Proofs.Ytndoghcglbpllaa
