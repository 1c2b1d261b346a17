/- The paths that must stay open: a copied net with one path closed; what Vital's list means. -/
import Derived.Test.YtndoghcglbpllaaCopy
import Derived.Test.YtndoghcglbpllaaVital
import Derived.Test.YtndoghcglbpllaaContains
import Derived.Test.YtndoghcglbpllaaStart
import Derived.Test.YtndoghcglbpllaaRStep
set_option linter.unusedSimpArgs false
set_option linter.unusedVariables false
namespace Go.Proofs.Ytndoghcglbpllaa
open Go.RowKit
theorem CopyRow.shut {w : World} {B : Nat} {v : Value} {ps : List Pt} {n : Nat} (h : CopyRow w B v ps n) (hn : ps.length = n) {i : Nat} (hi : i < n) :
    ∃ G c, v = .slice (some ⟨G, 0, none⟩) n c ∧ B ≤ G ∧ G < w.heap.size ∧ (∃ u, w.cell? ⟨G, i * 8 + 7, none⟩ = some u ∧ u.oneCell' = true) ∧ w.frozen? ⟨G, i * 8 + 7, none⟩ = false ∧ PathsAt (w.setCell ⟨G, i * 8 + 7, none⟩ (.slice none 0 0)) (some ⟨G, 0, none⟩) (closeAt ps i) := by
  obtain ⟨xs, ⟨h1, h2⟩, h3⟩ := h
  rcases h2 with ⟨h2, h4⟩ | ⟨g, cap, cur, a1, a2, a3, a4, a5, a6, a7⟩
  · omega
  · have hR : RowP (w.setCell ⟨g, i * 8 + 7, none⟩ (.slice none 0 0)) w g ps := ⟨cur, a3, fun k hk => by
      obtain ⟨A, c, h4, h5⟩ := h3 k (by omega)
      have h6 := h5.keep (w' := w.setCell ⟨g, i * 8 + 7, none⟩ (.slice none 0 0)) fun q cs hq => (Below.heap_setCell _ _ _ q (by
        dsimp only
        rintro rfl
        rw [a3] at hq
        injection hq with hq
        injection hq with _ hq _
        exact absurd hq (by decide))).trans hq
      obtain ⟨o1, o2, _⟩ := h6.opens
      refine ⟨A, c, fun j hj => ?_, o2, o1⟩
      have hu := h4 j hj
      have hl8 : j < (pcellsL (ps.getD k zeroPt) A c).length := hj
      rw [← a7, List.getElem?_take_of_lt (by omega)] at hu
      simpa using hu⟩
    refine ⟨g, cap, a1, a2, (Array.getElem?_eq_some_iff.1 a3).1, (hR.seven (by omega)).1, (hR.seven (by omega)).2.1, (hR.shut (by omega)).paths (Ext.refl _)⟩
theorem vPath_shut {m : Int} {p : Pt} (h : vPath m p = true) : vPath m (shut p) = true := by
  unfold vPath at h ⊢
  unfold shut
  simp only [Bool.and_eq_true, decide_eq_true_eq] at h ⊢
  refine ⟨h.1, h.2.1, h.2.2.1, h.2.2.2.1, by simp, h.2.2.2.2.2.1, h.2.2.2.2.2.2.1, by simp⟩
theorem vNet_close {m : Int} {ps : List Pt} (h : vNet m ps = true) (b : Nat) : vNet m (closeAt ps b) = true := by
  unfold vNet at h ⊢
  simp only [Bool.and_eq_true, decide_eq_true_eq] at h ⊢
  refine ⟨h.1, h.2.1, by rw [closeAt_len]; exact h.2.2.1, ?_⟩
  have h4 := h.2.2.2
  rw [List.all_eq_true] at h4 ⊢
  intro p hp
  unfold closeAt at hp
  by_cases hb : b < ps.length
  · rcases List.mem_or_eq_of_mem_set hp with h | h
    · exact h4 p h
    · subst h
      refine vPath_shut (h4 _ ?_)
      simp only [List.getD, List.getElem?_eq_getElem hb, Option.getD_some]
      exact List.getElem_mem _
  · rw [List.set_eq_of_length_le (by omega)] at hp
    exact h4 p hp
theorem mem_vitOf {g l pl ph : Int} {ps : List Pt} {m fr to_ : Nat} {start D : Int} {is : List Nat} {i : Nat} : (vitOf g l pl ph ps m fr to_ start D is).any (fun y => decide (y = (i : Int))) = true ↔ i ∈ is ∧ vitB g l pl ph ps m fr to_ start D i = true := by
  unfold vitOf
  rw [List.any_eq_true]
  constructor
  · rintro ⟨y, hy, he⟩
    obtain ⟨j, hj, rfl⟩ := List.mem_map.1 hy
    have he := of_decide_eq_true he
    obtain rfl : j = i := Int.ofNat.inj he
    exact List.mem_filter.1 hj
  · intro h
    exact ⟨(i : Int), List.mem_map.2 ⟨i, List.mem_filter.2 h, rfl⟩, decide_eq_true rfl⟩
/-- The list of Vital is that of the paths without which one is late. -/
theorem vital_iff {g l pl ph : Int} {ps : List Pt} {m fr to_ : Nat} {start D : Int} (hX : (rows selHi g l pl ph ps m fr start (m - 1)).getD to_ 0 ≤ D) {i : Nat} (hi : i < ps.length) :
    (vitOf g l pl ph ps m fr to_ start D (walkIdx ps g ps.length)).any (fun y => decide (y = (i : Int))) = decide (D < (rows selHi g l pl ph (closeAt ps i) m fr start (m - 1)).getD to_ 0) := by
  rw [Bool.eq_iff_iff, mem_vitOf, mem_walkIdx]
  unfold vitB
  constructor
  · intro h
    exact h.2
  · intro h
    refine ⟨⟨hi, ?_⟩, h⟩
    apply Classical.byContradiction
    intro hg
    rw [rows_closed_no hg] at h
    have := of_decide_eq_true h
    omega
/-- The list of Vital ascends, and its numbers are those of paths. -/
theorem vital_up {g l pl ph : Int} {ps : List Pt} {m fr to_ : Nat} {start D : Int} (n : Nat) : (∀ k, k < (vitOf g l pl ph ps m fr to_ start D (walkIdx ps g n)).length → 0 ≤ (vitOf g l pl ph ps m fr to_ start D (walkIdx ps g n)).getD k 0 ∧ (vitOf g l pl ph ps m fr to_ start D (walkIdx ps g n)).getD k 0 < n) ∧
    ∀ k, k + 1 < (vitOf g l pl ph ps m fr to_ start D (walkIdx ps g n)).length → (vitOf g l pl ph ps m fr to_ start D (walkIdx ps g n)).getD k 0 < (vitOf g l pl ph ps m fr to_ start D (walkIdx ps g n)).getD (k + 1) 0 := by
  have hs : ((walkIdx ps g n).filter (vitB g l pl ph ps m fr to_ start D)).Pairwise (· < ·) := by
    unfold walkIdx
    exact (List.pairwise_lt_range.filter _).filter _
  have hm : ∀ j, j ∈ (walkIdx ps g n).filter (vitB g l pl ph ps m fr to_ start D) → j < n := fun j hj => by
    have := (List.mem_filter.1 hj).1
    exact (mem_walkIdx.1 this).1
  unfold vitOf
  revert hs hm
  generalize (walkIdx ps g n).filter (vitB g l pl ph ps m fr to_ start D) = L
  intro hs hm
  have hget : ∀ k, (hk : k < L.length) → (L.map Int.ofNat).getD k 0 = (L[k] : Int) := fun k hk => by simp [List.getD, List.getElem?_eq_getElem hk]
  refine ⟨fun k hk => ?_, fun k hk => ?_⟩
  · rw [List.length_map] at hk
    rw [hget k hk]
    have := hm _ (List.getElem_mem hk)
    omega
  · rw [List.length_map] at hk
    rw [hget k (by omega), hget (k + 1) hk]
    have := List.pairwise_iff_getElem.1 hs k (k + 1) (by omega) hk (by omega)
    omega
/-- What must stay open is in the route. -/
theorem must_route {g l pl ph : Int} {ps : List Pt} {m fr to_ : Nat} {start D : Int} (ha : PaOk l pl ph) (hm : 1 ≤ m) (hm2 : m ≤ 12) (hN : NOk m ps) (hfr : fr < m) (hto : to_ < m) (h0 : 0 ≤ start) (h1 : start ≤ 2880) (hD : D ≤ 2880)
    {X : Int} (hX : (rows selHi g l pl ph ps m fr start (m - 1)).getD to_ 0 = X) (hXD : X ≤ D) {i : Nat} (hmust : D < (rows selHi g l pl ph (closeAt ps i) m fr start (m - 1)).getD to_ 0) :
    ((routeOf g l pl ph ps m fr to_ start X).map Int.ofNat).any (fun y => decide (y = (i : Int))) = true := by
  obtain ⟨r1, r2, r3, r4⟩ := routeOf_ok ha hm hm2 hN fr to_ hfr hto h0 (by omega : start ≤ 2881) hX (by omega)
  revert r1 r2 r3 r4
  generalize (routeOf g l pl ph ps m fr to_ start X).map Int.ofNat = r
  intro r1 r2 r3 r4
  obtain ⟨k, hk, he⟩ := must_be_in ha hm hN fr hfr h0 (by omega : start ≤ 2881) r1 (D := D) (b := i) (by omega) (by rw [r3, Int.toNat_natCast]; exact hmust)
  have hlo := r1.lo k hk
  refine List.any_eq_true.2 ⟨r[k], List.getElem_mem hk, ?_⟩
  have e : r.getD k 0 = r[k] := by simp [List.getD, List.getElem?_eq_getElem hk]
  rw [e] at he hlo
  exact decide_eq_true (by omega)
end Go.Proofs.Ytndoghcglbpllaa
