/- Rows of spans and of paths that a function has made. -/
import Derived.Test.YtndoghcglbpllaaV17
import Derived.Test.YtndoghcglbpllaaV01
import Derived.Test.YtndoghcglbpllaaV18
set_option linter.unusedSimpArgs false
set_option linter.unusedVariables false
namespace Go.Proofs.Ytndoghcglbpllaa
open Go.RowKit
def zspan : Value := .agg #[.int .i64 0, .int .i64 0]
def zpath : Value := .agg #[.int .i64 0, .int .i64 0, .int .i64 0, .int .i64 0, .int .i64 0, .int .i64 0, .int .i64 0, .slice none 0 0]
theorem infoSpan : (Try.prog.info? 26).map (fun i => (i.zero, i.size, i.bytes)) = some (some zspan, 2, 16) := by kernel_rfl
theorem infoPath : (Try.prog.info? 56).map (fun i => (i.zero, i.size, i.bytes)) = some (some zpath, 8, 80) := by kernel_rfl
def spanCells (os : List (Int × Int)) : List Value := os.flatMap fun o => [.int .i64 o.1, .int .i64 o.2]
theorem spanCells_len (os : List (Int × Int)) : (spanCells os).length = os.length * 2 := by
  induction os with
  | nil => rfl
  | cons o os ih => simp only [spanCells, List.flatMap_cons, List.length_append, List.length_cons, List.length_nil] at ih ⊢; omega
theorem spanCells_at : ∀ (os : List (Int × Int)) (k : Nat), k < os.length → (spanCells os)[k * 2]? = some (.int .i64 (os.getD k (0, 0)).1) ∧ (spanCells os)[k * 2 + 1]? = some (.int .i64 (os.getD k (0, 0)).2)
  | [], k, h => by simp at h
  | o :: os, 0, _ => ⟨rfl, rfl⟩
  | o :: os, k + 1, h => by
    have ih := spanCells_at os k (by simpa using h)
    have e : spanCells (o :: os) = [.int .i64 o.1, .int .i64 o.2] ++ spanCells os := rfl
    have h2 : (o :: os).getD (k + 1) (0, 0) = os.getD k (0, 0) := by simp [List.getD]
    rw [e, h2]
    refine ⟨?_, ?_⟩
    · rw [List.getElem?_append_right (by simp; omega)]
      rw [show (k + 1) * 2 - [Value.int .i64 o.1, .int .i64 o.2].length = k * 2 by simp; omega]
      exact ih.1
    · rw [List.getElem?_append_right (by simp; omega)]
      rw [show (k + 1) * 2 + 1 - [Value.int .i64 o.1, .int .i64 o.2].length = k * 2 + 1 by simp; omega]
      exact ih.2
theorem spanCells_one (os : List (Int × Int)) : ∀ u ∈ spanCells os, u.oneCell' = true := by
  intro u hu
  simp only [spanCells, List.mem_flatMap, List.mem_cons, List.not_mem_nil, or_false] at hu
  obtain ⟨o, _, rfl | rfl⟩ := hu <;> rfl
theorem OpensAt.cells {w : World} {b off : Nat} {os : List (Int × Int)} (h : ∀ k, k < os.length → w.cell? ⟨b, off + k * 2, none⟩ = some (.int .i64 (os.getD k (0, 0)).1) ∧ w.cell? ⟨b, off + k * 2 + 1, none⟩ = some (.int .i64 (os.getD k (0, 0)).2)) :
    ∀ j u, (spanCells os)[j]? = some u → w.cell? ((⟨b, off, none⟩ : Addr).add j) = some u := by
  intro j u hj
  have hlt := (List.getElem?_eq_some_iff.1 hj).1
  rw [spanCells_len] at hlt
  have hadd : (⟨b, off, none⟩ : Addr).add j = ⟨b, off + j, none⟩ := by
    unfold Addr.add
    split
    · rename_i h0; subst h0; rfl
    · rfl
  rw [hadd]
  have hk : j = j / 2 * 2 ∨ j = j / 2 * 2 + 1 := by omega
  have h1 := h (j / 2) (by omega)
  have h2 := spanCells_at os (j / 2) (by omega)
  rcases hk with hk | hk
  · rw [hk] at hj ⊢
    rw [h2.1] at hj
    rw [← Option.some.inj hj]
    exact h1.1
  · rw [hk] at hj ⊢
    rw [h2.2] at hj
    rw [← Option.some.inj hj]
    exact h1.2
/-- A slice of spans that was made. -/
def SpansOwn (w : World) (B : Nat) (A : Option Addr) (c : Nat) (os : List (Int × Int)) : Prop := w.ownsRow B 26 2 (.slice A os.length c) os.length (spanCells os)
theorem cell_of_heap {w : World} {g i : Nat} {cur : Array Value} {e : TypeId} {u : Value} (h : w.heap[g]? = some (.cells cur e (0, 0))) (hu : cur.toList[i]? = some u) : w.cell? ⟨g, i, none⟩ = some u := by
  have := blk_cell h i
  rw [this]
  simpa using hu
theorem SpansOwn.opens {w : World} {B : Nat} {A : Option Addr} {c : Nat} {os : List (Int × Int)} (h : SpansOwn w B A c os) : OpensAt w A os ∧ os.length ≤ c ∧ (os ≠ [] → ∃ b, A = some ⟨b, 0, none⟩ ∧ B ≤ b) := by
  obtain ⟨h1, h2⟩ := h
  rcases h2 with ⟨h2, h3⟩ | ⟨g, cap, cur, a1, a2, a3, a4, a5, a6, a7⟩
  · have : os = [] := List.length_eq_zero_iff.1 h3
    subst this
    exact ⟨fun hne => absurd rfl hne, by simp, fun hne => absurd rfl hne⟩
  · injection a1 with e1 e2 e3
    subst e1 e3
    refine ⟨fun _ => ⟨g, 0, rfl, (Array.getElem?_eq_some_iff.1 a3).1, fun k hk => ?_⟩, a4, fun _ => ⟨g, rfl, a2⟩⟩
    have h4 := spanCells_at os k hk
    have tk : ∀ i u, (spanCells os)[i]? = some u → cur.toList[i]? = some u := fun i u hu => by
      have hlt := (List.getElem?_eq_some_iff.1 hu).1
      rw [spanCells_len] at hlt
      rw [← a7, List.getElem?_take_of_lt hlt] at hu
      exact hu
    rw [Nat.zero_add]
    exact ⟨cell_of_heap a3 (tk _ _ h4.1), cell_of_heap a3 (tk _ _ h4.2)⟩
theorem SpansOwn.keep {w w' : World} {B : Nat} {A : Option Addr} {c : Nat} {os : List (Int × Int)} (h : SpansOwn w B A c os) (hk : ∀ (q : Nat) (cs : Array Value), w.heap[q]? = some (.cells cs 26 (0, 0)) → w'.heap[q]? = some (.cells cs 26 (0, 0))) : SpansOwn w' B A c os := by
  obtain ⟨h1, h2⟩ := h
  refine ⟨h1, ?_⟩
  rcases h2 with h2 | ⟨g, cap, cur, a1, a2, a3, a4⟩
  · exact .inl h2
  · exact .inr ⟨g, cap, cur, a1, a2, hk _ _ a3, a4⟩
/-- A slice of paths that was made, each with spans that were made. -/
def CopyRow (w : World) (B : Nat) (v : Value) (ps : List Pt) (k : Nat) : Prop :=
  ∃ xs : List Value, w.ownsRow B 56 8 v k xs ∧ ∀ j, j < k → ∃ A c, (∀ i, i < 8 → xs[j * 8 + i]? = (pcellsL (ps.getD j zeroPt) A c)[i]?) ∧ SpansOwn w B A c (ps.getD j zeroPt).opens
theorem CopyRow.nil (w : World) (B : Nat) (ps : List Pt) : CopyRow w B (.slice none 0 0) ps 0 := ⟨[], ⟨rfl, .inl ⟨rfl, rfl⟩⟩, fun j hj => by omega⟩
theorem CopyRow.ext {w w' : World} {B : Nat} {v : Value} {ps : List Pt} {k : Nat} (h : CopyRow w B v ps k) (e : Ext w w') : CopyRow w' B v ps k := by
  obtain ⟨xs, ⟨h1, h2⟩, h3⟩ := h
  refine ⟨xs, ⟨h1, ?_⟩, fun j hj => ?_⟩
  · rcases h2 with h2 | ⟨g, cap, cur, a1, a2, a3, a4⟩
    · exact .inl h2
    · exact .inr ⟨g, cap, cur, a1, a2, blk_ext a3 e, a4⟩
  · obtain ⟨A, c, h4, h5⟩ := h3 j hj
    exact ⟨A, c, h4, h5.keep fun q cs hq => blk_ext hq e⟩
theorem CopyRow.block {w : World} {B : Nat} {v : Value} {ps : List Pt} {k : Nat} (h : CopyRow w B v ps k) : ∀ q, v.ownBlock = some q → B ≤ q ∧ ∃ cs, w.heap[q]? = some (.cells cs 56 (0, 0)) := by
  intro q hq
  obtain ⟨xs, ⟨h1, h2⟩, h3⟩ := h
  rcases h2 with ⟨h2, _⟩ | ⟨g, cap, cur, a1, a2, a3, _⟩
  · rw [h2] at hq; cases hq
  · rw [a1] at hq
    cases hq
    exact ⟨a2, _, a3⟩
/-- One path more. -/
theorem CopyRow.snoc {w w' : World} {B : Nat} {v v' : Value} {ps : List Pt} {k : Nat} (h : CopyRow w B v ps k) {xs : List Value} (hx : ∀ j, j < k → ∃ A c, (∀ i, i < 8 → xs[j * 8 + i]? = (pcellsL (ps.getD j zeroPt) A c)[i]?) ∧ SpansOwn w B A c (ps.getD j zeroPt).opens) (hxl : xs.length = k * 8)
    (hg : w.grownBy w' v.ownBlock) {A : Option Addr} {c : Nat} (ho : w'.ownsRow B 56 8 v' (k + 1) (xs ++ pcellsL (ps.getD k zeroPt) A c)) (hs : SpansOwn w B A c (ps.getD k zeroPt).opens) : CopyRow w' B v' ps (k + 1) := by
  have hkeep : ∀ (q : Nat) (cs : Array Value), w.heap[q]? = some (.cells cs 26 (0, 0)) → w'.heap[q]? = some (.cells cs 26 (0, 0)) := fun q cs hq => (hg.block q (Array.getElem?_eq_some_iff.1 hq).1 (fun e => by
    obtain ⟨_, cs', h'⟩ := h.block q e.symm
    rw [hq] at h'
    injection h' with h'
    injection h' with _ h' _
    exact absurd h' (by decide))).trans hq
  refine ⟨_, ho, fun j hj => ?_⟩
  by_cases hjk : j < k
  · obtain ⟨A', c', h4, h5⟩ := hx j hjk
    refine ⟨A', c', fun i hi => ?_, h5.keep hkeep⟩
    rw [List.getElem?_append_left (by omega)]
    exact h4 i hi
  · obtain rfl : j = k := by omega
    refine ⟨A, c, fun i hi => ?_, hs.keep hkeep⟩
    rw [List.getElem?_append_right (by omega)]
    congr 1
    omega
theorem CopyRow.paths {w : World} {B : Nat} {v : Value} {ps : List Pt} {n : Nat} (h : CopyRow w B v ps n) (hn : ps.length = n) : ∃ A c, v = .slice A n c ∧ PathsAt w A ps := by
  obtain ⟨xs, ⟨h1, h2⟩, h3⟩ := h
  rcases h2 with ⟨h2, h4⟩ | ⟨g, cap, cur, a1, a2, a3, a4, a5, a6, a7⟩
  · subst h4
    exact ⟨_, _, h2, fun hne => absurd (List.length_eq_zero_iff.1 hn) hne⟩
  · refine ⟨_, _, a1, fun _ => ⟨g, 0, rfl, (Array.getElem?_eq_some_iff.1 a3).1, fun k hk => ?_⟩⟩
    obtain ⟨A, c, h4, h5⟩ := h3 k (by omega)
    have hcell : ∀ i u, i < 8 → (pcellsL (ps.getD k zeroPt) A c)[i]? = some u → w.cell? ⟨g, 0 + k * 8 + i, none⟩ = some u := fun i u hi hu => by
      rw [← h4 i hi, ← a7, List.getElem?_take_of_lt (by omega)] at hu
      rw [Nat.zero_add]
      exact cell_of_heap a3 hu
    obtain ⟨o1, o2, _⟩ := h5.opens
    exact ⟨A, c, hcell 0 _ (by omega) rfl, hcell 1 _ (by omega) rfl, hcell 2 _ (by omega) rfl, hcell 3 _ (by omega) rfl, hcell 4 _ (by omega) rfl, hcell 5 _ (by omega) rfl, hcell 6 _ (by omega) rfl, hcell 7 _ (by omega) rfl, o2, o1⟩
theorem pcells_one (p : Pt) (A : Option Addr) (c : Nat) : ∀ u ∈ pcellsL p A c, u.oneCell' = true := by
  intro u hu
  simp only [pcellsL, List.mem_cons, List.not_mem_nil, or_false] at hu
  rcases hu with rfl | rfl | rfl | rfl | rfl | rfl | rfl | rfl <;> rfl
theorem blk_add {w : World} {g : Nat} {cs : Array Value} {e : TypeId} (h : w.heap[g]? = some (.cells cs e (0, 0))) : ∀ j u, cs.toList[j]? = some u → w.cell? ((⟨g, 0, none⟩ : Addr).add j) = some u := by
  intro j u hj
  have hadd : (⟨g, 0, none⟩ : Addr).add j = ⟨g, 0 + j, none⟩ := by
    unfold Addr.add
    split
    · rename_i h0; subst h0; rfl
    · rfl
  rw [hadd, Nat.zero_add]
  exact cell_of_heap h hj
end Go.Proofs.Ytndoghcglbpllaa
/- slices.Clone of paths. -/
set_option linter.unusedSimpArgs false
set_option linter.unusedVariables false
namespace Go.Proofs.Ytndoghcglbpllaa
open Go.RowKit
theorem flat8 (F : Nat → List Value) (hF : ∀ k, (F k).length = 8) : ∀ n, ((List.range n).flatMap F).length = n * 8 ∧ ∀ k i, k < n → i < 8 → ((List.range n).flatMap F)[k * 8 + i]? = (F k)[i]?
  | 0 => ⟨rfl, fun k i hk => by omega⟩
  | n + 1 => by
    obtain ⟨h1, h2⟩ := flat8 F hF n
    have e : (List.range (n + 1)).flatMap F = (List.range n).flatMap F ++ F n := by rw [List.range_succ, List.flatMap_append]; simp
    rw [e]
    refine ⟨by rw [List.length_append, h1, hF]; omega, fun k i hk hi => ?_⟩
    by_cases hkn : k < n
    · rw [List.getElem?_append_left (by omega)]
      exact h2 k i hkn hi
    · obtain rfl : k = n := by omega
      rw [List.getElem?_append_right (by omega)]
      congr 1
      omega
/-- A row of paths that was made; their spans lie wherever they lay. -/
def RowP (w0 w : World) (g : Nat) (ps : List Pt) : Prop :=
  ∃ cur, w.heap[g]? = some (.cells cur 56 (0, 0)) ∧ ∀ k, k < ps.length → ∃ A c, (∀ i, i < 8 → cur[k * 8 + i]? = (pcellsL (ps.getD k zeroPt) A c)[i]?) ∧ (ps.getD k zeroPt).opens.length ≤ c ∧ OpensAt w0 A (ps.getD k zeroPt).opens
theorem RowP.paths {w0 w : World} {g : Nat} {ps : List Pt} (h : RowP w0 w g ps) (e : Ext w0 w) : PathsAt w (some ⟨g, 0, none⟩) ps := fun hne => by
  obtain ⟨cur, h1, h2⟩ := h
  refine ⟨g, 0, rfl, (Array.getElem?_eq_some_iff.1 h1).1, fun k hk => ?_⟩
  obtain ⟨A, c, h4, h5, h6⟩ := h2 k hk
  have hcell : ∀ i u, i < 8 → (pcellsL (ps.getD k zeroPt) A c)[i]? = some u → w.cell? ⟨g, 0 + k * 8 + i, none⟩ = some u := fun i u hi hu => by
    rw [Nat.zero_add, blk_cell h1, h4 i hi]
    exact hu
  exact ⟨A, c, hcell 0 _ (by omega) rfl, hcell 1 _ (by omega) rfl, hcell 2 _ (by omega) rfl, hcell 3 _ (by omega) rfl, hcell 4 _ (by omega) rfl, hcell 5 _ (by omega) rfl, hcell 6 _ (by omega) rfl, hcell 7 _ (by omega) rfl, h5, h6.ext e⟩
/-- To take a path's spans away. -/
theorem RowP.shut {w0 w : World} {g : Nat} {ps : List Pt} (h : RowP w0 w g ps) {b : Nat} (hb : b < ps.length) : RowP w0 (w.setCell ⟨g, b * 8 + 7, none⟩ (.slice none 0 0)) g (closeAt ps b) := by
  obtain ⟨cur, h1, h2⟩ := h
  refine ⟨_, heap_setCell_same w g (b * 8 + 7) _ _ (.slice none 0 0) h1, fun k hkl => ?_⟩
  rw [closeAt_len] at hkl
  obtain ⟨A, c, h4, h5, h6⟩ := h2 k hkl
  by_cases hkb : b = k
  · subst hkb
    rw [closeAt_same hb]
    refine ⟨none, 0, fun i hi => ?_, Nat.le_refl _, fun hne => absurd rfl hne⟩
    rw [Array.getElem?_setIfInBounds]
    have hsz : b * 8 + 7 < cur.size := by
      have := h4 7 (by omega)
      exact (Array.getElem?_eq_some_iff.1 (this.trans rfl)).1
    by_cases hi7 : i = 7
    · subst hi7
      rw [if_pos rfl]
      simp [hsz, pcellsL]
      rfl
    · rw [if_neg (by omega), h4 i hi]
      have hi' : i = 0 ∨ i = 1 ∨ i = 2 ∨ i = 3 ∨ i = 4 ∨ i = 5 ∨ i = 6 := by omega
      rcases hi' with rfl | rfl | rfl | rfl | rfl | rfl | rfl <;> rfl
  · rw [closeAt_other hkb]
    refine ⟨A, c, fun i hi => ?_, h5, h6⟩
    rw [Array.getElem?_setIfInBounds, if_neg (by omega)]
    exact h4 i hi
/-- The call returns a new row of paths. -/
def NewPaths (w0 : World) (ps : List Pt) (n : Nat) (w : World) (e : Ending) (w' : World) : Prop := ∃ g cap, e = .returned (.slice (some ⟨g, 0, none⟩) n cap) ∧ RowP w0 w' g ps ∧ w.heap.size ≤ g ∧ Ext w w'
theorem NewPaths.mk {w0 : World} {ps : List Pt} {n : Nat} {w : World} {e : Ending} {w' : World} {g cap : Nat} (h : e = .returned (.slice (some ⟨g, 0, none⟩) n cap)) (hr : RowP w0 w' g ps) (hg : w.heap.size ≤ g) (he : Ext w w')   : NewPaths w0 ps n w e w' := ⟨g, cap, h, hr, hg, he⟩
set_option maxRecDepth 100000 in
set_option maxHeartbeats 2000000 in
theorem clonePaths_any (b off c n : Nat) (ps : List Pt) (hn : ps.length = n) (hm : n ≤ 1000) (hp : 0 < n) (w0 w : World) (e0 : Ext w0 w) (hx : PathsAt w0 (some ⟨b, off, none⟩) ps) :
    Calls Try.prog 92 #[.slice (some ⟨b, off, none⟩) n c] w (NewPaths w0 ps n w) := by
  obtain ⟨b', off', hA, hb, hc⟩ := hx (by rintro rfl; simp at hn; omega)
  injection hA with hA
  injection hA with e1 e2
  subst e1 e2
  obtain ⟨fs, hfl, hfs⟩ := exists_list ((none, 0) : Option Addr × Nat) (fun k (x : Option Addr × Nat) => PtAt w0 b (off + k * 8) (ps.getD k zeroPt) x.1 x.2) n (fun k hk => by
    obtain ⟨A', c', h⟩ := hc k (by omega)
    exact ⟨(A', c'), h⟩)
  obtain ⟨F, hFd⟩ : ∃ F : Nat → List Value, F = fun k => pcellsL (ps.getD k zeroPt) (fs.getD k (none, 0)).1 (fs.getD k (none, 0)).2 := ⟨_, rfl⟩
  have hF8 : ∀ k, (F k).length = 8 := fun k => by rw [hFd]; rfl
  obtain ⟨hlen, hat⟩ := flat8 F hF8 n
  have hcell : ∀ j u, ((List.range n).flatMap F)[j]? = some u → w.cell? (Addr.add ⟨b, off, none⟩ j) = some u := by
    intro j u hj
    have hlt := (List.getElem?_eq_some_iff.1 hj).1
    rw [hlen] at hlt
    have hjd : j = j / 8 * 8 + j % 8 := by omega
    have hpt := (hfs (j / 8) (by omega)).ext hb e0
    have hadd : (⟨b, off, none⟩ : Addr).add j = ⟨b, off + j, none⟩ := by
      unfold Addr.add
      split
      · rename_i h0; subst h0; rfl
      · rfl
    rw [hadd, hjd]
    rw [hjd, hat (j / 8) (j % 8) (by omega) (by omega), hFd] at hj
    have hm8 : j % 8 = 0 ∨ j % 8 = 1 ∨ j % 8 = 2 ∨ j % 8 = 3 ∨ j % 8 = 4 ∨ j % 8 = 5 ∨ j % 8 = 6 ∨ j % 8 = 7 := by omega
    rw [← Nat.add_assoc]
    rcases hm8 with h | h | h | h | h | h | h | h <;> rw [h] at hj ⊢ <;> rw [← Option.some.inj hj]
    · exact hpt.c0
    · exact hpt.c1
    · exact hpt.c2
    · exact hpt.c3
    · exact hpt.c4
    · exact hpt.c5
    · exact hpt.c6
    · exact hpt.c7
  have hone : ∀ u ∈ (List.range n).flatMap F, u.oneCell' = true := by
    intro u hu
    obtain ⟨k, _, hk⟩ := List.mem_flatMap.1 hu
    rw [hFd] at hk
    exact pcells_one _ _ _ u hk
  have hbw : b < w.heap.size := Nat.lt_of_lt_of_le hb e0.size
  have HFS := hid hfs
  have HFD := hid hFd
  have H := hid hcell
  have HL := hid hlen
  have HAT := hid hat
  have HONE := hid hone
  obtain ⟨news, hnews⟩ : ∃ news, (List.range n).flatMap F = news := ⟨_, rfl⟩
  rw [hnews] at H HL HAT HONE
  clear hcell hx hc hone hlen hat hnews hF8 hFd hfs
  obtain ⟨i0, hi, hz0, hz1, hz2⟩ := info_parts infoPath
  have HI := hid hi
  have HZ0 := hid hz0
  have HZ1 := hid hz1
  have HZ2 := hid hz2
  clear hi hz0 hz1 hz2
  have hnil : ∀ (W : World) (a : Option Addr) (n c n' c' : Nat), (binOp .eql 22 (.slice a n c) (.slice none n' c')).run Try.prog W = .ok (.bool a.isNone) W := fun W a n c n' c' => Lib.run_eql_slice_nil W _ _ a n c n' c' Try.underlying22
  go_enter Try.func92, Try.ntmps92
  have h0 := World.ownsRow_lit (base := w.heap.size) (e := 56) (size := 8) w #[] 0 (Nat.le_refl _) (by unfold maxLen; omega) rfl
  have H0 := hid h0
  clear h0
  go_wp2_with (at_builtin; refine wpList_append_own _ rfl _ _ 22 rfl w.heap.size 56 i0 zpath 8 80 Try.underlying22 HI.out HZ0.out HZ1.out HZ2.out rfl (by decide) _ _ _ rfl H0.out ⟨b, off, none⟩ n _ news rfl HL.out (fun j u hj => (World.cell?_alloc_lt w _ _ (by rw [addBlock]; exact hbw)).trans (H.out j u hj)) HONE.out (by unfold maxLen; omega) (by omega) (by simp) ?_; intro v' w2 hown hgrow _)
  simp only [List.nil_append, Nat.zero_add] at hown
  obtain ⟨h1, h2⟩ := hown
  rcases h2 with ⟨_, h2⟩ | ⟨g, cap, cur, rfl, hbg, hheap, hcp, hcm, hcs, htk⟩
  · omega
  have hE : Ext w w2 := ext_of_grown (ext_alloc1 _ _) hgrow (fun k hk => by have hk' : some w.heap.size = some k := hk; injection hk' with hk'; omega)
  have hR := hid (show RowP w0 w2 g ps from ⟨cur, hheap, fun k hk => by
    have hpt := HFS.out k (by omega)
    refine ⟨(fs.getD k (none, 0)).1, (fs.getD k (none, 0)).2, fun i hi => ?_, hpt.cap, hpt.opens⟩
    have h3 := HAT.out k i (by omega) hi
    rw [← htk, List.getElem?_take_of_lt (by omega), HFD.out] at h3
    rw [← h3]
    simp⟩)
  have hG := hid hbg
  clear h1 hbg hheap hcs htk hgrow H H0 HONE HAT HFS
  go_wp2
  go_ret
  exact NewPaths.mk rfl hR.out hG.out hE
theorem RowP.keep {w0 w w' : World} {g : Nat} {ps : List Pt} (h : RowP w0 w g ps) (hh : w'.heap[g]? = w.heap[g]?) : RowP w0 w' g ps := by
  obtain ⟨cur, h1, h2⟩ := h
  exact ⟨cur, hh.trans h1, h2⟩
theorem RowP.seven {w0 w : World} {g : Nat} {ps : List Pt} (h : RowP w0 w g ps) {i : Nat} (hi : i < ps.length) : (∃ v, w.cell? ⟨g, i * 8 + 7, none⟩ = some v ∧ v.oneCell' = true) ∧ w.frozen? ⟨g, i * 8 + 7, none⟩ = false ∧ g < w.heap.size := by
  obtain ⟨cur, h1, h2⟩ := h
  obtain ⟨A, c, h4, _⟩ := h2 i hi
  refine ⟨⟨.slice A (ps.getD i zeroPt).opens.length c, ?_, rfl⟩, blk_fro h1 _, (Array.getElem?_eq_some_iff.1 h1).1⟩
  rw [blk_cell h1, h4 7 (by omega)]
  rfl
/-- The walk with a path closed. -/
def WithoutIs (m g l pl ph : Int) (n : Nat) (ps : List Pt) (w : World) (e : Ending) (w' : World) : Prop := ∃ G cap, e = .returned (.agg (wbox m g l pl ph (some ⟨G, 0, none⟩) n cap)) ∧ PathsAt w' (some ⟨G, 0, none⟩) ps ∧ Ext w w'
theorem WithoutIs.mk {m g l pl ph : Int} {n : Nat} {ps : List Pt} {w : World} {e : Ending} {w' : World} {G cap : Nat} (h : e = .returned (.agg (wbox m g l pl ph (some ⟨G, 0, none⟩) n cap))) (hp : PathsAt w' (some ⟨G, 0, none⟩) ps) (he : Ext w w') : WithoutIs m g l pl ph n ps w e w' := ⟨G, cap, h, hp, he⟩
set_option maxRecDepth 100000 in
set_option maxHeartbeats 2000000 in
theorem without_any (m g l pl ph : Int) (A : Option Addr) (n c : Nat) (ps : List Pt) (hn : ps.length = n) (hm : n ≤ 1000) (i : Nat) (hi : i < n) (w : World) (hp : PathsAt w A ps) :
    Calls Try.prog 64 #[.agg (wbox m g l pl ph A n c), .int .i64 (i : Int)] w (WithoutIs m g l pl ph n (closeAt ps i) w) := by
  obtain ⟨b, off, rfl, hb, hc⟩ := id hp (by rintro rfl; simp at hn; omega)
  have HC := hid (fun (W : World) (hE : Ext w W) => clonePaths_any b off c n ps hn hm (by omega) w W hE hp)
  have t0 := two_blocks w (.cells (wbox m g l pl ph (some ⟨b, off, none⟩) n c) 70) (.cells #[.int .i64 0, .slice none 0 0, .int .i64 0, .int .i64 0, .int .i64 0, .int .i64 0] 70)
  have B0 := hid t0.1
  have B1 := hid t0.2.1
  have hi0 : (0 : Int) ≤ (i : Int) := by omega
  have hi1 : (i : Int) < (n : Int) := by omega
  have HN := hid hn
  clear hp hc hn t0
  simp only [wbox] at B0 ⊢
  go_enter Try.func64, Try.ntmps64
  go_wp2_with fail
  refine (HC.out _ (by (repeat' (first | with_reducible assumption | with_reducible exact Ext.refl _ | with_reducible refine Ext.alloc ?_ _ | with_reducible refine Ext.set ?_ ?_ _ | with_reducible refine Ext.drew ?_ | with_reducible refine Ext.drewN ?_ _ | with_reducible refine Ext.trans ?_ (by assumption) | (dsimp only; omega))))).mono ?_
  rintro e w2 ⟨G, cap, rfl, hr, hg, hE⟩
  have E2 : Ext w w2 := by (repeat' (first | with_reducible assumption | with_reducible exact Ext.refl _ | with_reducible refine Ext.alloc ?_ _ | with_reducible refine Ext.set ?_ ?_ _ | with_reducible refine Ext.drew ?_ | with_reducible refine Ext.drewN ?_ _ | with_reducible refine Ext.trans ?_ (by assumption) | (dsimp only; omega)))
  have C0 := hid (blk_ext B0.out hE)
  have C1 := hid (blk_ext B1.out hE)
  have hGw : w.heap.size + 2 ≤ G := by simpa using hg
  have n1 : ¬ G = w.heap.size := by omega
  have n2 : ¬ G = w.heap.size + 1 := by omega
  have n3 : ¬ w.heap.size = G := by omega
  have n4 : ¬ w.heap.size + 1 = G := by omega
  obtain ⟨⟨sv, hsv, hsv1⟩, hsf, hGl⟩ := hr.seven (i := i) (by have := HN.out; omega)
  have c0 := blk_cell C0.out 0
  have c1 := blk_cell C0.out 1
  have c2 := blk_cell C0.out 2
  have c3 := blk_cell C0.out 3
  have c4 := blk_cell C0.out 4
  have c5 := blk_cell C0.out 5
  have fc := blk_fro C0.out 1
  have r0 := blk_cell C1.out 0
  have r1 := blk_cell C1.out 1
  have r2 := blk_cell C1.out 2
  have r3 := blk_cell C1.out 3
  have r4 := blk_cell C1.out 4
  have r5 := blk_cell C1.out 5
  have g0 := blk_fro C1.out 0
  have g1 := blk_fro C1.out 1
  have g2 := blk_fro C1.out 2
  have g3 := blk_fro C1.out 3
  have g4 := blk_fro C1.out 4
  have g5 := blk_fro C1.out 5
  simp only [List.getElem?_toArray, List.getElem?_cons_zero, List.getElem?_cons_succ] at c0 c1 c2 c3 c4 c5 r0 r1 r2 r3 r4 r5
  have z0 := (Array.getElem?_eq_some_iff.1 C0.out).1
  have z1 := (Array.getElem?_eq_some_iff.1 C1.out).1
  have HR3 := hid ((hr.keep (Below.heap_setCell w2 ⟨w.heap.size, 1, none⟩ (.slice (some ⟨G, 0, none⟩) n cap) G (by dsimp only; omega))).shut (b := i) (by have := HN.out; omega))
  have E3 : Ext w ((w2.setCell ⟨w.heap.size, 1, none⟩ (.slice (some ⟨G, 0, none⟩) n cap)).setCell ⟨G, i * 8 + 7, none⟩ (.slice none 0 0)) := (E2.set (by dsimp only; omega) _).set (by dsimp only; omega) _
  clear hE hr hg C0 C1 B0 B1 HC
  go_wp2
  obtain ⟨W3, hW3⟩ : ∃ W3, (w2.setCell ⟨w.heap.size, 1, none⟩ (.slice (some ⟨G, 0, none⟩) n cap)).setCell ⟨G, i * 8 + 7, none⟩ (.slice none 0 0) = W3 := ⟨_, rfl⟩
  have q0 : W3.cell? ⟨w.heap.size + 1, 0, none⟩ = some (.int .i64 0) := by rw [← hW3]; exact (World.cell?_setCell_other _ _ _ _ (by simp <;> omega)).trans ((World.cell?_setCell_other _ _ _ _ (by simp)).trans r0)
  have q1 : W3.cell? ⟨w.heap.size + 1, 1, none⟩ = some (.slice none 0 0) := by rw [← hW3]; exact (World.cell?_setCell_other _ _ _ _ (by simp <;> omega)).trans ((World.cell?_setCell_other _ _ _ _ (by simp)).trans r1)
  have q2 : W3.cell? ⟨w.heap.size + 1, 2, none⟩ = some (.int .i64 0) := by rw [← hW3]; exact (World.cell?_setCell_other _ _ _ _ (by simp <;> omega)).trans ((World.cell?_setCell_other _ _ _ _ (by simp)).trans r2)
  have q3 : W3.cell? ⟨w.heap.size + 1, 3, none⟩ = some (.int .i64 0) := by rw [← hW3]; exact (World.cell?_setCell_other _ _ _ _ (by simp <;> omega)).trans ((World.cell?_setCell_other _ _ _ _ (by simp)).trans r3)
  have q4 : W3.cell? ⟨w.heap.size + 1, 4, none⟩ = some (.int .i64 0) := by rw [← hW3]; exact (World.cell?_setCell_other _ _ _ _ (by simp <;> omega)).trans ((World.cell?_setCell_other _ _ _ _ (by simp)).trans r4)
  have q5 : W3.cell? ⟨w.heap.size + 1, 5, none⟩ = some (.int .i64 0) := by rw [← hW3]; exact (World.cell?_setCell_other _ _ _ _ (by simp <;> omega)).trans ((World.cell?_setCell_other _ _ _ _ (by simp)).trans r5)
  rw [hW3] at HR3 E3 ⊢
  clear hW3
  have EF : Ext w ((((((W3.setCell ⟨w.heap.size + 1, 0, none⟩ (.int .i64 m)).setCell ⟨w.heap.size + 1, 1, none⟩ (.slice (some ⟨G, 0, none⟩) n cap)).setCell ⟨w.heap.size + 1, 2, none⟩ (.int .i64 g)).setCell ⟨w.heap.size + 1, 3, none⟩ (.int .i64 l)).setCell ⟨w.heap.size + 1, 4, none⟩ (.int .i64 pl)).setCell ⟨w.heap.size + 1, 5, none⟩ (.int .i64 ph)) := (Ext.set (Ext.set (Ext.set (Ext.set (Ext.set (Ext.set E3 (by dsimp only; omega) _) (by dsimp only; omega) _) (by dsimp only; omega) _) (by dsimp only; omega) _) (by dsimp only; omega) _) (by dsimp only; omega) _)
  have HF := hid (RowP.paths (RowP.keep (w' := ((((((W3.setCell ⟨w.heap.size + 1, 0, none⟩ (.int .i64 m)).setCell ⟨w.heap.size + 1, 1, none⟩ (.slice (some ⟨G, 0, none⟩) n cap)).setCell ⟨w.heap.size + 1, 2, none⟩ (.int .i64 g)).setCell ⟨w.heap.size + 1, 3, none⟩ (.int .i64 l)).setCell ⟨w.heap.size + 1, 4, none⟩ (.int .i64 pl)).setCell ⟨w.heap.size + 1, 5, none⟩ (.int .i64 ph))) HR3.out ((Below.heap_setCell _ _ _ _ (by dsimp only; omega)).trans ((Below.heap_setCell _ _ _ _ (by dsimp only; omega)).trans ((Below.heap_setCell _ _ _ _ (by dsimp only; omega)).trans ((Below.heap_setCell _ _ _ _ (by dsimp only; omega)).trans ((Below.heap_setCell _ _ _ _ (by dsimp only; omega)).trans (Below.heap_setCell _ _ _ _ (by dsimp only; omega)))))))) EF)
  exact bodyPost_ret (v := .agg #[.int .i64 m, .slice (some ⟨G, 0, none⟩) n cap, .int .i64 g, .int .i64 l, .int .i64 pl, .int .i64 ph]) (by simp [results, Try.results64, go_sem, q0, q1, q2, q3, q4, q5]) rfl (WithoutIs.mk rfl HF.out EF)
end Go.Proofs.Ytndoghcglbpllaa
