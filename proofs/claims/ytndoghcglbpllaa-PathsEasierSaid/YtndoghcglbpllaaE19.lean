/- Rows of paths of which one is changed, and to which one is added. -/
import Derived.Test.YtndoghcglbpllaaE13
import Derived.Test.YtndoghcglbpllaaE14
import Derived.Test.YtndoghcglbpllaaE15
import Derived.Test.YtndoghcglbpllaaE18
import Derived.Test.YtndoghcglbpllaaE16
import Derived.Deep.MidRow
set_option linter.unusedSimpArgs false
set_option linter.unusedVariables false
namespace Go.Proofs.Ytndoghcglbpllaa
open Go.RowKit
theorem pcells_len (p : Pt) (A : Option Addr) (c : Nat) : (pcellsL p A c).length = 8 := rfl
theorem CopyR.lowB {w : World} {B B' S : Nat} {v : Value} {ps : List Pt} {k : Nat} (h : CopyR w B S v ps k) (hB : B' ≤ B) : CopyR w B' S v ps k := by
  obtain ⟨xs, fs, ⟨h1, h2⟩, h3, h4⟩ := h
  refine ⟨xs, fs, ⟨h1, ?_⟩, fun j hj => ⟨(h3 j hj).1, (h3 j hj).2.1.low hB, (h3 j hj).2.2⟩, h4⟩
  rcases h2 with h2 | ⟨g, cap, cur, a1, a2, a4⟩
  · exact .inl h2
  · exact .inr ⟨g, cap, cur, a1, Nat.le_trans hB a2, a4⟩
theorem Ext.setCells {a : World} (g : Nat) (hg : a.heap.size ≤ g) : ∀ (vs : List Value) (o : Nat) (b : World), Ext a b → Ext a (b.setCells g o vs)
  | [], _, _, h => h
  | v :: r, o, b, h => by rw [World.setCells]; exact Ext.setCells g hg r (o + 1) _ (h.set hg v)
theorem checkE_zero {m : Int} {ps : List Pt} (h : checkE m ps = 0) : vNet m ps = true := by
  unfold checkE at h
  cases hv : vNet m ps
  · rw [hv] at h
    exact absurd h (by decide)
  · rfl
/-- A slice of paths of its own, whose spans lie anywhere else. -/
def RowQ (w : World) (B : Nat) (v : Value) (qs : List Pt) (k : Nat) : Prop :=
  ∃ (xs : List Value) (fs : Nat → Option Addr × Nat), w.ownsRow B 56 8 v k xs ∧
    ∀ j, j < k → (∀ t, t < 8 → xs[j * 8 + t]? = (pcellsL (qs.getD j zeroPt) (fs j).1 (fs j).2)[t]?) ∧ (qs.getD j zeroPt).opens.length ≤ (fs j).2 ∧ OpensAt w (fs j).1 (qs.getD j zeroPt).opens ∧
      ((qs.getD j zeroPt).opens ≠ [] → ∀ q, Spot (fs j).1 = some q → ∃ cs, w.heap[q]? = some (.cells cs 26 (0, 0)))
theorem SpansOwn.blk {w : World} {B : Nat} {A : Option Addr} {c : Nat} {os : List (Int × Int)} (h : SpansOwn w B A c os) : ∀ q, Spot A = some q → ∃ cs, w.heap[q]? = some (.cells cs 26 (0, 0)) := by
  intro q hq
  rcases h.2 with ⟨h2, _⟩ | ⟨g, cap, cur, a1, a2, a3, _⟩
  · injection h2 with h2
    subst h2
    cases hq
  · injection a1 with a1
    subst a1
    cases hq
    exact ⟨_, a3⟩
theorem CopyR.rowQ {w : World} {B S : Nat} {v : Value} {ps : List Pt} {k : Nat} (h : CopyR w B S v ps k) : RowQ w B v ps k := by
  obtain ⟨xs, fs, h1, h2, h3⟩ := h
  refine ⟨xs, fs, h1, fun j hj => ?_⟩
  obtain ⟨a1, a2, a3⟩ := h2 j hj
  obtain ⟨o1, o2, _⟩ := a2.opens
  exact ⟨a1, o2, o1, fun _ => a2.blk⟩
theorem RowQ.ext {w w' : World} {B : Nat} {v : Value} {qs : List Pt} {k : Nat} (h : RowQ w B v qs k) (e : Ext w w') : RowQ w' B v qs k := by
  obtain ⟨xs, fs, ⟨h1, h2⟩, h3⟩ := h
  refine ⟨xs, fs, ⟨h1, ?_⟩, fun j hj => ?_⟩
  · rcases h2 with h2 | ⟨g, cap, cur, a1, a2, a3, a4⟩
    · exact .inl h2
    · exact .inr ⟨g, cap, cur, a1, a2, blk_ext a3 e, a4⟩
  · obtain ⟨a1, a2, a3, a4⟩ := h3 j hj
    exact ⟨a1, a2, a3.ext e, fun hne q hq => by
      obtain ⟨cs, hcs⟩ := a4 hne q hq
      exact ⟨cs, blk_ext hcs e⟩⟩
/-- A slice of paths of its own, but for one path. -/
def RowX (w : World) (B G vc n : Nat) (ps : List Pt) (i : Nat) (A : Option Addr) : Prop :=
  ∃ (xs : List Value) (fs : Nat → Option Addr × Nat), w.ownsRow B 56 8 (.slice (some ⟨G, 0, none⟩) n vc) n xs ∧
    ∀ j, j < n → j ≠ i → (∀ t, t < 8 → xs[j * 8 + t]? = (pcellsL (ps.getD j zeroPt) (fs j).1 (fs j).2)[t]?) ∧ SpansOwn w B (fs j).1 (fs j).2 (ps.getD j zeroPt).opens ∧ ∀ q, Spot (fs j).1 = some q → Spot A ≠ some q
theorem CopyR.part {w : World} {B S : Nat} {VA : Option Addr} {n vc : Nat} {ps : List Pt} (h : CopyR w B S (.slice VA n vc) ps n) {i : Nat} (hi : i < n) :
    ∃ G A c, VA = some ⟨G, 0, none⟩ ∧ B ≤ G ∧ G < w.heap.size ∧ PtAt w G (i * 8) (ps.getD i zeroPt) A c ∧ (∀ o, w.frozen? ⟨G, o, none⟩ = false) ∧ SpansOwn w B A c (ps.getD i zeroPt).opens ∧ RowX w B G vc n ps i A ∧ (∃ cs, w.heap[G]? = some (.cells cs 56 (0, 0))) := by
  obtain ⟨xs, fs, ⟨h1, h2⟩, h3, h4⟩ := h
  have h1' := h1
  have h2' := h2
  rcases h2 with ⟨h2, h5⟩ | ⟨g, cap, cur, a1, a2, a3, a4, a5, a6, a7⟩
  · omega
  · injection a1 with e1 e2 e3
    subst e1 e3
    obtain ⟨h5, h6, h7⟩ := h3 i hi
    have hcell : ∀ t u, t < 8 → (pcellsL (ps.getD i zeroPt) (fs i).1 (fs i).2)[t]? = some u → w.cell? ⟨g, i * 8 + t, none⟩ = some u := fun t u ht hu => by
      rw [← h5 t ht, ← a7, List.getElem?_take_of_lt (by omega)] at hu
      exact cell_of_heap a3 hu
    obtain ⟨o1, o2, _⟩ := h6.opens
    refine ⟨g, _, _, rfl, a2, (Array.getElem?_eq_some_iff.1 a3).1, ⟨hcell 0 _ (by omega) rfl, hcell 1 _ (by omega) rfl, hcell 2 _ (by omega) rfl, hcell 3 _ (by omega) rfl, hcell 4 _ (by omega) rfl, hcell 5 _ (by omega) rfl, hcell 6 _ (by omega) rfl, hcell 7 _ (by omega) rfl, o2, o1⟩, fun o => blk_fro a3 o, h6, ⟨xs, fs, ⟨h1', h2'⟩, fun j hj hji => ⟨(h3 j hj).1, (h3 j hj).2.1, fun q hq hq2 => ?_⟩⟩, _, a3⟩
    rcases Nat.lt_or_gt_of_ne hji with hlt | hlt
    · exact h4 j i q hlt hi hq hq2
    · exact h4 i j q hlt hj hq2 hq
theorem RowX.keep {w w' : World} {B G vc n : Nat} {ps : List Pt} {i : Nat} {A : Option Addr} (h : RowX w B G vc n ps i A) (hk : ∀ (k : Nat) (o : Obj), w.heap[k]? = some o → Spot A ≠ some k → w'.heap[k]? = some o) (hG : Spot A ≠ some G) : RowX w' B G vc n ps i A := by
  obtain ⟨xs, fs, ⟨h1, h2⟩, h3⟩ := h
  refine ⟨xs, fs, ⟨h1, ?_⟩, fun j hj hji => ?_⟩
  · rcases h2 with h2 | ⟨g, cap, cur, a1, a2, a3, a4⟩
    · exact .inl h2
    · injection a1 with e1 e2 e3
      injection e1 with e1
      injection e1 with e1
      subst e1
      exact .inr ⟨G, cap, cur, by rw [e3], a2, hk _ _ a3 hG, a4⟩
  · obtain ⟨a1, ⟨b1, b2⟩, a3⟩ := h3 j hj hji
    refine ⟨a1, ⟨b1, ?_⟩, a3⟩
    rcases b2 with b2 | ⟨g, cap, cur, c1, c2, c3, c4⟩
    · exact .inl b2
    · exact .inr ⟨g, cap, cur, c1, c2, hk _ _ c3 (a3 g (by rw [← spot_own _ (ps.getD j zeroPt).opens.length (fs j).2, c1]; rfl)), c4⟩
theorem RowX.ext {w w' : World} {B G vc n : Nat} {ps : List Pt} {i : Nat} {A : Option Addr} (h : RowX w B G vc n ps i A) (e : Ext w w') (hG : Spot A ≠ some G) : RowX w' B G vc n ps i A := h.keep (fun k o ho _ => blk_ext ho e) hG
theorem there_of {w : World} {G : Nat} {cs : Array Value} {e : TypeId} (h : w.heap[G]? = some (.cells cs e (0, 0))) {o n : Nat} (hn : ∀ t, t < n → ∀ cs' : Array Value, w.heap[G]? = some (.cells cs' e (0, 0)) → o + t < cs'.size) : w.there G o n := fun t ht => by
  have := hn t ht cs h
  refine ⟨?_, blk_fro h _⟩
  rw [blk_cell h]
  simp [this]
theorem RowX.size {w : World} {B G vc n : Nat} {ps : List Pt} {i : Nat} {A : Option Addr} (h : RowX w B G vc n ps i A) (hi : i < n) {t : Nat} (ht : t < 8) (cs' : Array Value) (hG : w.heap[G]? = some (.cells cs' 56 (0, 0))) : i * 8 + t < cs'.size := by
  obtain ⟨xs, fs, ⟨h1, h2⟩, h3⟩ := h
  rcases h2 with ⟨_, h5⟩ | ⟨g, cap, cur, a1, a2, a3, a4, a5, a6, a7⟩
  · omega
  · injection a1 with e1 e2 e3
    injection e1 with e1
    injection e1 with e1
    subst e1
    rw [a3] at hG
    injection hG with hG
    injection hG with hG _ _
    subst hG
    omega
theorem st_guard {P : Program} {ops : Array Oper} {Q : Exit → Act → World → Prop} {rest : List Oper} {a : Act} {w : World} {d y t pos aft g} (h : wpList P ops Q (({ dst := d, op := .store 56 (.tmp 71) y, type := t, pos := pos, after := aft, guard := g } : Oper) :: rest) a w) : wpList P ops Q (({ dst := d, op := .store 56 (.tmp 71) y, type := t, pos := pos, after := aft, guard := g } : Oper) :: rest) a w := h
theorem setCells_other (b : Nat) : ∀ (vs : List Value) (o : Nat) (w : World) (k : Nat), k ≠ b → (w.setCells b o vs).heap[k]? = w.heap[k]?
  | [], _, _, _, _ => rfl
  | v :: r, o, w, k, h => by
    rw [World.setCells, setCells_other b r (o + 1) _ k h]
    exact Below.heap_setCell _ _ _ k h
theorem setCells_size (b : Nat) : ∀ (vs : List Value) (o : Nat) (w : World), (w.setCells b o vs).heap.size = w.heap.size
  | [], _, _ => rfl
  | v :: r, o, w => by rw [World.setCells, setCells_size b r (o + 1)]; simp
theorem setCells_same (b : Nat) (e : TypeId) : ∀ (vs : List Value) (o : Nat) (w : World) (cur : Array Value), w.heap[b]? = some (.cells cur e (0, 0)) →
    ∃ cur' : Array Value, (w.setCells b o vs).heap[b]? = some (.cells cur' e (0, 0)) ∧ cur'.size = cur.size ∧ (∀ t u, vs[t]? = some u → o + t < cur.size → cur'[o + t]? = some u) ∧ ∀ j, (j < o ∨ o + vs.length ≤ j) → cur'[j]? = cur[j]?
  | [], o, w, cur, h => ⟨cur, h, rfl, fun t u hu => by simp at hu, fun _ _ => rfl⟩
  | v :: r, o, w, cur, h => by
    obtain ⟨cur', h1, h2, h3, h4⟩ := setCells_same b e r (o + 1) (w.setCell ⟨b, o, none⟩ v) (cur.setIfInBounds o v) (heap_setCell_same w b o cur e v h)
    rw [Array.size_setIfInBounds] at h2
    refine ⟨cur', h1, h2, fun t u hu ht => ?_, fun j hj => ?_⟩
    · cases t with
      | zero =>
        simp only [List.getElem?_cons_zero, Option.some.injEq] at hu
        subst hu
        rw [Nat.add_zero] at ht ⊢
        rw [h4 o (by omega), Array.getElem?_setIfInBounds]
        simp [ht]
      | succ t =>
        rw [List.getElem?_cons_succ] at hu
        have := h3 t u hu (by rw [Array.size_setIfInBounds]; omega)
        rw [show o + (t + 1) = o + 1 + t by omega]
        exact this
    · rw [List.length_cons] at hj
      rw [h4 j (by omega), Array.getElem?_setIfInBounds]
      have : ¬ o = j := by omega
      simp [this]
theorem getD_setP (ps : List Pt) (i j : Nat) (q : Pt) (hi : i < ps.length) : (ps.set i q).getD j zeroPt = if i = j then q else ps.getD j zeroPt := by
  simp only [List.getD, List.getElem?_set]
  by_cases h : i = j
  · subst h
    simp [hi]
  · simp [h]
theorem RowX.store {w : World} {B G vc n : Nat} {ps : List Pt} {i : Nat} {A : Option Addr} (h : RowX w B G vc n ps i A) (hi : i < n) (hn : ps.length = n) {q : Pt} {A' : Option Addr} {c' : Nat} (ho : SpansOwn w B A' c' q.opens) :
    RowQ (w.setCells G (i * 8) (pcellsL q A' c')) B (.slice (some ⟨G, 0, none⟩) n vc) (ps.set i q) n := by
  obtain ⟨xs, fs, ⟨h1, h2⟩, h3⟩ := h
  rcases h2 with ⟨_, h5⟩ | ⟨g, cap, cur, a1, a2, a3, a4, a5, a6, a7⟩
  · omega
  · injection a1 with e1 e2 e3
    injection e1 with e1
    injection e1 with e1
    subst e1 e3
    obtain ⟨cur', k1, k2, k3, k4⟩ := setCells_same G 56 (pcellsL q A' c') (i * 8) w cur a3
    have hsp : ∀ {C : Option Addr} {cc : Nat} {os : List (Int × Int)}, SpansOwn w B C cc os → SpansOwn (w.setCells G (i * 8) (pcellsL q A' c')) B C cc os := fun hso => hso.keep fun k cs hk => (setCells_other G _ _ w k (fun e => by
      subst e
      rw [a3] at hk
      injection hk with hk
      injection hk with _ hk _
      exact absurd hk (by decide))).trans hk
    refine ⟨cur'.toList.take (n * 8), fun j => if j = i then (A', c') else fs j, ⟨by rw [List.length_take, Array.length_toList, k2]; omega, .inr ⟨G, vc, cur', rfl, a2, k1, a4, a5, by omega, rfl⟩⟩, fun j hj => ?_⟩
    have hget : ∀ t, t < 8 → (cur'.toList.take (n * 8))[j * 8 + t]? = cur'[j * 8 + t]? := fun t ht => by
      rw [List.getElem?_take_of_lt (by omega), Array.getElem?_toList]
    rw [getD_setP ps i j q (by omega)]
    dsimp only
    by_cases hji : j = i
    · subst hji
      simp only [if_true]
      obtain ⟨o1, o2, _⟩ := (hsp ho).opens
      refine ⟨fun t ht => ?_, o2, o1, fun _ => (hsp ho).blk⟩
      rw [hget t ht]
      have hlt : t < (pcellsL q A' c').length := ht
      rw [List.getElem?_eq_getElem hlt]
      exact k3 t _ (List.getElem?_eq_getElem hlt) (by omega)
    · simp only [if_neg hji, if_neg (fun e : i = j => hji e.symm)]
      obtain ⟨b1, b2, b3⟩ := h3 j hj hji
      obtain ⟨o1, o2, _⟩ := (hsp b2).opens
      refine ⟨fun t ht => ?_, o2, o1, fun _ => (hsp b2).blk⟩
      rw [hget t ht, k4 (j * 8 + t) (by rw [pcells_len]; omega), ← b1 t ht, ← a7, List.getElem?_take_of_lt (by omega), Array.getElem?_toList]
set_option maxRecDepth 100000 in
theorem wpList_append_span {P : Program} {ops : Array Oper} {rest : List Oper} {o : Oper} {a : Act} {Q : Exit → Act → World → Prop} (w : World) (hP : P = Try.prog) (hgd : o.guard = none) (s x : Operand)
    (ho : o.op = .call { callee := .builtin .append, args := #[s, x], argTypes := #[54, 54] }) (B : Nat) (A : Option Addr) (c : Nat) (os : List (Int × Int)) (hs : a.eval s = .slice A os.length c) (hown : SpansOwn w B A c os)
    (g : Nat) (o1 o2 : Int) (hx : a.eval x = .slice (some ⟨g, 0, none⟩) 1 1) (hg : w.heap[g]? = some (.cells #[.int .i64 o1, .int .i64 o2] 26 (0, 0))) (hl : os.length ≤ 1000) (hB : B ≤ w.heap.size)
    (h : ∀ A' c' w', SpansOwn w' B A' c' (os ++ [(o1, o2)]) → w.grownBy w' (Spot A) → wpList P ops Q rest (a.put o.dst (.slice A' (os.length + 1) c')) w') : wpList P ops Q (o :: rest) a w := by
  subst hP
  obtain ⟨i0, hi, hz0, hz1, hz2⟩ := info_parts infoSpan
  refine wpList_append_own w hgd s x 54 ho B 26 i0 zspan 2 16 Try.underlying54 hi hz0 hz1 hz2 rfl (by decide) (.slice A os.length c) os.length (spanCells os) hs hown ⟨g, 0, none⟩ 1 1 [.int .i64 o1, .int .i64 o2] hx rfl (blk_add hg) (fun u hu => by
    simp only [List.mem_cons, List.not_mem_nil, or_false] at hu
    rcases hu with rfl | rfl <;> rfl) (by unfold maxLen; omega) (by omega) hB (fun v' w' h1 h2 _ => ?_)
  rw [spot_own] at h2
  rcases h1.2 with ⟨_, h4⟩ | ⟨g', cap, cur, rfl, h5⟩
  · omega
  · refine h (some ⟨g', 0, none⟩) cap w' ?_ h2
    unfold SpansOwn
    have e1 : (os ++ [(o1, o2)]).length = os.length + 1 := by simp
    have e2 : spanCells (os ++ [(o1, o2)]) = spanCells os ++ [.int .i64 o1, .int .i64 o2] := by simp [spanCells]
    rw [e1, e2]
    exact h1
/-- The paths lie there, whatever becomes of block Z. -/
def PathsBut (w : World) (Z : Nat → Prop) (A : Option Addr) (ps : List Pt) : Prop := ∀ W : World, (∀ (k : Nat) (o : Obj), w.heap[k]? = some o → ¬ Z k → W.heap[k]? = some o) → PathsAt W A ps
set_option maxRecDepth 100000 in
theorem wpList_append_more {P : Program} {ops : Array Oper} {rest : List Oper} {o : Oper} {a : Act} {Q : Exit → Act → World → Prop} (w : World) (hP : P = Try.prog) (hgd : o.guard = none) (s x : Operand)
    (ho : o.op = .call { callee := .builtin .append, args := #[s, x], argTypes := #[22, 22] }) (B : Nat) (Z : Nat → Prop) (v : Value) (qs : List Pt) (k : Nat) (hs : a.eval s = v) (hv : RowQ w B v qs k) (hql : qs.length = k) (hB : B ≤ w.heap.size) (hk : k ≤ 1000)
    (g : Nat) (p : Pt) (A : Option Addr) (c : Nat) (hx : a.eval x = .slice (some ⟨g, 0, none⟩) 1 1) (hg : w.heap[g]? = some (.cells (pcellsL p A c).toArray 56 (0, 0))) (hop : OpensAt w A p.opens) (hc : p.opens.length ≤ c) (hA : p.opens ≠ [] → ∀ q, Spot A = some q → q < B ∧ ¬ Z q) (hZ : ∀ k, Z k → ∃ cs t, w.heap[k]? = some (.cells cs t (0, 0)) ∧ t ≠ 56 ∧ t ≠ 26)
    (h : ∀ A' c' w', PathsBut w' Z A' (qs ++ [p]) → k + 1 ≤ c' → w.grownBy w' v.ownBlock → (∀ q, v.ownBlock = some q → B ≤ q ∧ ¬ Z q) → wpList P ops Q rest (a.put o.dst (.slice A' (k + 1) c')) w') : wpList P ops Q (o :: rest) a w := by
  subst hP
  obtain ⟨i0, hi, hz0, hz1, hz2⟩ := info_parts infoPath
  obtain ⟨xs, fs, hown, h3⟩ := hv
  refine wpList_append_own w hgd s x 22 ho B 56 i0 zpath 8 80 Try.underlying22 hi hz0 hz1 hz2 rfl (by decide) v k xs hs hown ⟨g, 0, none⟩ 1 1 (pcellsL p A c) hx rfl (blk_add hg) (pcells_one _ _ _) (by unfold maxLen; omega) (by omega) hB (fun v' w' h1 h2 _ => ?_)
  have hvb : ∀ q, v.ownBlock = some q → B ≤ q ∧ ∃ cs, w.heap[q]? = some (.cells cs 56 (0, 0)) := fun q hq => by
    rcases hown.2 with ⟨h5, _⟩ | ⟨g', cap, cur, a1, a2, a3, _⟩
    · rw [h5] at hq; cases hq
    · rw [a1] at hq
      cases hq
      exact ⟨a2, _, a3⟩
  have hvZ : ∀ q, v.ownBlock = some q → ¬ Z q := fun q hq hz => by
    obtain ⟨_, cs, hcs⟩ := hvb q hq
    obtain ⟨cz, t, hk, t1, t2⟩ := hZ q hz
    rw [hk] at hcs
    injection hcs with hcs
    injection hcs with _ hcs _
    exact t1 hcs
  have hZ' : ∀ k, Z k → ∃ cs t, w'.heap[k]? = some (.cells cs t (0, 0)) ∧ t ≠ 56 ∧ t ≠ 26 := fun k hz => by
    obtain ⟨cz, t, hk, t12⟩ := hZ k hz
    exact ⟨cz, t, (h2.block k (Array.getElem?_eq_some_iff.1 hk).1 (fun e => hvZ k e.symm hz)).trans hk, t12⟩
  have hop' : ∀ {C : Option Addr} {os : List (Int × Int)}, OpensAt w C os → (os ≠ [] → ∀ q, Spot C = some q → v.ownBlock ≠ some q ∧ ¬ Z q) → ∀ W : World, (∀ (k : Nat) (o : Obj), w'.heap[k]? = some o → ¬ Z k → W.heap[k]? = some o) → OpensAt W C os := fun {C os} ho' hne W hW hos => by
    obtain ⟨b, off, hA', hb, hcell⟩ := ho' hos
    subst hA'
    obtain ⟨ne1, ne2⟩ := hne hos b rfl
    have hkeep := h2.block b hb (fun e => ne1 e.symm)
    have hbo : w.heap[b]? = some w.heap[b] := Array.getElem?_eq_getElem hb
    have hWb := hW b _ (hkeep.trans hbo) ne2
    have hcc : ∀ o, W.cell? ⟨b, o, none⟩ = w.cell? ⟨b, o, none⟩ := fun o => World.cell?_of_block (hWb.trans hbo.symm)
    refine ⟨b, off, rfl, (Array.getElem?_eq_some_iff.1 hWb).1, fun j hj => ?_⟩
    rw [hcc, hcc]
    exact hcell j hj
  have hZn : ∀ (q : Nat) (cs : Array Value), w.heap[q]? = some (.cells cs 26 (0, 0)) → ¬ Z q := fun q cs hq hz => by
    obtain ⟨cz, t, hk, t1, t2⟩ := hZ q hz
    rw [hk] at hq
    injection hq with hq
    injection hq with _ hq _
    exact t2 hq
  rcases h1.2 with ⟨_, h4⟩ | ⟨g', cap, cur, rfl, a2, a3, a4, a5, a6, a7⟩
  · omega
  · have hgZ : ¬ Z g' := fun hz => by
      obtain ⟨cz, t, hk, t1, t2⟩ := hZ' g' hz
      rw [a3] at hk
      injection hk with hk
      injection hk with _ hk _
      exact t1 hk.symm
    refine h (some ⟨g', 0, none⟩) cap w' (fun W hW _ => ⟨g', 0, rfl, (Array.getElem?_eq_some_iff.1 (hW g' _ a3 hgZ)).1, fun j hj => ?_⟩) a4 h2 (fun q hq => ⟨(hvb q hq).1, hvZ q hq⟩)
    have a3' := hW g' _ a3 hgZ
    rw [List.length_append, List.length_cons, List.length_nil] at hj
    have hxl : xs.length = k * 8 := hown.1
    have hmk : ∀ (r : Pt) (C : Option Addr) (cc : Nat), (∀ t, t < 8 → (xs ++ pcellsL p A c)[j * 8 + t]? = (pcellsL r C cc)[t]?) → r.opens.length ≤ cc → OpensAt W C r.opens → PtAt W g' (0 + j * 8) r C cc := fun r C cc hr hcc hoo => by
      have hcell : ∀ t u, t < 8 → (pcellsL r C cc)[t]? = some u → W.cell? ⟨g', 0 + j * 8 + t, none⟩ = some u := fun t u ht hu => by
        rw [← hr t ht, ← a7, List.getElem?_take_of_lt (by omega)] at hu
        rw [Nat.zero_add]
        exact cell_of_heap a3' hu
      exact ⟨hcell 0 _ (by omega) rfl, hcell 1 _ (by omega) rfl, hcell 2 _ (by omega) rfl, hcell 3 _ (by omega) rfl, hcell 4 _ (by omega) rfl, hcell 5 _ (by omega) rfl, hcell 6 _ (by omega) rfl, hcell 7 _ (by omega) rfl, hcc, hoo⟩
    by_cases hjk : j < k
    · obtain ⟨b1, b2, b3, b4⟩ := h3 j hjk
      have hgd2 : (qs ++ [p]).getD j zeroPt = qs.getD j zeroPt := by simp only [List.getD, List.getElem?_append_left (show j < qs.length by omega)]
      rw [hgd2]
      refine ⟨_, _, hmk _ _ _ (fun t ht => by rw [List.getElem?_append_left (by omega)]; exact b1 t ht) b2 (hop' b3 (fun hne q hq => ?_) W hW)⟩
      obtain ⟨cs, hcs⟩ := b4 hne q hq
      refine ⟨fun he => ?_, hZn q cs hcs⟩
      obtain ⟨_, cs', hcs'⟩ := hvb q he
      rw [hcs] at hcs'
      injection hcs' with hcs'
      injection hcs' with _ hcs' _
      exact absurd hcs' (by decide)
    · obtain rfl : j = k := by omega
      have hgd2 : (qs ++ [p]).getD j zeroPt = p := by
        simp only [List.getD, List.getElem?_append_right (show qs.length ≤ j by omega), hql, Nat.sub_self, List.getElem?_cons_zero, Option.getD_some]
      rw [hgd2]
      refine ⟨A, c, hmk _ _ _ (fun t ht => by rw [List.getElem?_append_right (by omega)]; congr 1; omega) hc (hop' hop (fun hne q hq => ⟨fun he => ?_, (hA hne q hq).2⟩) W hW)⟩
      have := (hvb q he).1
      have := (hA hne q hq).1
      omega
theorem PathsAt.front {w : World} {A : Option Addr} {ps : List Pt} {p : Pt} (h : PathsAt w A (ps ++ [p])) : PathsAt w A ps := fun _ => by
  obtain ⟨b, off, h1, h2, h3⟩ := h (by simp)
  refine ⟨b, off, h1, h2, fun k hk => ?_⟩
  have h4 := h3 k (by simp; omega)
  rwa [show (ps ++ [p]).getD k zeroPt = ps.getD k zeroPt by simp only [List.getD, List.getElem?_append_left hk]] at h4
theorem pbox {W : World} {q : Nat} {g l pl ph : Int} (L1 P1 P2 : Int) (h : W.heap[q]? = some (.cells #[.int .i64 g, .int .i64 l, .int .i64 pl, .int .i64 ph] 28 (0, 0))) :
    (((W.setCell ⟨q, 1, none⟩ (.int .i64 L1)).setCell ⟨q, 2, none⟩ (.int .i64 P1)).setCell ⟨q, 3, none⟩ (.int .i64 P2)).heap[q]? = some (.cells #[.int .i64 g, .int .i64 L1, .int .i64 P1, .int .i64 P2] 28 (0, 0)) ∧
    ∀ k, k ≠ q → (((W.setCell ⟨q, 1, none⟩ (.int .i64 L1)).setCell ⟨q, 2, none⟩ (.int .i64 P1)).setCell ⟨q, 3, none⟩ (.int .i64 P2)).heap[k]? = W.heap[k]? :=
  ⟨heap_setCell_same _ q 3 _ _ (.int .i64 P2) (heap_setCell_same _ q 2 _ _ (.int .i64 P1) (heap_setCell_same W q 1 _ _ (.int .i64 L1) h)), fun k hk => (Below.heap_setCell _ _ _ k hk).trans ((Below.heap_setCell _ _ _ k hk).trans (Below.heap_setCell _ _ _ k hk))⟩
theorem six_keep {W : World} {q3 q4 k : Nat} {v1 v2 v3 v4 v5 v6 : Value} (h3 : k ≠ q3) (h4 : k ≠ q4) :
    (((((((W.setCell ⟨q3, 0, none⟩ v1).setCell ⟨q3, 1, none⟩ v2).setCell ⟨q4, 0, none⟩ v3).setCell ⟨q4, 1, none⟩ v4).setCell ⟨q4, 2, none⟩ v5).setCell ⟨q4, 3, none⟩ v6).drew).heap[k]? = W.heap[k]? :=
  by
  have hs : ∀ (W : World) (q i : Nat) (v : Value), k ≠ q → (W.setCell ⟨q, i, none⟩ v).heap[k]? = W.heap[k]? := fun W q i v h => Below.heap_setCell W ⟨q, i, none⟩ v k h
  have hd : ∀ W : World, W.drew.heap = W.heap := fun _ => rfl
  rw [hd, hs _ _ _ _ h4, hs _ _ _ _ h4, hs _ _ _ _ h4, hs _ _ _ _ h4, hs _ _ _ _ h3, hs _ _ _ _ h3]
theorem party_ease {g l pl ph L1 P1 P2 : Int} (h : vParty g l pl ph = true) (hL : 0 ≤ L1 ∧ L1 ≤ l ∧ 50 ≤ P1 ∧ P1 ≤ P2 ∧ P2 ≤ ph) : vParty g L1 P1 P2 = true := by
  unfold vParty spanB at h ⊢
  simp only [Bool.and_eq_true, decide_eq_true_eq] at h ⊢
  obtain ⟨h1, ⟨⟨h2, h3⟩, h4⟩, h5, h6⟩ := h
  exact ⟨h1, ⟨⟨by omega, by omega⟩, by omega⟩, by omega, by omega⟩
theorem ok_opens {m f d gg tl th sl sh : Int} {os : List (Int × Int)} (h : vPath m ⟨f, d, gg, tl, th, sl, sh, os⟩ = true) : os.length ≤ 6 := by
  unfold vPath at h
  simp only [Bool.and_eq_true, decide_eq_true_eq] at h
  exact h.2.2.2.2.1
theorem ok_opens2 {m f d gg tl th sl sh : Int} {os : List (Int × Int)} (h : vPath m ⟨f, d, gg, tl, th, sl, sh, os⟩ = true) : os.all openB = true := by
  unfold vPath at h
  simp only [Bool.and_eq_true, decide_eq_true_eq] at h
  exact h.2.2.2.2.2.2.2
/-- Where a walk is to stop. -/
def Halt (p : Prop) : Prop := p
theorem Halt.mk {p : Prop} (h : Halt p) : p := h
/-- What eased gives. -/
def EasedIs (m g l ph : Int) (ps : List Pt) (w : World) (e : Ending) (w' : World) : Prop := ∃ qs A k c l' pl' ph', e = .returned (.tuple #[.agg #[.int .i64 m, .slice A k c], .agg #[.int .i64 g, .int .i64 l', .int .i64 pl', .int .i64 ph']]) ∧ qs.length = k ∧ PathsAt w' A qs ∧ vNet m qs = true ∧ vParty g l' pl' ph' = true ∧ EasyNet ps qs ∧ l' ≤ l ∧ ph' ≤ ph ∧ Ext w w'
theorem EasyNet.same (ps : List Pt) : EasyNet ps ps := ⟨Nat.le_refl _, fun i _ => EasyPt.refl _⟩
theorem EasyNet.set {ps : List Pt} {i : Nat} (hi : i < ps.length) {q : Pt} (h : EasyPt (ps.getD i zeroPt) q) : EasyNet ps (ps.set i q) := ⟨by simp, fun j hj => by
  rw [getD_setP ps i j q hi]
  by_cases e : i = j
  · subst e
    rw [if_pos rfl]
    exact h
  · rw [if_neg e]
    exact EasyPt.refl _⟩
theorem EasyNet.more {ps qs : List Pt} (h : EasyNet ps qs) (p : Pt) : EasyNet ps (qs ++ [p]) := ⟨by have := h.len; simp; omega, fun j hj => by
  have := h.len
  rw [show (qs ++ [p]).getD j zeroPt = qs.getD j zeroPt by simp only [List.getD, List.getElem?_append_left (show j < qs.length by omega)]]
  exact h.pt j hj⟩
theorem vNet_set {m : Int} {ps : List Pt} (h : vNet m ps = true) (i : Nat) {q : Pt} (hq : vPath m q = true) : vNet m (ps.set i q) = true := by
  unfold vNet at h ⊢
  simp only [Bool.and_eq_true, decide_eq_true_eq] at h ⊢
  obtain ⟨h1, h2, h3, h4⟩ := h
  refine ⟨h1, h2, by simpa using h3, ?_⟩
  rw [List.all_eq_true] at h4 ⊢
  intro p hp
  by_cases hi : i < ps.length
  · rcases List.mem_or_eq_of_mem_set hp with h | h
    · exact h4 p h
    · subst h; exact hq
  · rw [List.set_eq_of_length_le (by omega)] at hp
    exact h4 p hp
theorem vPath_ease {m f d gg tl th sl sh : Int} {os : List (Int × Int)} (h : vPath m ⟨f, d, gg, tl, th, sl, sh, os⟩ = true) {G S1 S2 : Int} {os' : List (Int × Int)} (hG : 1 ≤ G ∧ G ≤ gg ∧ 0 ≤ S1 ∧ S1 ≤ sl ∧ S1 ≤ S2 ∧ S2 ≤ sh) (ho : os'.length ≤ 6 ∧ os'.all openB = true) : vPath m ⟨f, d, G, tl, th, S1, S2, os'⟩ = true := by
  unfold vPath gradeB spanB at h ⊢
  simp only [Bool.and_eq_true, decide_eq_true_eq] at h ⊢
  obtain ⟨h1, h2, h3, h4, h5, h6, h7, h8⟩ := h
  refine ⟨h1, h2, h3, by omega, ho.1, h6, by omega, ho.2⟩
end Go.Proofs.Ytndoghcglbpllaa
