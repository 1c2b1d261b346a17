/- The route with the fewest paths. -/
import Derived.Test.YtndoghcglbpllaaE11
import Derived.Laws.EntriesVeiled
import Derived.Lib.JoinLaws
set_option linter.unusedSimpArgs false
set_option linter.unusedVariables false
namespace Go.Proofs.Ytndoghcglbpllaa
open Go.RowKit
attribute [local go_sem] Oper.semAt_some

def leftGo (p : Nat → Bool) : Nat → Nat → Nat
  | 0, k => k
  | r + 1, k => if p k = true then leftGo p r (k + 1) else k
theorem leftGo_le (p : Nat → Bool) : ∀ r k, leftGo p r k ≤ k + r
  | 0, k => Nat.le_refl _
  | r + 1, k => by
    unfold leftGo
    have := leftGo_le p r (k + 1)
    split <;> omega
/-- Whether a place is reached too late by k paths. -/
def tooLate (g l pl ph : Int) (ps : List Pt) (m to_ : Nat) (D : Int) (place : Nat) (minute : Int) (k : Nat) : Bool := decide (D < (rows selHi g l pl ph ps m place minute k).getD to_ 0)
def fits_ (g l pl ph : Int) (ps : List Pt) (m to_ : Nat) (D : Int) (place : Nat) (minute : Int) (k : Nat) (i : Nat) : Bool :=
  ((ps.getD i zeroPt).frm == (place : Int)) && !tooLate g l pl ph ps m to_ D (ps.getD i zeroPt).dst.toNat (arrive selHi l pl ph (ps.getD i zeroPt) minute) k
def routeGo (g l pl ph : Int) (ps : List Pt) (m to_ : Nat) (D : Int) : Nat → Nat → Int → List Nat
  | 0, _, _ => []
  | k + 1, place, minute => match (walkIdx ps g ps.length).find? (fits_ g l pl ph ps m to_ D place minute k) with
    | some i => i :: routeGo g l pl ph ps m to_ D k (ps.getD i zeroPt).dst.toNat (arrive selHi l pl ph (ps.getD i zeroPt) minute)
    | none => routeGo g l pl ph ps m to_ D k place minute
def routeOf (g l pl ph : Int) (ps : List Pt) (m from_ to_ : Nat) (start D : Int) : List Nat :=
  routeGo g l pl ph ps m to_ D (leftGo (tooLate g l pl ph ps m to_ D from_ start) (m - 1) 0) from_ start

theorem blk_fro {w : World} {g : Nat} {cs : Array Value} {t : TypeId} (h : w.heap[g]? = some (.cells cs t (0, 0))) (i : Nat) : w.frozen? ⟨g, i, none⟩ = false := frozen_of_row w g i cs t h

/-- The marks of loops that are over. -/
def mks (Ds : List Nat) : List Deferred := Ds.map fun D => { target := .collected D, args := #[] }
def Marks (Ds : List Nat) (lo : Nat) (W : World) : Prop := Ds.Nodup ∧ ∀ D ∈ Ds, lo ≤ D ∧ W.heap[D]? = some (.deferred (some []))
theorem Marks.step {Ds : List Nat} {lo : Nat} {W W' : World} (h : Marks Ds lo W) (hk : ∀ q o, lo ≤ q → W.heap[q]? = some o → o.isCells = false → W'.heap[q]? = some o) : Marks Ds lo W' :=
  ⟨h.1, fun D hD => ⟨(h.2 D hD).1, hk D _ (h.2 D hD).1 (h.2 D hD).2 rfl⟩⟩
theorem Marks.ext {Ds : List Nat} {lo : Nat} {W W' : World} (h : Marks Ds lo W) (e : Ext W W') : Marks Ds lo W' := h.step fun _ _ _ ho _ => blk_ext ho e
theorem Marks.setCell {Ds : List Nat} {lo : Nat} {W : World} (h : Marks Ds lo W) (p : Addr) (v : Value) (hp : p.block < lo) : Marks Ds lo (W.setCell p v) := h.step fun q _ hq ho _ => (Below.heap_setCell W p v q (by omega)).trans ho
theorem Marks.own {Ds : List Nat} {lo B : Nat} {W W' : World} {row : Option Nat} (h : Marks Ds lo W) (hB : W.heap.size ≤ B ∨ ∀ D ∈ Ds, D < B) (hg : W.grownBy W' row) (hr : ∀ r, row = some r → B ≤ r ∧ ∃ o : Obj, W.heap[r]? = some o ∧ o.isCells = false) : Marks Ds lo W' :=
  ⟨h.1, fun D hD => ⟨(h.2 D hD).1, own_blk (B := B) (by
    rcases hB with hB | hB
    · have := (Array.getElem?_eq_some_iff.1 (h.2 D hD).2).1
      omega
    · exact hB D hD) (h.2 D hD).2 hg hr⟩⟩
theorem Marks.cons {Ds : List Nat} {lo D : Nat} {W : World} (h : Marks Ds lo W) (hn : D ∉ Ds) (hl : lo ≤ D) (hd : W.heap[D]? = some (.deferred (some []))) : Marks (D :: Ds) lo W :=
  ⟨List.nodup_cons.2 ⟨hn, h.1⟩, fun q hq => by
    rcases List.mem_cons.1 hq with rfl | hq
    · exact ⟨hl, hd⟩
    · exact h.2 q hq⟩
theorem leaves_marks {F : Fence} {fn : Func} {tmps : Array Value} {w : World} {xs : List Int} {g cap : Nat} (nn : Nat)
    (hres : ∀ W, (results fn tmps).run Try.prog W = .ok (.slice (some ⟨g, 0, none⟩) xs.length cap) W) (hlo : w.heap.size ≤ g) :
    ∀ (Ds : List Nat) (lo : Nat) (W : World), g < lo → w.heap.size ≤ lo → Marks Ds lo W → RowAt W g cap xs → Ext w W → LeavesInM F nn Try.prog fn tmps (NewRow xs w) (mks Ds) .returning W
  | [], _, W, _, _, _, hr, he => ⟨_, hres W, NewRow.mk rfl hr hlo he⟩
  | D :: Ds, lo, W, h1, h2, hm, hr, he => by
    obtain ⟨hn, hd⟩ := hm
    obtain ⟨hD, hDs⟩ := List.nodup_cons.1 hn
    have h0 := hd D List.mem_cons_self
    refine ⟨by simp, .inl ⟨D, _, rfl, run_takeDeferred h0.2, ?_⟩⟩
    refine leaves_marks nn hres hlo Ds lo _ h1 h2 ⟨hDs, fun q hq => ⟨(hd q (List.mem_cons_of_mem _ hq)).1, ?_⟩⟩ (hr.ofHeap (by simp) (World.putObj_heap_other (by omega))) (ext_putObj he (by omega))
    exact (World.putObj_heap_other (by rintro rfl; exact hD hq)).trans (hd q (List.mem_cons_of_mem _ hq)).2
/-- The memory of the second loop. -/
structure RT (w : World) (Z : Nat) (m : Nat) (g l pl ph : Int) (A : Option Addr) (n c to_ : Nat) (D : Int) (left k : Nat) (xs : List Int) (place minute : Int) (W : World) : Prop where
  ext : Ext w W
  size : Z + 4 ≤ W.heap.size
  b0 : W.heap[w.heap.size]? = some (.cells #[.int .i64 (m : Int), .slice A n c, .int .i64 g, .int .i64 l, .int .i64 pl, .int .i64 ph] 70 (0, 0))
  b1 : W.heap[w.heap.size + 1]? = some (.cells #[.int .i64 (to_ : Int)] 3 (0, 0))
  b2 : W.heap[w.heap.size + 2]? = some (.cells #[.int .i64 D] 3 (0, 0))
  b3 : W.heap[w.heap.size + 1 + 1 + 1]? = some (.cells #[.func (.func 88) #[] #[.pointer (some ⟨w.heap.size, 0, none⟩), .pointer (some ⟨w.heap.size + 1, 0, none⟩), .pointer (some ⟨w.heap.size + 1 + 1, 0, none⟩)]] 67 (0, 0))
  b4 : W.heap[w.heap.size + 1 + 1 + 1 + 1]? = some (.cells #[.int .i64 (k : Int)] 3 (0, 0))
  z1 : W.heap[Z + 1]? = some (.cells #[.slice (some ⟨Z, 0, none⟩) xs.length left] 29 (0, 0))
  z2 : W.heap[Z + 1 + 1]? = some (.cells #[.int .i64 place] 3 (0, 0))
  z3 : W.heap[Z + 1 + 1 + 1]? = some (.cells #[.int .i64 minute] 3 (0, 0))
  row : RowAt W Z left xs
theorem RT.keep {w : World} {Z m : Nat} {g l pl ph : Int} {A : Option Addr} {n c to_ : Nat} {D : Int} {left k : Nat} {xs : List Int} {place minute : Int} {W W' : World}
    (h : RT w Z m g l pl ph A n c to_ D left k xs place minute W) (hZ : w.heap.size + 5 ≤ Z) (he : Ext w W') (hs : W.heap.size ≤ W'.heap.size) (hh : ∀ q, q < Z + 4 → W'.heap[q]? = W.heap[q]?) : RT w Z m g l pl ph A n c to_ D left k xs place minute W' :=
  ⟨he, Nat.le_trans h.size hs, (hh _ (by omega)).trans h.b0, (hh _ (by omega)).trans h.b1, (hh _ (by omega)).trans h.b2, (hh _ (by omega)).trans h.b3, (hh _ (by omega)).trans h.b4, (hh _ (by omega)).trans h.z1, (hh _ (by omega)).trans h.z2, (hh _ (by omega)).trans h.z3, h.row.ofHeap hs (hh _ (by omega))⟩
theorem RT.step {w : World} {Z m : Nat} {g l pl ph : Int} {A : Option Addr} {n c to_ : Nat} {D : Int} {left k : Nat} {xs : List Int} {place minute : Int} {W W' : World}
    (h : RT w Z m g l pl ph A n c to_ D left k xs place minute W) (hZ : w.heap.size + 5 ≤ Z) (e : Ext W W') : RT w Z m g l pl ph A n c to_ D left k xs place minute W' :=
  h.keep hZ (h.ext.trans e) e.size fun q hq => Below.block e q (by have := h.size; omega)
theorem RT.own {w : World} {Z m : Nat} {g l pl ph : Int} {A : Option Addr} {n c to_ : Nat} {D : Int} {left k : Nat} {xs : List Int} {place minute : Int} {B : Nat} {W W' : World} {row : Option Nat}
    (h : RT w Z m g l pl ph A n c to_ D left k xs place minute W) (hZ : w.heap.size + 5 ≤ Z) (hB : Z + 4 ≤ B) (hg : W.grownBy W' row) (hr : ∀ r, row = some r → B ≤ r ∧ ∃ o : Obj, W.heap[r]? = some o ∧ o.isCells = false) : RT w Z m g l pl ph A n c to_ D left k xs place minute W' :=
  h.keep hZ (own_ext (by omega) h.ext hg hr) hg.size fun q hq => hg.block q (by have := h.size; omega) (fun e => by have := (hr q e.symm).1; omega)
theorem RT.dec {w : World} {Z m : Nat} {g l pl ph : Int} {A : Option Addr} {n c to_ : Nat} {D : Int} {left k : Nat} {xs : List Int} {place minute : Int} {W : World}
    (h : RT w Z m g l pl ph A n c to_ D left (k + 1) xs place minute W) (hZ : w.heap.size + 5 ≤ Z) : RT w Z m g l pl ph A n c to_ D left k xs place minute (W.setCell ⟨w.heap.size + 1 + 1 + 1 + 1, 0, none⟩ (.int .i64 (k : Int))) := by
  have ho : ∀ q, q ≠ w.heap.size + 1 + 1 + 1 + 1 → (W.setCell ⟨w.heap.size + 1 + 1 + 1 + 1, 0, none⟩ (.int .i64 (k : Int))).heap[q]? = W.heap[q]? := fun q hq => Below.heap_setCell W _ _ q hq
  exact ⟨h.ext.set (by dsimp only; omega) _, by have := h.size; simpa using this, (ho _ (by omega)).trans h.b0, (ho _ (by omega)).trans h.b1, (ho _ (by omega)).trans h.b2, (ho _ (by omega)).trans h.b3, heap_setCell_same _ _ _ _ _ _ h.b4,
    (ho _ (by omega)).trans h.z1, (ho _ (by omega)).trans h.z2, (ho _ (by omega)).trans h.z3, h.row.setFar (by dsimp only; omega) _⟩
theorem RT.held {w : World} {Z m : Nat} {g l pl ph : Int} {A : Option Addr} {n c to_ : Nat} {D : Int} {left k : Nat} {xs : List Int} {place minute : Int} {W : World}
    (h : RT w Z m g l pl ph A n c to_ D left k xs place minute W) : heldAt W ⟨w.heap.size + 1 + 1 + 1 + 1, 0, none⟩ = .int .i64 (k : Int) := by
  have hv := blk_cell h.b4 0
  simp only [List.getElem?_toArray, List.getElem?_cons_zero] at hv
  have hh := held_of hv
  rw [hv] at hh
  injection hh with hh
  exact hh.symm
def putW (Z left k : Nat) (p' t' : Int) (W2 : World) : World := ((W2.setCell ⟨Z + 1, 0, none⟩ (.slice (some ⟨Z, 0, none⟩) (k + 1) left)).setCell ⟨Z + 1 + 1, 0, none⟩ (.int .i64 p')).setCell ⟨Z + 1 + 1 + 1, 0, none⟩ (.int .i64 t')
theorem putW_far (Z left k : Nat) (p' t' : Int) (W2 : World) (q : Nat) (h1 : q ≠ Z + 1) (h2 : q ≠ Z + 1 + 1) (h3 : q ≠ Z + 1 + 1 + 1) : (putW Z left k p' t' W2).heap[q]? = W2.heap[q]? :=
  (Below.heap_setCell _ _ _ q h3).trans ((Below.heap_setCell _ _ _ q h2).trans (Below.heap_setCell _ _ _ q h1))
theorem putW_size (Z left k : Nat) (p' t' : Int) (W2 : World) : (putW Z left k p' t' W2).heap.size = W2.heap.size := by simp [putW]
theorem RT.put {w : World} {Z m : Nat} {g l pl ph : Int} {A : Option Addr} {n c to_ : Nat} {D : Int} {left k : Nat} {xs : List Int} {place minute : Int} {W1 W2 : World}
    (h : RT w Z m g l pl ph A n c to_ D left k xs place minute W1) (hZ : w.heap.size + 5 ≤ Z) (hg : W1.grownBy W2 (some Z)) (i p' t' : Int) (hr : RowAt W2 Z left (xs ++ [i])) :
    RT w Z m g l pl ph A n c to_ D left k (xs ++ [i]) p' t' (putW Z left xs.length p' t' W2) ∧ (∀ q, Z + 4 ≤ q → q < W1.heap.size → (putW Z left xs.length p' t' W2).heap[q]? = W1.heap[q]?) ∧ W1.heap.size ≤ (putW Z left xs.length p' t' W2).heap.size := by
  have hs := h.size
  have hb : ∀ q, q < W1.heap.size → q ≠ Z → W2.heap[q]? = W1.heap[q]? := fun q hq hn => hg.block q hq (fun e => hn (Option.some.inj e))
  have hf : ∀ q, q < W1.heap.size → q ≠ Z → q ≠ Z + 1 → q ≠ Z + 1 + 1 → q ≠ Z + 1 + 1 + 1 → (putW Z left xs.length p' t' W2).heap[q]? = W1.heap[q]? := fun q hq h0 h1 h2 h3 => (putW_far Z left xs.length p' t' W2 q h1 h2 h3).trans (hb q hq h0)
  have hsz := putW_size Z left xs.length p' t' W2
  have hgs := hg.size
  have hl : (xs ++ [i]).length = xs.length + 1 := by simp
  have y1 := heap_setCell_same W2 (Z + 1) 0 _ _ (.slice (some ⟨Z, 0, none⟩) (xs.length + 1) left) ((hb _ (by omega) (by omega)).trans h.z1)
  have y2 := heap_setCell_same (W2.setCell ⟨Z + 1, 0, none⟩ (.slice (some ⟨Z, 0, none⟩) (xs.length + 1) left)) (Z + 1 + 1) 0 _ _ (.int .i64 p') ((Below.heap_setCell _ _ _ _ (by dsimp only; omega)).trans ((hb _ (by omega) (by omega)).trans h.z2))
  have y3 := heap_setCell_same ((W2.setCell ⟨Z + 1, 0, none⟩ (.slice (some ⟨Z, 0, none⟩) (xs.length + 1) left)).setCell ⟨Z + 1 + 1, 0, none⟩ (.int .i64 p')) (Z + 1 + 1 + 1) 0 _ _ (.int .i64 t') ((Below.heap_setCell _ _ _ _ (by dsimp only; omega)).trans ((Below.heap_setCell _ _ _ _ (by dsimp only; omega)).trans ((hb _ (by omega) (by omega)).trans h.z3)))
  refine ⟨⟨?_, by omega, (hf _ (by omega) (by omega) (by omega) (by omega) (by omega)).trans h.b0, (hf _ (by omega) (by omega) (by omega) (by omega) (by omega)).trans h.b1, (hf _ (by omega) (by omega) (by omega) (by omega) (by omega)).trans h.b2, (hf _ (by omega) (by omega) (by omega) (by omega) (by omega)).trans h.b3, (hf _ (by omega) (by omega) (by omega) (by omega) (by omega)).trans h.b4, ?_, ?_, ?_, ?_⟩, fun q h1 h2 => hf q h2 (by omega) (by omega) (by omega) (by omega), by omega⟩
  · have e2 : Ext w W2 := Below.grown h.ext hg h.ext.size (fun q e => by have := Option.some.inj e; omega)
    exact ((e2.set (by dsimp only; omega) _).set (by dsimp only; omega) _).set (by dsimp only; omega) _
  · rw [hl]
    exact (Below.heap_setCell _ _ _ _ (by dsimp only; omega)).trans ((Below.heap_setCell _ _ _ _ (by dsimp only; omega)).trans y1)
  · exact (Below.heap_setCell _ _ _ _ (by dsimp only; omega)).trans y2
  · exact y3
  · exact ((hr.setFar (by dsimp only; omega) _).setFar (by dsimp only; omega) _).setFar (by dsimp only; omega) _
theorem RT.appd {w : World} {Z m : Nat} {g l pl ph : Int} {A : Option Addr} {n c to_ : Nat} {D : Int} {left k : Nat} {xs : List Int} {place minute : Int} {W1 W2 : World}
    (h : RT w Z m g l pl ph A n c to_ D left k xs place minute W1) (o : Obj) (hg : (W1.alloc o).grownBy W2 (some Z)) (Bx : Nat) (cs : Array Value) (t : TypeId) (hB : W1.heap[Bx]? = some (.cells cs t (0, 0))) (hZ : Z + 4 ≤ Bx) :
    (W2.cell? ⟨Z + 1, 0, none⟩ = some (.slice (some ⟨Z, 0, none⟩) xs.length left) ∧ W2.frozen? ⟨Z + 1, 0, none⟩ = false) ∧ (W2.cell? ⟨Z + 1 + 1, 0, none⟩ = some (.int .i64 place) ∧ W2.frozen? ⟨Z + 1 + 1, 0, none⟩ = false) ∧ (W2.cell? ⟨Z + 1 + 1 + 1, 0, none⟩ = some (.int .i64 minute) ∧ W2.frozen? ⟨Z + 1 + 1 + 1, 0, none⟩ = false) ∧ ∀ i, W2.cell? ⟨Bx, i, none⟩ = cs[i]? := by
  have hs := h.size
  have hb : ∀ q, q < W1.heap.size → q ≠ Z → W2.heap[q]? = W1.heap[q]? := fun q hq hn => (hg.block q (by simp; omega) (fun e => hn (Option.some.inj e))).trans (Below.heap_alloc W1 o q hq)
  have y1 := (hb _ (by omega) (by omega)).trans h.z1
  have y2 := (hb _ (by omega) (by omega)).trans h.z2
  have y3 := (hb _ (by omega) (by omega)).trans h.z3
  have y4 := (hb Bx (Array.getElem?_eq_some_iff.1 hB).1 (by omega)).trans hB
  exact ⟨⟨by rw [blk_cell y1]; rfl, blk_fro y1 0⟩, ⟨by rw [blk_cell y2]; rfl, blk_fro y2 0⟩, ⟨by rw [blk_cell y3]; rfl, blk_fro y3 0⟩, blk_cell y4⟩
/-- How a round of the inner loop ends. -/
inductive BEnd (W' : World) (Z left : Nat) (xs : List Int) (i p' t' : Int) (fit : Bool) : Exit → World → Prop
  | no {W2 : World} (h : Ext W' W2) (hf : fit = false) : BEnd W' Z left xs i p' t' fit .normal W2
  | yes {W1 W3 : World} (h : Ext W' W1) (hf : fit = true) (hg : W1.grownBy W3 (some Z)) (hr : RowAt W3 Z left (xs ++ [i])) : BEnd W' Z left xs i p' t' fit (.exit 4) (putW Z left xs.length p' t' W3)
theorem find_prefix {α : Type} {p : α → Bool} {x : α} : ∀ {init L : List α}, (∀ y ∈ init, p y = false) → p x = true → init ++ [x] <+: L → L.find? p = some x
  | [], L, _, hx, ⟨t, ht⟩ => by rw [← ht]; simp [List.find?_cons, hx]
  | y :: init, L, hi, hx, ⟨t, ht⟩ => by
    rw [← ht]
    simp only [List.cons_append, List.find?_cons, hi y List.mem_cons_self]
    exact find_prefix (init := init) (fun z hz => hi z (List.mem_cons_of_mem _ hz)) hx ⟨t, rfl⟩

set_option maxRecDepth 100000 in
set_option maxHeartbeats 4000000 in
theorem route_any (g l pl ph : Int) (n c : Nat) (b off : Nat) (ps : List Pt) (hn : ps.length = n) (A : Option Addr) (m : Nat) (hm1 : 1 ≤ m) (hm2 : m ≤ 12) (hN : NOk m ps) (ha : PaOk l pl ph) (fr to_ : Nat) (hfr : fr < m) (hto : to_ < m) (D start : Int) (h0 : 0 ≤ start) (h1 : start ≤ 2881)
    (w : World) (hA : 0 < n → A = some ⟨b, off, none⟩ ∧ b < w.heap.size) (hp : ∀ k, k < ps.length → ∃ A' c', PtAt w b (off + k * 8) (ps.getD k zeroPt) A' c') :
    Calls Try.prog 57 #[.agg (wbox (m : Int) g l pl ph A n c), .int .i64 (fr : Int), .int .i64 start, .int .i64 (to_ : Int), .int .i64 D] w (NewRow ((routeOf g l pl ph ps m fr to_ start D).map (Int.ofNat)) w) := by
  have HL := hid (fun (pp : Nat) (hpp : pp < m) (t : Int) (ht0 : 0 ≤ t) (ht1 : t ≤ 2881) (k : Nat) (hk : k ≤ 1000) (q0 q2 q3 : Nat) (W : World) (hE : Ext w W) b0 b2 b3 =>
    rlate_any g l pl ph n c b off ps hn A m hm1 hm2 hN ha pp to_ hpp hto D t ht0 ht1 k hk W (fun h0 => ⟨(hA h0).1, Nat.lt_of_lt_of_le (hA h0).2 hE.size⟩)
      (fun k hk => by obtain ⟨A', c', h⟩ := hp k hk; exact ⟨A', c', h.ext (hA (by omega)).2 hE⟩) q0 q2 q3 b0 b2 b3)
  have HP := hid hp
  have HA := hid hA
  have HNN := hid hn
  have HNO := hid hN
  clear hp hn hN hA
  have hlo : ((m : Int) - 1) = ((m - 1 : Nat) : Int) := by omega
  have HLO := hid hlo
  clear hlo
  refine (callsIn_wide (n := 6)).1 ?_
  refine callsIn_of_wp_marks Try.func57 rfl trivial ?_ rfl
  simp only [Try.ntmps57, wbox, List.size_toArray, List.length_cons, List.length_nil, Nat.reduceAdd, Nat.reduceSub, Array.replicate_succ, Array.replicate_zero, List.push_toArray, List.append_toArray, List.nil_append, List.cons_append]
  gi_wp2
  have t0 := three_blocks w (.cells (wbox (m : Int) g l pl ph A n c) 70) (.cells #[.int .i64 (to_ : Int)] 3) (.cells #[.int .i64 D] 3)
  have t1 := two_blocks (((w.alloc (.cells (wbox (m : Int) g l pl ph A n c) 70)).alloc (.cells #[.int .i64 (to_ : Int)] 3)).alloc (.cells #[.int .i64 D] 3)) (.cells #[.func (.func 88) #[] #[.pointer (some ⟨w.heap.size, 0, none⟩), .pointer (some ⟨w.heap.size + 1, 0, none⟩), .pointer (some ⟨w.heap.size + 1 + 1, 0, none⟩)]] 67) (.cells #[.int .i64 0] 3)
  simp only [World.size_alloc] at t1
  simp only [wbox] at t0 t1
  obtain ⟨W1, hW1⟩ : ∃ W1, ((((w.alloc (.cells #[.int .i64 (m : Int), .slice A n c, .int .i64 g, .int .i64 l, .int .i64 pl, .int .i64 ph] 70)).alloc (.cells #[.int .i64 (to_ : Int)] 3)).alloc (.cells #[.int .i64 D] 3)).alloc (.cells #[.func (.func 88) #[] #[.pointer (some ⟨w.heap.size, 0, none⟩), .pointer (some ⟨w.heap.size + 1, 0, none⟩), .pointer (some ⟨w.heap.size + 1 + 1, 0, none⟩)]] 67)).alloc (.cells #[.int .i64 0] 3) = W1 := ⟨_, rfl⟩
  have hEt : Ext (((w.alloc (.cells #[.int .i64 (m : Int), .slice A n c, .int .i64 g, .int .i64 l, .int .i64 pl, .int .i64 ph] 70)).alloc (.cells #[.int .i64 (to_ : Int)] 3)).alloc (.cells #[.int .i64 D] 3)) W1 := by rw [← hW1]; (repeat' (first | with_reducible assumption | with_reducible exact Ext.refl _ | with_reducible refine Ext.alloc ?_ _ | with_reducible refine Ext.set ?_ ?_ _ | with_reducible refine Ext.drew ?_ | with_reducible refine Ext.drewN ?_ _ | with_reducible refine Ext.trans ?_ (by assumption) | (dsimp only; omega)))
  have hE0 : Ext w W1 := by rw [← hW1]; (repeat' (first | with_reducible assumption | with_reducible exact Ext.refl _ | with_reducible refine Ext.alloc ?_ _ | with_reducible refine Ext.set ?_ ?_ _ | with_reducible refine Ext.drew ?_ | with_reducible refine Ext.drewN ?_ _ | with_reducible refine Ext.trans ?_ (by assumption) | (dsimp only; omega)))
  have hs1 : W1.heap.size = w.heap.size + 5 := by rw [← hW1]; simp
  rw [hW1] at t1 ⊢
  have B0 := hid (blk_ext t0.1 hEt)
  have B1 := hid (blk_ext t0.2.1 hEt)
  have B2 := hid (blk_ext t0.2.2 hEt)
  have B3 := hid t1.1
  have B4 := hid t1.2.1
  clear t0 t1 hW1 hEt
  have HT := hid (rfl : leftGo (tooLate g l pl ph ps m to_ D fr start) (m - 1 - 0) 0 = leftGo (tooLate g l pl ph ps m to_ D fr start) (m - 1) 0)
  obtain ⟨left, hleft⟩ : ∃ z, leftGo (tooLate g l pl ph ps m to_ D fr start) (m - 1) 0 = z := ⟨_, rfl⟩
  have HLE := hid hleft
  have hleft_le : left ≤ m - 1 := by have := leftGo_le (tooLate g l pl ph ps m to_ D fr start) (m - 1) 0; omega
  refine wpIn_mono (Q := fun e a W => e = .exit 0 ∧ Ext w W ∧ w.heap.size + 5 ≤ W.heap.size ∧ Hid (W.heap[w.heap.size]? = some (.cells #[.int .i64 (m : Int), .slice A n c, .int .i64 g, .int .i64 l, .int .i64 pl, .int .i64 ph] 70 (0, 0))) ∧ Hid (W.heap[w.heap.size + 1]? = some (.cells #[.int .i64 (to_ : Int)] 3 (0, 0))) ∧ Hid (W.heap[w.heap.size + 2]? = some (.cells #[.int .i64 D] 3 (0, 0))) ∧
      Hid (W.heap[w.heap.size + 1 + 1 + 1]? = some (.cells #[.func (.func 88) #[] #[.pointer (some ⟨w.heap.size, 0, none⟩), .pointer (some ⟨w.heap.size + 1, 0, none⟩), .pointer (some ⟨w.heap.size + 1 + 1, 0, none⟩)]] 67 (0, 0))) ∧
      Hid (W.heap[w.heap.size + 1 + 1 + 1 + 1]? = some (.cells #[.int .i64 (left : Int)] 3 (0, 0))) ∧
      ∃ v20 v21 v22 v23 v24 v25 v26 v27 v28 v29 v30 v31 v32, a = { tmps := #[.agg #[.int .i64 (m : Int), .slice A n c, .int .i64 g, .int .i64 l, .int .i64 pl, .int .i64 ph], .int .i64 (fr : Int), .int .i64 start, .int .i64 (to_ : Int), .int .i64 D, .pointer (some ⟨w.heap.size, 0, none⟩), undef, undef, .pointer (some ⟨w.heap.size + 1, 0, none⟩), .pointer (some ⟨w.heap.size + 1 + 1, 0, none⟩), .slice none 0 0, .pointer (some ⟨w.heap.size + 1 + 1 + 1, 0, none⟩), .pointer (some ⟨w.heap.size + 1 + 1 + 1 + 1, 0, none⟩), undef, undef, undef, undef, undef, undef, .func (.func 88) #[] #[.pointer (some ⟨w.heap.size, 0, none⟩), .pointer (some ⟨w.heap.size + 1, 0, none⟩), .pointer (some ⟨w.heap.size + 1 + 1, 0, none⟩)], v20, v21, v22, v23, v24, v25, v26, v27, v28, v29, v30, v31, v32, undef, undef, undef, undef, undef, undef, undef, undef, undef, undef, undef, undef, undef, undef, undef, undef, undef, undef, undef, undef, undef, undef, undef, undef, undef, undef, undef, undef, undef, undef, undef, undef, undef, undef, undef, undef, undef, undef], defers := [] }) ?lp ?rest
  case rest =>
    clear B0 B1 B2 B3 B4 hE0 hs1 HT
    rintro e a W ⟨rfl, hE, hz, B0, B1, B2, B3, B4, v20, v21, v22, v23, v24, v25, v26, v27, v28, v29, v30, v31, v32, rfl⟩
    simp only [Exit.inBlock, if_true, Exit.then]
    rename_i K hK
    refine hK _ _ ?_
    clear hK K
    have hmk : ∀ W : World, (Instr.makeSlice 29 (.int .i64 0) (.int .i64 (left : Int))).run Try.prog W = .ok (.slice (some ⟨W.heap.size, 0, none⟩) 0 left) (W.alloc (.cells (madeCells #[.int .i64 0] left) 3)) := fun W =>
      run_make_room 29 3 (.int .i64 0) 8 Try.underlying29 info3 rfl .i64 .i64 left (by omega) (by omega) W
    have c9 := blk_cell B4.out 0
    simp only [List.getElem?_toArray, List.getElem?_cons_zero] at c9
    have s4 : w.heap.size + 1 + 1 + 1 + 1 < W.heap.size := by omega
    gi_wp2
    clear hmk c9 s4
    obtain ⟨W0, hW0⟩ : ∃ W0, ((((W.alloc (.cells (madeCells #[.int .i64 0] left) 3)).alloc (.cells #[.slice (some ⟨W.heap.size, 0, none⟩) 0 left] 29)).alloc (.cells #[.int .i64 (fr : Int)] 3)).alloc (.cells #[.int .i64 start] 3)) = W0 := ⟨_, rfl⟩
    have hrow0 : RowAt (W.alloc (.cells (madeCells #[.int .i64 0] left) 3)) W.heap.size left [] := ⟨by simp, rfl, .inr ⟨W.heap.size, left, _, rfl, Nat.zero_le _, heap_alloc_new W _, Nat.zero_le _, by unfold maxLen; omega, by simp [size_madeCells], by simp [ints]⟩⟩
    have y := three_blocks (W.alloc (.cells (madeCells #[.int .i64 0] left) 3)) (.cells #[.slice (some ⟨W.heap.size, 0, none⟩) 0 left] 29) (.cells #[.int .i64 (fr : Int)] 3) (.cells #[.int .i64 start] 3)
    have hx0 : Ext (W.alloc (.cells (madeCells #[.int .i64 0] left) 3)) W0 := by rw [← hW0]; (repeat' (first | with_reducible assumption | with_reducible exact Ext.refl _ | with_reducible refine Ext.alloc ?_ _ | with_reducible refine Ext.set ?_ ?_ _ | with_reducible refine Ext.drew ?_ | with_reducible refine Ext.drewN ?_ _ | with_reducible refine Ext.trans ?_ (by assumption) | (dsimp only; omega)))
    have hxW : Ext W W0 := by rw [← hW0]; (repeat' (first | with_reducible assumption | with_reducible exact Ext.refl _ | with_reducible refine Ext.alloc ?_ _ | with_reducible refine Ext.set ?_ ?_ _ | with_reducible refine Ext.drew ?_ | with_reducible refine Ext.drewN ?_ _ | with_reducible refine Ext.trans ?_ (by assumption) | (dsimp only; omega)))
    have hz0 : W0.heap.size = W.heap.size + 4 := by rw [← hW0]; simp
    rw [hW0] at y ⊢
    simp only [World.size_alloc] at y
    have hRT : RT w W.heap.size m g l pl ph A n c to_ D left left [] (fr : Int) start W0 :=
      ⟨hE.trans hxW, by omega, blk_ext B0.out hxW, blk_ext B1.out hxW, blk_ext B2.out hxW, blk_ext B3.out hxW, blk_ext B4.out hxW, y.1, y.2.1, y.2.2, hrow0.ext hx0⟩
    clear B0 B1 B2 B3 B4 y hrow0 hx0 hxW hz0 hW0
    have HG0 := hid (show ([] : List Int) ++ (routeGo g l pl ph ps m to_ D left fr start).map Int.ofNat = (routeOf g l pl ph ps m fr to_ start D).map Int.ofNat by unfold routeOf; rw [HLE.out]; rfl)
    refine wpIn_loop (fun a W3 => ∃ (k : Nat) (Ds : List Nat) (xs : List Int) (place : Nat) (minute : Int) (v37 v38 v39 v40 v41 v42 : Value), RT w W.heap.size m g l pl ph A n c to_ D left k xs (place : Int) minute W3 ∧ k ≤ left ∧ xs.length + k ≤ left ∧ place < m ∧ 0 ≤ minute ∧ minute ≤ 2881 ∧ Hid (xs ++ (routeGo g l pl ph ps m to_ D k place minute).map Int.ofNat = (routeOf g l pl ph ps m fr to_ start D).map Int.ofNat) ∧ Marks Ds (W.heap.size + 4) W3 ∧
        a = { tmps := #[.agg #[.int .i64 (m : Int), .slice A n c, .int .i64 g, .int .i64 l, .int .i64 pl, .int .i64 ph], .int .i64 (fr : Int), .int .i64 start, .int .i64 (to_ : Int), .int .i64 D, .pointer (some ⟨w.heap.size, 0, none⟩), undef, undef, .pointer (some ⟨w.heap.size + 1, 0, none⟩), .pointer (some ⟨w.heap.size + 1 + 1, 0, none⟩), .slice none 0 0, .pointer (some ⟨w.heap.size + 1 + 1 + 1, 0, none⟩), .pointer (some ⟨w.heap.size + 1 + 1 + 1 + 1, 0, none⟩), .pointer (some ⟨W.heap.size + 1, 0, none⟩), .pointer (some ⟨W.heap.size + 1 + 1, 0, none⟩), .pointer (some ⟨W.heap.size + 1 + 1 + 1, 0, none⟩), undef, undef, undef, .func (.func 88) #[] #[.pointer (some ⟨w.heap.size, 0, none⟩), .pointer (some ⟨w.heap.size + 1, 0, none⟩), .pointer (some ⟨w.heap.size + 1 + 1, 0, none⟩)], v20, v21, v22, v23, v24, v25, v26, v27, v28, v29, v30, v31, v32, .int .i64 (left : Int), .slice (some ⟨W.heap.size, 0, none⟩) 0 left, .int .i64 (fr : Int), .int .i64 start, v37, v38, v39, v40, v41, v42, undef, undef, undef, undef, undef, undef, undef, undef, undef, undef, undef, undef, undef, undef, undef, undef, undef, undef, undef, undef, undef, undef, undef, undef, undef, undef, undef, undef], defers := mks Ds })
      (fun _ W3 => (intOf (heldAt W3 ⟨w.heap.size + 1 + 1 + 1 + 1, 0, none⟩)).toNat) ⟨left, [], [], fr, start, undef, undef, undef, undef, undef, undef, hRT, Nat.le_refl _, by simp, hfr, h0, h1, HG0, ⟨List.nodup_nil, fun _ h => by cases h⟩, rfl⟩ ?round
    case round =>
    clear hRT HG0
    rintro a W3 ⟨k, Ds, xs, place, minute, v37, v38, v39, v40, v41, v42, R, hk, hxk, hpl, hmi0, hmi1, HG, HM, rfl⟩
    have c0 := blk_cell R.b0 0
    have c1 := blk_cell R.b0 1
    have c2 := blk_cell R.b0 2
    have c3 := blk_cell R.b0 3
    have c4 := blk_cell R.b0 4
    have c5 := blk_cell R.b0 5
    have c9 := blk_cell R.b4 0
    have c10 := blk_cell R.z1 0
    have f9 := blk_fro R.b4 0
    simp only [List.getElem?_toArray, List.getElem?_cons_zero, List.getElem?_cons_succ] at c0 c1 c2 c3 c4 c5 c9 c10
    have sz := R.size
    have s0 : w.heap.size < W3.heap.size := by omega
    have s4 : w.heap.size + 1 + 1 + 1 + 1 < W3.heap.size := by omega
    have s5 : W.heap.size + 1 < W3.heap.size := by omega
    rcases k with _ | k
    · gi_wp2
      have hx : xs = (routeOf g l pl ph ps m fr to_ start D).map Int.ofNat := by
        have h := HG.out
        simpa [routeGo] using h
      rw [← hx]
      refine leaves_marks (g := W.heap.size) (cap := left) (xs := xs) 6 (fun W' => ?_) (by omega) Ds (W.heap.size + 4) W3 (by omega) (by omega) HM R.row R.ext
      exact results_tmp (fn := Try.f57) (t := 10) rfl _ _ _
    · have hk0 : (0 : Int) < ((k + 1 : Nat) : Int) := by omega
      gi_wp2_with fail
      refine ⟨trivial, CallsIn.mono (callsIn_wide.2 (walkable_any m g l pl ph A n c _)) ?_⟩
      rintro e wx ⟨rfl, rfl⟩
      gi_wp2
      clear c0 c1 c2 c3 c4 c5 c9 c10 f9
      obtain ⟨W4, hW4⟩ : ∃ W4, W3.alloc (.cells (wbox m g l pl ph A n c) 70) = W4 := ⟨_, rfl⟩
      have y0 : W4.heap[W3.heap.size]? = some (.cells (wbox m g l pl ph A n c) 70 (0, 0)) := by rw [← hW4]; exact heap_alloc_new W3 _
      have e4 : Ext W3 W4 := by rw [← hW4]; exact ext_alloc1 _ _
      have z4 : W4.heap.size = W3.heap.size + 1 := by rw [← hW4]; simp
      rw [hW4]
      clear hW4
      have R4 := R.step (W' := W4) hz e4
      have HM4 := HM.ext e4
      have HDs : ∀ D' ∈ Ds, D' < W3.heap.size := fun D' hD => (Array.getElem?_eq_some_iff.1 (HM.2 D' hD).2).1
      have HM2 := hid R
      clear HM R
      have EWL := R4.ext
      refine wpIn_rangeFunc_ownH (F := Fence.wide) (n := 6) rfl (by omega) (gf := 91) (lb := #[.pointer (some ⟨W3.heap.size, 0, none⟩)]) rfl trivial (enters_of Try.func91 (by kernel_rfl) rfl)
        (walk_stops (6 - 1) (by omega) w b off m g l pl ph n c ps HNN.out (by have := HNO.out.len; have := HNN.out; omega) A HA.out HP.out W3.heap.size W4 EWL y0) kpB_t (kpB_b EWL.size (by omega)) (Below.refl _ _) (fun _ => rfl)
        (fun pre W' => RT w W.heap.size m g l pl ph A n c to_ D left (k + 1) xs (place : Int) minute W' ∧ Marks Ds (W.heap.size + 4) W' ∧ Hid (∀ y ∈ itIdx pre, fits_ g l pl ph ps m to_ D place minute k y = false) ∧ Hid (W'.heap[W3.heap.size]? = some (.cells (wbox m g l pl ph A n c) 70 (0, 0))) ∧ W4.heap.size ≤ W'.heap.size)
        (fun cc pre W' => cc = .exit 4 ∧ ∃ (init : List Nat) (i : Nat), itIdx pre = init ++ [i] ∧ i < ps.length ∧ Hid (∀ y ∈ init, fits_ g l pl ph ps m to_ D place minute k y = false) ∧ Hid (fits_ g l pl ph ps m to_ D place minute k i = true) ∧ RT w W.heap.size m g l pl ph A n c to_ D left (k + 1) (xs ++ [(i : Int)]) (ps.getD i zeroPt).dst (arrive selHi l pl ph (ps.getD i zeroPt) minute) W' ∧ Marks Ds (W.heap.size + 4) W')
        (fun s A B row hs hg hr => ⟨hs.1.own hz (by omega) hg hr, hs.2.1.own (.inr fun q hq => by have := HDs q hq; omega) hg hr, hs.2.2.1, hid (own_blk (by omega) hs.2.2.2.1.out hg hr), Nat.le_trans hs.2.2.2.2 hg.size⟩)
        (fun cc s A B row hs hg hr => by
          obtain ⟨h0, init, i, h1, h2, h3, h4, h5, h6⟩ := hs
          exact ⟨h0, init, i, h1, h2, h3, h4, h5.own hz (by omega) hg hr, h6.own (.inr fun q hq => by have := HDs q hq; omega) hg hr⟩)
        ⟨R4, HM4, hid (fun y hy => by cases hy), hid y0, Nat.le_refl _⟩
        (fun x a' W' => ∃ Bx, W4.heap.size ≤ Bx ∧ Hid (W'.heap[Bx]? = some (.cells (pcells (ps.getD x.1.1 zeroPt) x.1.2.1 x.1.2.2) 56 (0, 0))) ∧ a' = { tmps := #[.agg #[.int .i64 (m : Int), .slice A n c, .int .i64 g, .int .i64 l, .int .i64 pl, .int .i64 ph], .int .i64 (fr : Int), .int .i64 start, .int .i64 (to_ : Int), .int .i64 D, .pointer (some ⟨w.heap.size, 0, none⟩), undef, undef, .pointer (some ⟨w.heap.size + 1, 0, none⟩), .pointer (some ⟨w.heap.size + 1 + 1, 0, none⟩), .slice none 0 0, .pointer (some ⟨w.heap.size + 1 + 1 + 1, 0, none⟩), .pointer (some ⟨w.heap.size + 1 + 1 + 1 + 1, 0, none⟩), .pointer (some ⟨W.heap.size + 1, 0, none⟩), .pointer (some ⟨W.heap.size + 1 + 1, 0, none⟩), .pointer (some ⟨W.heap.size + 1 + 1 + 1, 0, none⟩), .int .i64 (x.1.1 : Int), .pointer (some ⟨Bx, 0, none⟩), undef, .func (.func 88) #[] #[.pointer (some ⟨w.heap.size, 0, none⟩), .pointer (some ⟨w.heap.size + 1, 0, none⟩), .pointer (some ⟨w.heap.size + 1 + 1, 0, none⟩)], v20, v21, v22, v23, v24, v25, v26, v27, v28, v29, v30, v31, v32, .int .i64 (left : Int), .slice (some ⟨W.heap.size, 0, none⟩) 0 left, .int .i64 (fr : Int), .int .i64 start, .int .i64 ((k : Int) + 1), .bool true, v39, v40, .agg #[.int .i64 (m : Int), .slice A n c, .int .i64 g, .int .i64 l, .int .i64 pl, .int .i64 ph], .func (.func 91) #[] #[.pointer (some ⟨W3.heap.size, 0, none⟩)], .int .i64 (x.1.1 : Int), (ps.getD x.1.1 zeroPt).val x.1.2.1 x.1.2.2, undef, undef, undef, undef, undef, undef, undef, undef, undef, undef, undef, undef, undef, undef, undef, undef, undef, undef, undef, undef, undef, undef, undef, undef, undef, undef], defers := [] })
        (fun x a' _ X Y row hs hg hr => by
          obtain ⟨Bx, h1, h2, h3⟩ := hs
          exact ⟨Bx, h1, hid ((hg.block Bx (Array.getElem?_eq_some_iff.1 h2.out).1 (fun e => by
            obtain ⟨_, o, ho, hc⟩ := hr Bx e.symm
            rw [h2.out] at ho
            injection ho with ho
            subst ho
            cases hc)).trans h2.out), h3⟩)
        ?assign ?body ?done ?stop
      case assign =>
        rintro lp pre x W' K ⟨R, M, hf, hb, hzz⟩ hK
        have HK := hid hK
        clear hK
        simp only [itEnc, Pt.val]
        gi_wp2
        exact HK.out _ _ (keepsFrom_ext _ (ext_alloc1 _ _)) ⟨(Below.refl _ W').alloc R.ext.size _, Below.heap_alloc W' _ _ (by have := (Array.getElem?_eq_some_iff.1 hb.out).1; omega)⟩
          ⟨R.step hz (ext_alloc1 _ _), M.ext (ext_alloc1 _ _), hf, hid (blk_ext hb.out (ext_alloc1 _ _)), by simp; omega⟩
          ⟨W'.heap.size, hzz, hid (heap_alloc_new W' _), rfl⟩
      case body =>
        rintro lp pre x a' W' hlt ⟨rec, hrec⟩ ⟨R, M, hf, hb, hzz⟩ ⟨Bx, hBx, PX, rfl⟩ hlen
        obtain ⟨⟨xi, xA, xc⟩, hx1, hx2, hx3⟩ := x
        dsimp only at hx1 hx2 hx3 PX ⊢
        have hop := hx3.opens
        have hok := HNO.out.ok xi hx1
        have hds := HNO.out.dst xi hx1
        have HIX := hid (show itIdx (pre ++ [(⟨(xi, xA, xc), hx1, hx2, hx3⟩ : It w b off ps g)]) = itIdx pre ++ [xi] by simp [itIdx])
        have HFT := hid (show fits_ g l pl ph ps m to_ D place minute k xi = (((ps.getD xi zeroPt).frm == (place : Int)) && !tooLate g l pl ph ps m to_ D (ps.getD xi zeroPt).dst.toNat (arrive selHi l pl ph (ps.getD xi zeroPt) minute) k) from rfl)
        have hbd := arrive_bd selHi_pos ha hok hmi0
        refine wpIn_mono (Q := fun e _ W2 => BEnd W' W.heap.size left xs (xi : Int) (ps.getD xi zeroPt).dst (arrive selHi l pl ph (ps.getD xi zeroPt) minute) (fits_ g l pl ph ps m to_ D place minute k xi) e W2) ?_ ?post
        case post =>
          rintro e a3 W2 (⟨e2, hfit⟩ | ⟨e1, hfit, hg3, hr3⟩)
          · exact ⟨keepsFrom_ext _ e2, ⟨Below.mono e2 R.ext.size, Below.block e2 _ (by omega)⟩, R.step hz e2, M.ext e2, hid (by
              rw [HIX.out]
              intro y hy
              rcases List.mem_append.1 hy with hy | hy
              · exact hf.out y hy
              · rw [List.mem_singleton.1 hy]
                exact hfit), hid (blk_ext hb.out e2), Nat.le_trans hzz e2.size⟩
          · obtain ⟨q1, q2, q3⟩ := (R.step hz e1).put hz hg3 (xi : Int) (ps.getD xi zeroPt).dst (arrive selHi l pl ph (ps.getD xi zeroPt) minute) hr3
            have e1s := e1.size
            exact ⟨⟨Nat.le_trans e1s q3, fun q o hq ho _ => by
                have hqs := (Array.getElem?_eq_some_iff.1 ho).1
                exact (q2 q (by omega) (by omega)).trans (blk_ext ho e1)⟩, rfl, itIdx pre, xi, HIX.out, hx1, hf, hid hfit, q1, M.step fun q o hq ho _ => by
                have hqs := (Array.getElem?_eq_some_iff.1 ho).1
                exact (q2 q hq (by omega)).trans (blk_ext ho e1)⟩
        clear HIX
        obtain ⟨p, hpp⟩ : ∃ p, ps.getD xi zeroPt = p := ⟨_, rfl⟩
        rw [hpp] at hop hok hds HFT hbd PX ⊢
        have HPP := hid hpp
        clear hpp
        obtain ⟨f, di, gg, tl, th, sl, sh, os⟩ := p
        dsimp only at hop hok hds HFT PX ⊢
        obtain ⟨d, rfl⟩ : ∃ d : Nat, di = d := ⟨di.toNat, by omega⟩
        rw [Int.toNat_natCast] at HFT
        obtain ⟨hd0, hd1⟩ := hds
        obtain ⟨t2, ht2⟩ : ∃ t, arrive selHi l pl ph ⟨f, d, gg, tl, th, sl, sh, os⟩ minute = t := ⟨_, rfl⟩
        rw [ht2] at HFT hbd
        have HT2 := hid ht2
        clear ht2
        have c0 := blk_cell R.b0 0
        have c1 := blk_cell R.b0 1
        have c2 := blk_cell R.b0 2
        have c3 := blk_cell R.b0 3
        have c4 := blk_cell R.b0 4
        have c5 := blk_cell R.b0 5
        have c8 := blk_cell R.b3 0
        have c9 := blk_cell R.b4 0
        have c10 := blk_cell R.z1 0
        have c11 := blk_cell R.z2 0
        have c12 := blk_cell R.z3 0
        have p0 := blk_cell PX.out 0
        have p1 := blk_cell PX.out 1
        have p2 := blk_cell PX.out 2
        have p3 := blk_cell PX.out 3
        have p4 := blk_cell PX.out 4
        have p5 := blk_cell PX.out 5
        have p6 := blk_cell PX.out 6
        have p7 := blk_cell PX.out 7
        simp only [pcells, List.getElem?_toArray, List.getElem?_cons_zero, List.getElem?_cons_succ] at c0 c1 c2 c3 c4 c5 c8 c9 c10 c11 c12 p0 p1 p2 p3 p4 p5 p6 p7
        have EW' := R.ext
        have sB := (Array.getElem?_eq_some_iff.1 PX.out).1
        simp only [Pt.val]
        gi_wp2_with fail
        refine ⟨trivial, CallsIn.mono (CallsIn.inRound lp (callsIn_wide.2 (arrival_sure ⟨f, d, gg, tl, th, sl, sh, os⟩ g l pl ph _ _ xA xc hok ha minute hmi0 hmi1 W' (hop.ext R.ext)))) ?_⟩
        rintro e w2 ⟨rfl, e2⟩
        rw [HT2.out]
        have R2 := R.step hz e2
        have PX2 := hid (blk_ext PX.out e2)
        clear c0 c1 c2 c3 c4 c5 c8 c9 c10 c11 c12 p0 p1 p2 p3 p4 p5 p6 p7 R PX sB
        have sB := (Array.getElem?_eq_some_iff.1 PX2.out).1
        have c0 := blk_cell R2.b0 0
        have c1 := blk_cell R2.b0 1
        have c2 := blk_cell R2.b0 2
        have c3 := blk_cell R2.b0 3
        have c4 := blk_cell R2.b0 4
        have c5 := blk_cell R2.b0 5
        have c8 := blk_cell R2.b3 0
        have c9 := blk_cell R2.b4 0
        have c10 := blk_cell R2.z1 0
        have c11 := blk_cell R2.z2 0
        have c12 := blk_cell R2.z3 0
        have p0 := blk_cell PX2.out 0
        have p1 := blk_cell PX2.out 1
        have p2 := blk_cell PX2.out 2
        have p3 := blk_cell PX2.out 3
        have p4 := blk_cell PX2.out 4
        have p5 := blk_cell PX2.out 5
        have p6 := blk_cell PX2.out 6
        have p7 := blk_cell PX2.out 7
        simp only [pcells, List.getElem?_toArray, List.getElem?_cons_zero, List.getElem?_cons_succ] at c0 c1 c2 c3 c4 c5 c8 c9 c10 c11 c12 p0 p1 p2 p3 p4 p5 p6 p7
        by_cases hfp : f = (place : Int)
        · subst hfp
          gi_wp2_with fail
          refine ⟨trivial, CallsIn.mono (CallsIn.inRound lp (callsIn_wide.2 (HL.out d (by omega) t2 hbd.1 hbd.2 k (by omega) w.heap.size (w.heap.size + 1) (w.heap.size + 1 + 1) w2 R2.ext R2.b0 R2.b1 R2.b2))) ?_⟩
          rintro e w3 ⟨he, e3⟩
          obtain ⟨bb, hbb⟩ : ∃ bb, tooLate g l pl ph ps m to_ D d t2 k = bb := ⟨_, rfl⟩
          obtain rfl : e = .returned (.bool bb) := he.trans (by rw [← hbb]; rfl)
          clear he
          rw [hbb] at HFT
          have R3 := R2.step hz e3
          have PX3 := hid (blk_ext PX2.out e3)
          have E3 := e2.trans e3
          clear c0 c1 c2 c3 c4 c5 c8 c9 c10 c11 c12 p0 p1 p2 p3 p4 p5 p6 p7 R2 PX2 sB hbb e2 e3
          have sB := (Array.getElem?_eq_some_iff.1 PX3.out).1
          have c0 := blk_cell R3.b0 0
          have c1 := blk_cell R3.b0 1
          have c2 := blk_cell R3.b0 2
          have c3 := blk_cell R3.b0 3
          have c4 := blk_cell R3.b0 4
          have c5 := blk_cell R3.b0 5
          have c8 := blk_cell R3.b3 0
          have c9 := blk_cell R3.b4 0
          have c10 := blk_cell R3.z1 0
          have c11 := blk_cell R3.z2 0
          have c12 := blk_cell R3.z3 0
          have p0 := blk_cell PX3.out 0
          have p1 := blk_cell PX3.out 1
          have p2 := blk_cell PX3.out 2
          have p3 := blk_cell PX3.out 3
          have p4 := blk_cell PX3.out 4
          have p5 := blk_cell PX3.out 5
          have p6 := blk_cell PX3.out 6
          have p7 := blk_cell PX3.out 7
          simp only [pcells, List.getElem?_toArray, List.getElem?_cons_zero, List.getElem?_cons_succ] at c0 c1 c2 c3 c4 c5 c8 c9 c10 c11 c12 p0 p1 p2 p3 p4 p5 p6 p7
          rcases bb with _ | _
          · obtain ⟨i0, hi, hz0, hz1, hz2⟩ := info_parts info3
            have hown := (R3.row.ext (ext_alloc1 w3 (.cells #[.int .i64 (xi : Int)] 3))).2
            have hnew := blk_cell (heap_alloc_new w3 (.cells #[.int .i64 (xi : Int)] 3)) 0
            have n1 : ¬ Bx = W.heap.size + 1 := by omega
            have n2 : ¬ Bx = W.heap.size + 1 + 1 := by omega
            have n3 : ¬ Bx = W.heap.size + 1 + 1 + 1 := by omega
            have HAP := hid (fun (W2 : World) hg => R3.appd (.cells #[.int .i64 (xi : Int)] 3) (W2 := W2) hg Bx _ _ PX3.out (by omega))
            have HI := hid hi
            have HZ1 := hid hz1
            have HOWN := hid hown
            have HNEW := hid (one_at hnew)
            clear c11 c12 p0 p1 p2 p3 p4 p5 p6 p7 hi hz0 hz1 hz2 hown hnew
            gi_wp2_with (gi_at_builtin; refine wpListIn_append_fits _ rfl _ _ 29 rfl 0 3 i0 1 Try.underlying29 HI.out HZ1.out W.heap.size xs.length left (ints xs) rfl HOWN.out ⟨w3.heap.size, 0, none⟩ 1 1 [.int .i64 (xi : Int)] rfl rfl HNEW.out (one_one _) (by omega) ?_; intro w5 hown5 hg5; obtain ⟨⟨q1, q1'⟩, ⟨q2, q2'⟩, ⟨q3, q3'⟩, q4⟩ := HAP.out w5 hg5; have q5 := q4 1; simp only [pcells, List.getElem?_toArray, List.getElem?_cons_zero, List.getElem?_cons_succ] at q5; clear q4)
            rw [HT2.out]
            have hlen5 : (xs ++ [(xi : Int)]).length = xs.length + 1 := by simp
            refine .yes (E3.alloc _) (by rw [HFT.out]; simp) hg5 ⟨?_, ?_⟩
            · have h1 := R3.row.lt
              have h2 := hg5.size
              simp at h2
              omega
            · rw [hlen5]
              have h5 := hown5
              simpa [ints] using h5
          · gi_wp2
            exact .no E3 (by rw [HFT.out]; simp)
        · have hfd : decide (f = (place : Int)) = false := decide_eq_false hfp
          have hfb : (f == (place : Int)) = false := beq_false_of_ne hfp
          gi_wp2
          refine ⟨fun f h => (by cases h), ?_⟩
          gi_wp2
          exact .no e2 (by rw [HFT.out, beq_false_of_ne hfp]; rfl)
      case done =>
        rintro D' its W' hD hS ⟨R, M, hf, hb, hzz⟩ hDk
        have c9 := blk_cell R.b4 0
        have f9 := blk_fro R.b4 0
        simp only [List.getElem?_toArray, List.getElem?_cons_zero] at c9
        have HG2 := hid (show xs ++ (routeGo g l pl ph ps m to_ D k place minute).map Int.ofNat = (routeOf g l pl ph ps m fr to_ start D).map Int.ofNat by
          have h := HG.out
          have hnone : (walkIdx ps g ps.length).find? (fits_ g l pl ph ps m to_ D place minute k) = none := by
            rw [HNN.out, ← hS]
            exact List.find?_eq_none.2 (fun y hy => by rw [hf.out y hy]; simp)
          rw [routeGo, hnone] at h
          exact h)
        have hDn : D' ∉ Ds := fun h => by have := HDs D' h; omega
        gi_wp2
        refine ⟨⟨k, D' :: Ds, xs, place, minute, _, _, _, _, _, _, R.dec hz, by omega, by omega, hpl, hmi0, hmi1, HG2, (M.cons hDn (by omega) hDk).setCell _ _ (by dsimp only; omega), rfl⟩, ?_⟩
        rw [HM2.out.held, (R.dec hz).held]
        simp [intOf]
      case stop =>
        rintro D' cc pre W' hD hS ⟨rfl, init, i, h1, h2, h3, h4, R, M⟩ hDk
        have c9 := blk_cell R.b4 0
        have f9 := blk_fro R.b4 0
        simp only [List.getElem?_toArray, List.getElem?_cons_zero] at c9
        have hds := HNO.out.dst i h2
        obtain ⟨d, hd⟩ : ∃ d : Nat, (ps.getD i zeroPt).dst = d := ⟨(ps.getD i zeroPt).dst.toNat, by omega⟩
        have hbd := arrive_bd selHi_pos ha (HNO.out.ok i h2) hmi0
        rw [hd] at R hds
        have HG2 := hid (show (xs ++ [(i : Int)]) ++ (routeGo g l pl ph ps m to_ D k d (arrive selHi l pl ph (ps.getD i zeroPt) minute)).map Int.ofNat = (routeOf g l pl ph ps m fr to_ start D).map Int.ofNat by
          have h := HG.out
          have hsome : (walkIdx ps g ps.length).find? (fits_ g l pl ph ps m to_ D place minute k) = some i := by
            rw [HNN.out]
            rw [h1] at hS
            exact find_prefix h3.out h4.out hS
          rw [routeGo, hsome] at h
          dsimp only at h
          rw [hd, Int.toNat_natCast] at h
          rw [← h]
          simp)
        have hDn : D' ∉ Ds := fun h => by have := HDs D' h; omega
        gi_wp2
        refine ⟨⟨k, D' :: Ds, xs ++ [(i : Int)], d, arrive selHi l pl ph (ps.getD i zeroPt) minute, _, _, _, _, _, _, R.dec hz, by omega, by simp; omega, by omega, hbd.1, hbd.2, HG2, (M.cons hDn (by omega) hDk).setCell _ _ (by dsimp only; omega), rfl⟩, ?_⟩
        rw [HM2.out.held, (R.dec hz).held]
        simp [intOf]
  case lp =>
    gi_loopw [] (fun wr => Ext w wr ∧ w.heap.size + 5 ≤ wr.heap.size ∧ Hid (wr.heap[w.heap.size]? = some (.cells #[.int .i64 (m : Int), .slice A n c, .int .i64 g, .int .i64 l, .int .i64 pl, .int .i64 ph] 70 (0, 0))) ∧ Hid (wr.heap[w.heap.size + 1]? = some (.cells #[.int .i64 (to_ : Int)] 3 (0, 0))) ∧ Hid (wr.heap[w.heap.size + 2]? = some (.cells #[.int .i64 D] 3 (0, 0))) ∧
        Hid (wr.heap[w.heap.size + 1 + 1 + 1]? = some (.cells #[.func (.func 88) #[] #[.pointer (some ⟨w.heap.size, 0, none⟩), .pointer (some ⟨w.heap.size + 1, 0, none⟩), .pointer (some ⟨w.heap.size + 1 + 1, 0, none⟩)]] 67 (0, 0))) ∧
        ∃ k : Nat, k ≤ m - 1 ∧ Hid (wr.heap[w.heap.size + 1 + 1 + 1 + 1]? = some (.cells #[.int .i64 (k : Int)] 3 (0, 0))) ∧ Hid (leftGo (tooLate g l pl ph ps m to_ D fr start) (m - 1 - k) k = leftGo (tooLate g l pl ph ps m to_ D fr start) (m - 1) 0))
      (fun wr => m - 1 - (intOf (heldAt wr ⟨w.heap.size + 1 + 1 + 1 + 1, 0, none⟩)).toNat)
    case atStart => exact ⟨hE0, by omega, B0, B1, B2, B3, 0, Nat.zero_le _, B4, HT⟩
    case round =>
      clear B0 B1 B2 B3 B4 hE0 hs1 HT
      obtain ⟨hE, hz, B0, B1, B2, B3, k, hk, B4, HT⟩ := hrel
      have c0 := blk_cell B0.out 0
      have c1 := blk_cell B0.out 1
      have c2 := blk_cell B0.out 2
      have c3 := blk_cell B0.out 3
      have c4 := blk_cell B0.out 4
      have c5 := blk_cell B0.out 5
      have c8 := blk_cell B3.out 0
      have c9 := blk_cell B4.out 0
      simp only [List.getElem?_toArray, List.getElem?_cons_zero, List.getElem?_cons_succ] at c0 c1 c2 c3 c4 c5 c8 c9
      have s0 : w.heap.size < wr.heap.size := by omega
      have s3 : w.heap.size + 1 + 1 + 1 < wr.heap.size := by omega
      have s4 : w.heap.size + 1 + 1 + 1 + 1 < wr.heap.size := by omega
      by_cases hlt : k < m - 1
      · have hlti : ((k : Int) < ((m - 1 : Nat) : Int)) := by omega
        gi_wp2
        refine wpIn_wide.2 ?_
        refine wp_region_noPanic ?_
        refine wp_region_held_drew (S := fun w' => (∀ b o, b < wr.heap.size → w'.cell? ⟨b, o, none⟩ = wr.cell? ⟨b, o, none⟩) ∧ wr.heap.size ≤ w'.heap.size ∧ Ext wr w') (by kernel_rfl) ?hS0 (fun hHeld => ?_)
        case hS0 => exact ⟨fun _ _ _ => rfl, Nat.le_refl _, Ext.drew (Ext.refl _)⟩
        refine wpAnyH_take (i := 0) (oi := _) (v := ?v0h) rfl (by kernel_rfl) (by kernel_rfl) (by kernel_rfl) (fun _ _ _ h => h) (Or.inl ⟨by rfl, ?y0h⟩) (by assumption) ?r0h
        case y0h => (intro w' hSw; (try dsimp only at hSw); go_simp; (try with_reducible rfl))
        try simp only [Act.put, List.getElem_toArray, List.getElem_cons_zero, List.getElem_cons_succ, List.setIfInBounds_toArray, List.set_cons_zero, List.set_cons_succ]
        refine wpAnyH_take (i := 1) (oi := _) (v := ?v1h) rfl (by kernel_rfl) (by kernel_rfl) (by kernel_rfl) (fun _ _ _ h => h) (Or.inl ⟨by rfl, ?y1h⟩) (by assumption) ?r1h
        case y1h => (intro w' hSw; (try dsimp only at hSw); go_simp; (try with_reducible rfl))
        try simp only [Act.put, List.getElem_toArray, List.getElem_cons_zero, List.getElem_cons_succ, List.setIfInBounds_toArray, List.set_cons_zero, List.set_cons_succ]
        refine wpAnyH_ready (rs := [2]) (by kernel_rfl) (by simp) ?_
        refine AllReadyH.cons (o := _) rfl (fun K hK => ?_) AllReadyH.nil
        go_simp
        refine (longest_any _ _ _ _ _ _ (by omega) (by omega) _).mono ?_
        rintro e w2 ⟨rfl, hE2⟩
        dsimp only
        rw [HLO.out]
        have hx : Ext wr w2 := (Ext.drew (Ext.refl wr)).trans hE2
        clear hHeld
        refine hK.out _ _ ⟨kcell (w1 := wr.drew) (W := wr) (fun _ _ _ => rfl) (Nat.le_refl _) hE2, hx.size, hx⟩ (fun hHeld => ?_)
        clear hK K
        try simp only [Act.put, List.getElem_toArray, List.getElem_cons_zero, List.getElem_cons_succ, List.setIfInBounds_toArray, List.set_cons_zero, List.set_cons_succ]
        refine wpAnyH_take (i := 3) (oi := _) (v := ?v3h) rfl (by kernel_rfl) (by kernel_rfl) (by kernel_rfl) (fun _ _ _ h => h) (Or.inl ⟨by rfl, ?y3h⟩) (by assumption) ?r3h
        case y3h => (intro w' hSw; (try dsimp only at hSw); go_simp; (try with_reducible rfl))
        try simp only [Act.put, List.getElem_toArray, List.getElem_cons_zero, List.getElem_cons_succ, List.setIfInBounds_toArray, List.set_cons_zero, List.set_cons_succ]
        refine wpAnyH_take (i := 4) (oi := _) (v := ?v4h) rfl (by kernel_rfl) (by kernel_rfl) (by kernel_rfl) (fun _ _ _ h => h) (Or.inl ⟨by rfl, ?y4h⟩) (by assumption) ?r4h
        case y4h => (intro w' hSw; (try dsimp only at hSw); go_simp; (try with_reducible rfl))
        try simp only [Act.put, List.getElem_toArray, List.getElem_cons_zero, List.getElem_cons_succ, List.setIfInBounds_toArray, List.set_cons_zero, List.set_cons_succ]
        refine wpAnyH_take (i := 5) (oi := _) (v := ?v5h) rfl (by kernel_rfl) (by kernel_rfl) (by kernel_rfl) (fun _ _ _ h => h) (Or.inl ⟨by rfl, ?y5h⟩) (by assumption) ?r5h
        case y5h => (intro w' hSw; (try dsimp only at hSw); go_simp; (try with_reducible rfl))
        try simp only [Act.put, List.getElem_toArray, List.getElem_cons_zero, List.getElem_cons_succ, List.setIfInBounds_toArray, List.set_cons_zero, List.set_cons_succ]
        refine wpAnyH_take (i := 6) (oi := _) (v := ?v6h) rfl (by kernel_rfl) (by kernel_rfl) (by kernel_rfl) (fun _ _ _ h => h) (Or.inl ⟨by rfl, ?y6h⟩) (by assumption) ?r6h
        case y6h => (intro w' hSw; (try dsimp only at hSw); go_simp; (try with_reducible rfl))
        try simp only [Act.put, List.getElem_toArray, List.getElem_cons_zero, List.getElem_cons_succ, List.setIfInBounds_toArray, List.set_cons_zero, List.set_cons_succ]
        refine wpAnyH_take (i := 7) (oi := _) (v := ?v7h) rfl (by kernel_rfl) (by kernel_rfl) (by kernel_rfl) (fun _ _ _ h => h) (Or.inl ⟨by rfl, ?y7h⟩) (by assumption) ?r7h
        case y7h => (intro w' hSw; (try dsimp only at hSw); go_simp; (try with_reducible rfl))
        try simp only [Act.put, List.getElem_toArray, List.getElem_cons_zero, List.getElem_cons_succ, List.setIfInBounds_toArray, List.set_cons_zero, List.set_cons_succ]
        refine wpAnyH_take (i := 8) (oi := _) (v := ?v8h) rfl (by kernel_rfl) (by kernel_rfl) (by kernel_rfl) (fun _ _ _ h => h) (Or.inl ⟨by rfl, ?y8h⟩) (by assumption) ?r8h
        case y8h => (intro w' hSw; (try dsimp only at hSw); go_simp; (try with_reducible rfl))
        try simp only [Act.put, List.getElem_toArray, List.getElem_cons_zero, List.getElem_cons_succ, List.setIfInBounds_toArray, List.set_cons_zero, List.set_cons_succ]
        refine wpAnyH_ready (rs := [9]) (by kernel_rfl) (by simp) ?_
        refine AllReadyH.cons (o := _) rfl (fun K hK => ?_) AllReadyH.nil
        go_simp
        refine (HL.out fr hfr start h0 h1 k (by omega) w.heap.size (w.heap.size + 1) (w.heap.size + 1 + 1) w2 (hE.trans hx) (blk_ext B0.out hx) (blk_ext B1.out hx) (blk_ext B2.out hx)).mono ?_
        rintro e w3 ⟨he, hE3⟩
        obtain ⟨bb, hbb⟩ : ∃ bb, tooLate g l pl ph ps m to_ D fr start k = bb := ⟨_, rfl⟩
        obtain rfl : e = .returned (.bool bb) := he.trans (by rw [← hbb]; rfl)
        clear he
        dsimp only
        have hx3 : Ext wr w3 := hx.trans hE3
        clear hHeld
        refine hK.out _ _ ⟨kcell (w1 := w2) (W := wr) (kcell (w1 := wr.drew) (W := wr) (fun _ _ _ => rfl) (Nat.le_refl _) hE2) hx.size hE3, hx3.size, hx3⟩ (fun hHeld => ?_)
        clear hK K
        try simp only [Act.put, List.getElem_toArray, List.getElem_cons_zero, List.getElem_cons_succ, List.setIfInBounds_toArray, List.set_cons_zero, List.set_cons_succ]
        refine wpAnyH_take (i := 10) (oi := _) (v := ?v10h) rfl (by kernel_rfl) (by kernel_rfl) (by kernel_rfl) (fun _ _ _ h => h) (Or.inl ⟨by rfl, ?y10h⟩) (by assumption) ?r10h
        case y10h => (intro w' hSw; (try dsimp only at hSw); go_simp; (try with_reducible rfl))
        try simp only [Act.put, List.getElem_toArray, List.getElem_cons_zero, List.getElem_cons_succ, List.setIfInBounds_toArray, List.set_cons_zero, List.set_cons_succ]
        refine wpAnyH_done (by kernel_rfl) ?_ _
        refine NoPanic.normal ?_
        have hE4 : Ext w w3 := hE.trans hx3
        have hz3 : w.heap.size + 5 ≤ w3.heap.size := Nat.le_trans hz hx3.size
        have C0 := hid (blk_ext B0.out hx3)
        have C1 := hid (blk_ext B1.out hx3)
        have C2 := hid (blk_ext B2.out hx3)
        have C3 := hid (blk_ext B3.out hx3)
        have C4 := hid (blk_ext B4.out hx3)
        have d9 := blk_cell C4.out 0
        have f9 := blk_fro C4.out 0
        have h9 := hid (held_of c9)
        simp only [List.getElem?_toArray, List.getElem?_cons_zero] at d9
        have HM := hid (show heldAt wr ⟨w.heap.size + 1 + 1 + 1 + 1, 0, none⟩ = .int .i64 (k : Int) by unfold heldAt; rw [c9]; rfl)
        have hk0 : (k : Int) ≤ 20 := by omega
        clear hHeld hE hx hx3 hE2 hE3 c0 c1 c2 c3 c4 c5 c8 c9 B0 B1 B2 B3 B4 h9 hz s0 s3 s4
        have hm1k : m - 1 - k = (m - 1 - (k + 1)) + 1 := by omega
        have HT2 := HT.out
        rw [hm1k, leftGo] at HT2
        clear hm1k HT
        rw [hbb] at HT2
        rcases bb with _ | _
        · have hkl : k = left := HT2.trans HLE.out
          subst hkl
          clear HT2 hbb
          gi_wp2
          exact ⟨trivial, hE4, hz3, C0, C1, C2, C3, C4, _, _, _, _, _, _, _, _, _, _, _, _, _, rfl⟩
        · have HT3 := hid HT2
          clear HT2 hbb
          gi_wp2
          have h4 : ∀ q, q ≠ w.heap.size + 1 + 1 + 1 + 1 → (w3.setCell ⟨w.heap.size + 1 + 1 + 1 + 1, 0, none⟩ (.int .i64 ((k : Int) + 1))).heap[q]? = w3.heap[q]? := fun q hq => Below.heap_setCell w3 _ _ q hq
          have hB4 := hid (show (w3.setCell ⟨w.heap.size + 1 + 1 + 1 + 1, 0, none⟩ (.int .i64 ((k : Int) + 1))).heap[w.heap.size + 1 + 1 + 1 + 1]? = some (.cells #[.int .i64 ((k + 1 : Nat) : Int)] 3 (0, 0)) by rw [show ((k + 1 : Nat) : Int) = (k : Int) + 1 from rfl]; exact heap_setCell_same _ _ _ _ _ _ C4.out)
          refine ⟨⟨hE4.set (by dsimp only; omega) _, by simp; omega, hid ((h4 _ (by omega)).trans C0.out), hid ((h4 _ (by omega)).trans C1.out), hid ((h4 _ (by omega)).trans C2.out), hid ((h4 _ (by omega)).trans C3.out), k + 1, by omega, hB4, HT3⟩, ?_⟩
          have hv := blk_cell hB4.out 0
          simp only [List.getElem?_toArray, List.getElem?_cons_zero] at hv
          have hh := held_of hv
          rw [hv] at hh
          injection hh with hh
          rw [← hh, HM.out]
          simp [intOf]
          omega
      · have hlti : ¬ ((k : Int) < ((m - 1 : Nat) : Int)) := by omega
        gi_wp2
        refine wpIn_wide.2 ?_
        refine wp_region_noPanic ?_
        refine wp_region_held_drew (S := fun w' => (∀ b o, b < wr.heap.size → w'.cell? ⟨b, o, none⟩ = wr.cell? ⟨b, o, none⟩) ∧ wr.heap.size ≤ w'.heap.size ∧ Ext wr w') (by kernel_rfl) ?hS0 (fun hHeld => ?_)
        case hS0 => exact ⟨fun _ _ _ => rfl, Nat.le_refl _, Ext.drew (Ext.refl _)⟩
        refine wpAnyH_take (i := 0) (oi := _) (v := ?v0g) rfl (by kernel_rfl) (by kernel_rfl) (by kernel_rfl) (fun _ _ _ h => h) (Or.inl ⟨by rfl, ?y0g⟩) (by assumption) ?r0g
        case y0g => (intro w' hSw; (try dsimp only at hSw); go_simp; (try with_reducible rfl))
        try simp only [Act.put, List.getElem_toArray, List.getElem_cons_zero, List.getElem_cons_succ, List.setIfInBounds_toArray, List.set_cons_zero, List.set_cons_succ]
        refine wpAnyH_take (i := 1) (oi := _) (v := ?v1g) rfl (by kernel_rfl) (by kernel_rfl) (by kernel_rfl) (fun _ _ _ h => h) (Or.inl ⟨by rfl, ?y1g⟩) (by assumption) ?r1g
        case y1g => (intro w' hSw; (try dsimp only at hSw); go_simp; (try with_reducible rfl))
        try simp only [Act.put, List.getElem_toArray, List.getElem_cons_zero, List.getElem_cons_succ, List.setIfInBounds_toArray, List.set_cons_zero, List.set_cons_succ]
        refine wpAnyH_ready (rs := [2]) (by kernel_rfl) (by simp) ?_
        refine AllReadyH.cons (o := _) rfl (fun K hK => ?_) AllReadyH.nil
        go_simp
        refine (longest_any _ _ _ _ _ _ (by omega) (by omega) _).mono ?_
        rintro e w2 ⟨rfl, hE2⟩
        dsimp only
        rw [HLO.out]
        have hx : Ext wr w2 := (Ext.drew (Ext.refl wr)).trans hE2
        clear hHeld
        refine hK.out _ _ ⟨kcell (w1 := wr.drew) (W := wr) (fun _ _ _ => rfl) (Nat.le_refl _) hE2, hx.size, hx⟩ (fun hHeld => ?_)
        clear hK K
        try simp only [Act.put, List.getElem_toArray, List.getElem_cons_zero, List.getElem_cons_succ, List.setIfInBounds_toArray, List.set_cons_zero, List.set_cons_succ]
        refine wpAnyH_take (i := 3) (oi := _) (v := ?v3g) rfl (by kernel_rfl) (by kernel_rfl) (by kernel_rfl) (fun _ _ _ h => h) (Or.inl ⟨by rfl, ?y3g⟩) (by assumption) ?r3g
        case y3g => (intro w' hSw; (try dsimp only at hSw); go_simp; (try with_reducible rfl))
        try simp only [Act.put, List.getElem_toArray, List.getElem_cons_zero, List.getElem_cons_succ, List.setIfInBounds_toArray, List.set_cons_zero, List.set_cons_succ]
        refine wpAnyH_take (i := 4) (oi := _) (v := ?v4g) rfl (by kernel_rfl) (by kernel_rfl) (by kernel_rfl) (fun _ _ _ h => h) (Or.inl ⟨by rfl, ?y4g⟩) (by assumption) ?r4g
        case y4g => (intro w' hSw; (try dsimp only at hSw); go_simp; (try with_reducible rfl))
        try simp only [Act.put, List.getElem_toArray, List.getElem_cons_zero, List.getElem_cons_succ, List.setIfInBounds_toArray, List.set_cons_zero, List.set_cons_succ]
        refine wpAnyH_take (i := 5) (oi := _) (v := undef) rfl (by kernel_rfl) (by kernel_rfl) (by kernel_rfl) (fun _ _ _ h => h) (Or.inr ⟨by rfl, rfl⟩) (by assumption) ?r5g
        try simp only [Act.put, List.getElem_toArray, List.getElem_cons_zero, List.getElem_cons_succ, List.setIfInBounds_toArray, List.set_cons_zero, List.set_cons_succ]
        refine wpAnyH_take (i := 6) (oi := _) (v := undef) rfl (by kernel_rfl) (by kernel_rfl) (by kernel_rfl) (fun _ _ _ h => h) (Or.inr ⟨by rfl, rfl⟩) (by assumption) ?r6g
        try simp only [Act.put, List.getElem_toArray, List.getElem_cons_zero, List.getElem_cons_succ, List.setIfInBounds_toArray, List.set_cons_zero, List.set_cons_succ]
        refine wpAnyH_take (i := 7) (oi := _) (v := undef) rfl (by kernel_rfl) (by kernel_rfl) (by kernel_rfl) (fun _ _ _ h => h) (Or.inr ⟨by rfl, rfl⟩) (by assumption) ?r7g
        try simp only [Act.put, List.getElem_toArray, List.getElem_cons_zero, List.getElem_cons_succ, List.setIfInBounds_toArray, List.set_cons_zero, List.set_cons_succ]
        refine wpAnyH_take (i := 8) (oi := _) (v := undef) rfl (by kernel_rfl) (by kernel_rfl) (by kernel_rfl) (fun _ _ _ h => h) (Or.inr ⟨by rfl, rfl⟩) (by assumption) ?r8g
        try simp only [Act.put, List.getElem_toArray, List.getElem_cons_zero, List.getElem_cons_succ, List.setIfInBounds_toArray, List.set_cons_zero, List.set_cons_succ]
        refine wpAnyH_take (i := 9) (oi := _) (v := undef) rfl (by kernel_rfl) (by kernel_rfl) (by kernel_rfl) (fun _ _ _ h => h) (Or.inr ⟨by rfl, rfl⟩) (by assumption) ?r9g
        try simp only [Act.put, List.getElem_toArray, List.getElem_cons_zero, List.getElem_cons_succ, List.setIfInBounds_toArray, List.set_cons_zero, List.set_cons_succ]
        refine wpAnyH_take (i := 10) (oi := _) (v := ?v10g) rfl (by kernel_rfl) (by kernel_rfl) (by kernel_rfl) (fun _ _ _ h => h) (Or.inl ⟨by rfl, ?y10g⟩) (by assumption) ?r10g
        case y10g => (intro w' hSw; (try dsimp only at hSw); go_simp; (try with_reducible rfl))
        try simp only [Act.put, List.getElem_toArray, List.getElem_cons_zero, List.getElem_cons_succ, List.setIfInBounds_toArray, List.set_cons_zero, List.set_cons_succ]
        refine wpAnyH_done (by kernel_rfl) ?_ _
        refine NoPanic.normal ?_
        have hE4 : Ext w w2 := hE.trans hx
        have hz3 : w.heap.size + 5 ≤ w2.heap.size := Nat.le_trans hz hx.size
        have C0 := hid (blk_ext B0.out hx)
        have C1 := hid (blk_ext B1.out hx)
        have C2 := hid (blk_ext B2.out hx)
        have C3 := hid (blk_ext B3.out hx)
        have C4 := hid (blk_ext B4.out hx)
        have hkm : m - 1 - k = 0 := by omega
        have HT2 := HT.out
        rw [hkm, leftGo] at HT2
        have hkl : k = left := HT2.trans HLE.out
        subst hkl
        clear hHeld hE hx hE2 c0 c1 c2 c3 c4 c5 c8 c9 B0 B1 B2 B3 B4 hz s0 s3 s4 HT HT2 hkm
        gi_wp2
        exact ⟨trivial, hE4, hz3, C0, C1, C2, C3, C4, _, _, _, _, _, _, _, _, _, _, _, _, _, rfl⟩

end Go.Proofs.Ytndoghcglbpllaa
