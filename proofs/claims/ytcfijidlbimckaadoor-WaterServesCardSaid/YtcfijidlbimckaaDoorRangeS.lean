/- A range over one of the two iterators, by what it yields. -/
import Derived.Test.YtcfijidlbimckaaDoorIter
set_option linter.unusedSimpArgs false
set_option linter.unusedVariables false
namespace Go.Proofs.YtcfijidlbimckaaDoor
open Go.RowKit

/-- A mark at which a walk stands still. -/
def Halt (p : Prop) : Prop := p
theorem Halt.mk {p : Prop} (h : Halt p) : p := h
/-- Block B holds just these cells. -/
def Blk (W : World) (B : Nat) (t : TypeId) (cs : Array Value) : Prop := W.heap[B]? = some (.cells cs t (0, 0))
theorem Blk.lt {W : World} {B : Nat} {t : TypeId} {cs : Array Value} (h : Blk W B t cs) : B < W.heap.size := (Array.getElem?_eq_some_iff.1 h).1
theorem Blk.cell {W : World} {B : Nat} {t : TypeId} {cs : Array Value} (h : Blk W B t cs) (i : Nat) : W.cell? ⟨B, i, none⟩ = cs[i]? := blk_cell h i
theorem Blk.fro {W : World} {B : Nat} {t : TypeId} {cs : Array Value} (h : Blk W B t cs) (i : Nat) : W.frozen? ⟨B, i, none⟩ = false := by
  have h' : W.heap[B]? = some (.cells cs t (0, 0)) := h
  simp [World.frozen?, h']
theorem Blk.ext {W W' : World} {B : Nat} {t : TypeId} {cs : Array Value} (h : Blk W B t cs) (e : Ext W W') : Blk W' B t cs := blk_ext h e
theorem Blk.alloc {W : World} {B : Nat} {t : TypeId} {cs : Array Value} (h : Blk W B t cs) (o : Obj) : Blk (W.alloc o) B t cs := blk_ext h (ext_alloc1 W o)
theorem Blk.new (W : World) (t : TypeId) (cs : Array Value) : Blk (W.alloc (.cells cs t)) W.heap.size t cs := World.alloc_heap_new W _
theorem Blk.other {W : World} {B : Nat} {t : TypeId} {cs : Array Value} (h : Blk W B t cs) {p : Addr} (hne : B ≠ p.block) (u : Value) : Blk (W.setCell p u) B t cs := (Below.heap_setCell W p u B hne).trans h
theorem Blk.set {W : World} {B : Nat} {t : TypeId} {v : Value} (h : Blk W B t #[v]) (u : Value) : Blk (W.setCell ⟨B, 0, none⟩ u) B t #[u] := Boxed.set u h
theorem Blk.setAt {W : World} {B : Nat} {t : TypeId} {cs : Array Value} (h : Blk W B t cs) (i : Nat) (u : Value) : Blk (W.setCell ⟨B, i, none⟩ u) B t (cs.setIfInBounds i u) := by
  have h' : W.heap[B]? = some (.cells cs t (0, 0)) := h
  unfold Blk World.setCell
  dsimp only
  rw [Array.getElem?_modify, if_pos rfl, h']
  simp
theorem Blk.putObj {W : World} {B D : Nat} {t : TypeId} {cs : Array Value} (h : Blk W B t cs) (hne : B ≠ D) (o : Obj) : Blk (W.putObj D o) B t cs := (World.putObj_heap_other hne).trans h
theorem blk_last (w : World) (o : Obj) : (w.alloc o).heap[w.heap.size]? = some o := World.alloc_heap_new w o
theorem blk_old {w : World} {k : Nat} {o : Obj} (h : w.heap[k]? = some o) (o' : Obj) : (w.alloc o').heap[k]? = some o := blk_ext h (ext_alloc1 w o')
theorem blks2 (w : World) (o1 o2 : Obj) : ((w.alloc o1).alloc o2).heap[w.heap.size]? = some o1 ∧ ((w.alloc o1).alloc o2).heap[w.heap.size + 1]? = some o2 :=
  ⟨blk_old (blk_last w o1) o2, by have := blk_last (w.alloc o1) o2; rwa [World.size_alloc] at this⟩
theorem blks3 (w : World) (o1 o2 o3 : Obj) : (((w.alloc o1).alloc o2).alloc o3).heap[w.heap.size]? = some o1 ∧ (((w.alloc o1).alloc o2).alloc o3).heap[w.heap.size + 1]? = some o2 ∧ (((w.alloc o1).alloc o2).alloc o3).heap[w.heap.size + 1 + 1]? = some o3 :=
  ⟨blk_old (blks2 w o1 o2).1 o3, blk_old (blks2 w o1 o2).2 o3, by have := blk_last ((w.alloc o1).alloc o2) o3; rwa [World.size_alloc, World.size_alloc] at this⟩
theorem blks4 (w : World) (o1 o2 o3 o4 : Obj) : ((((w.alloc o1).alloc o2).alloc o3).alloc o4).heap[w.heap.size]? = some o1 ∧ ((((w.alloc o1).alloc o2).alloc o3).alloc o4).heap[w.heap.size + 1]? = some o2 ∧ ((((w.alloc o1).alloc o2).alloc o3).alloc o4).heap[w.heap.size + 1 + 1]? = some o3 ∧ ((((w.alloc o1).alloc o2).alloc o3).alloc o4).heap[w.heap.size + 1 + 1 + 1]? = some o4 :=
  ⟨blk_old (blks3 w o1 o2 o3).1 o4, blk_old (blks3 w o1 o2 o3).2.1 o4, blk_old (blks3 w o1 o2 o3).2.2 o4, by have := blk_last (((w.alloc o1).alloc o2).alloc o3) o4; rwa [World.size_alloc, World.size_alloc, World.size_alloc] at this⟩
theorem blks5 (w : World) (o1 o2 o3 o4 o5 : Obj) : (((((w.alloc o1).alloc o2).alloc o3).alloc o4).alloc o5).heap[w.heap.size]? = some o1 ∧ (((((w.alloc o1).alloc o2).alloc o3).alloc o4).alloc o5).heap[w.heap.size + 1]? = some o2 ∧ (((((w.alloc o1).alloc o2).alloc o3).alloc o4).alloc o5).heap[w.heap.size + 1 + 1]? = some o3 ∧ (((((w.alloc o1).alloc o2).alloc o3).alloc o4).alloc o5).heap[w.heap.size + 1 + 1 + 1]? = some o4 ∧ (((((w.alloc o1).alloc o2).alloc o3).alloc o4).alloc o5).heap[w.heap.size + 1 + 1 + 1 + 1]? = some o5 :=
  ⟨blk_old (blks4 w o1 o2 o3 o4).1 o5, blk_old (blks4 w o1 o2 o3 o4).2.1 o5, blk_old (blks4 w o1 o2 o3 o4).2.2.1 o5, blk_old (blks4 w o1 o2 o3 o4).2.2.2 o5, by have := blk_last ((((w.alloc o1).alloc o2).alloc o3).alloc o4) o5; rwa [World.size_alloc, World.size_alloc, World.size_alloc, World.size_alloc] at this⟩
/-- Bookkeeping of a loop that began at block B leaves it. -/
def Stays {β : Type} (B : Nat) (I : β → World → Prop) : Prop :=
  ∀ s W W' row, I s W → W.grownBy W' row → (∀ r, row = some r → B ≤ r ∧ ∃ o : Obj, W.heap[r]? = some o ∧ o.isCells = false) → I s W'
theorem Stays.putObj {β : Type} {B : Nat} {I : β → World → Prop} (h : Stays B I) {s : β} {W : World} {l : Nat} {o : Obj} (o' : Obj) (hs : I s W) (hB : B ≤ l) (hl : W.heap[l]? = some o) (ho : o.isCells = false) : I s (W.putObj l o') :=
  h s W _ (some l) hs (grownBy_putObj' W l o') (fun r e => by injection e with e; subst e; exact ⟨hB, o, hl, ho⟩)
theorem Stays.alloc {β : Type} {B : Nat} {I : β → World → Prop} (h : Stays B I) {s : β} {W : World} (o : Obj) (hs : I s W) : I s (W.alloc o) :=
  h s W _ none hs (World.grownBy_alloc W o none) (fun r e => by cases e)
theorem own_cells {B k : Nat} {c : Array Value} {t : TypeId} {f : Nat × Nat} {W W' : World} {row : Option Nat} (h : W.heap[k]? = some (.cells c t f)) (hg : W.grownBy W' row) (hr : ∀ r, row = some r → B ≤ r ∧ ∃ o : Obj, W.heap[r]? = some o ∧ o.isCells = false) : W'.heap[k]? = some (.cells c t f) :=
  (hg.block k (Array.getElem?_eq_some_iff.1 h).1 (fun e => by
    obtain ⟨_, o, ho, hc⟩ := hr k e.symm
    rw [h] at ho
    injection ho with ho
    subst ho
    cases hc)).trans h
theorem Blk.own {B k : Nat} {c : Array Value} {t : TypeId} {W W' : World} {row : Option Nat} (h : Blk W k t c) (hg : W.grownBy W' row) (hr : ∀ r, row = some r → B ≤ r ∧ ∃ o : Obj, W.heap[r]? = some o ∧ o.isCells = false) : Blk W' k t c := own_cells h hg hr
theorem Blk.grown {k : Nat} {c : Array Value} {t : TypeId} {W W' : World} {row : Option Nat} (h : Blk W k t c) (hg : W.grownBy W' row) (hne : some k ≠ row) : Blk W' k t c := (hg.block k h.lt hne).trans h
theorem own_ext {B : Nat} {w W W' : World} {row : Option Nat} (hB : w.heap.size ≤ B) (h : Ext w W) (hg : W.grownBy W' row) (hr : ∀ r, row = some r → B ≤ r ∧ ∃ o : Obj, W.heap[r]? = some o ∧ o.isCells = false) : Ext w W' :=
  Below.grown h hg h.size (fun k e => by have := (hr k e).1; omega)
theorem ext_putObj {w W : World} (h : Ext w W) {D : Nat} (hD : w.heap.size ≤ D) {o : Obj} : Ext w (W.putObj D o) :=
  Below.grown h (grownBy_putObj' W D o) h.size (fun k e => by injection e with e; omega)
theorem keepsFrom_ext {W W' : World} (B : Nat) (e : Ext W W') : KeepsFrom B W W' := ⟨e.size, fun k o _ ho _ => blk_ext ho e⟩
theorem keepsFrom_set (B : Nat) (W : World) (p : Addr) (u : Value) : KeepsFrom B W (W.setCell p u) := (KeepsOthers.setCell W p u).from B

section
variable {α : Type} {g : Operand} {p : Tmp} {assign body : Code} {Q : Exit → Act → World → Prop} {a : Act} {w : World}
/-- The loop, by an invariant that each round carries on. -/
theorem range_gives {n gf s : Nat} {enc : α → Value} {xs : List α} (h1 : 1 ≤ n) (hg : a.eval g = .func (.func gf) #[.int .u64 s] #[]) (eg : ∀ args w, (callFunc gf args).run Tryd.prog w = .ok (.enter gf args) w)
    (hseq : Gives (n - 1) gf s enc xs) (I : List α → World → Prop) (hI : Stays w.heap.size I) (hT : ∀ pre W, I pre W → TabW W) (h0 : I [] w) (a₁ : α → Act)
    (hassign : ∀ (l : Nat) (x : α) (W : World) (K : Act → World → Prop), K (a₁ x) W → assign.wpIn (Fence.wide.inRound l) (n - 1 - 1) Tryd.prog (Exit.then K (fun _ _ _ => False)) { tmps := (#[p].zip #[enc x]).foldl (fun t (p, v) => t.setIfInBounds p v) a.tmps, defers := [] } W)
    (hbody : ∀ (l : Nat) (pre : List α) (x : α) (suf : List α) (W : World), w.heap.size ≤ l → xs = pre ++ x :: suf → I pre W → body.wpIn (Fence.wide.inRound l) (n - 1 - 1) Tryd.prog (fun e _ W' => e = .normal ∧ KeepsFrom w.heap.size W W' ∧ I (pre ++ [x]) W') (a₁ x) W)
    (hdone : ∀ (D : Nat) (W : World), w.heap.size ≤ D → I xs W → W.heap[D]? = some (.deferred (some [])) → Q .normal { a with defers := { target := .collected D, args := #[] } :: a.defers } W) :
    (Code.rangeFunc g #[p] assign body).wpIn Fence.wide n Tryd.prog Q a w := by
  refine wpIn_rangeFunc fun fn hfn => ?_
  have hro : Fence.wide.round = none := rfl
  rw [hro]
  obtain ⟨rec, hrec⟩ : ∃ rec : LoopState → Loop, rec = fun st => { state := st, pending := none, fn, tmps := a.tmps, params := #[p], assign, body, defers := w.heap.size } := ⟨_, rfl⟩
  obtain ⟨W1, hW1⟩ : ∃ W1, (w.alloc (.deferred (some []))).alloc (.loop (rec .ready)) = W1 := ⟨_, rfl⟩
  have hL1 : W1.heap[w.heap.size + 1]? = some (.loop (rec .ready)) := by
    rw [← hW1]; have := World.alloc_heap_new (w.alloc (.deferred (some []))) (.loop (rec .ready)); rwa [World.size_alloc] at this
  have hK1 : W1.heap[w.heap.size]? = some (.deferred (some [])) := by
    rw [← hW1]; exact (Below.heap_alloc _ _ _ (by simp)).trans (World.alloc_heap_new w _)
  have hI1 : I [] W1 := by rw [← hW1]; exact hI.alloc _ (hI.alloc _ h0)
  refine ⟨w.heap.size + 1, [{ target := .collected w.heap.size, args := #[] }], W1, { target := .fn (.func gf) #[], args := #[.int .u64 s, .func (.yield (w.heap.size + 1)) #[] #[]] }, W1, gf,
    #[.int .u64 s, .func (.yield (w.heap.size + 1)) #[] #[]], W1, ?_, ?_, fun _ _ => trivial, ?_, fun _ => h1, ?_⟩
  · rw [← hW1, hrec]; exact run_enterLoop_outer _ _ _ _ _
  · simp only [resolve, hg]
    simp [go_sem]
  · simp [invoke, go_sem, eg]
  · refine (hseq (w.heap.size + 1) (fun pre W => I pre W ∧ W.heap[w.heap.size + 1]? = some (.loop (rec .ready)) ∧ W.heap[w.heap.size]? = some (.deferred (some []))) W1 (fun pre W h => hT pre W h.1) ?_ ⟨hI1, hL1, hK1⟩).mono ?_
    · rintro pre x suf W hxs ⟨hi, hl, hk⟩
      have hlt : w.heap.size + 1 < W.heap.size := (Array.getElem?_eq_some_iff.1 hl).1
      have hy := run_yield (P := Tryd.prog) (args := #[enc x]) hl (by rw [hrec]; rfl)
      rw [hrec] at hy
      refine ⟨fn, _, assign, body, hy, roundIn_of_wpIn hfn ?_⟩
      refine hassign (w.heap.size + 1) x W _ ?_
      refine ⟨_, run_beginRound hl (by rw [hrec]), ?_⟩
      have hl2 : (W.putObj (w.heap.size + 1) (.loop { rec .ready with state := .busy })).heap[w.heap.size + 1]? = some (.loop { rec .ready with state := .busy }) := World.putObj_heap_same hlt
      have hk2 : (W.putObj (w.heap.size + 1) (.loop { rec .ready with state := .busy })).heap[w.heap.size]? = some (.deferred (some [])) := (World.putObj_heap_other (by omega)).trans hk
      refine wpIn_mono (hbody (w.heap.size + 1) pre x suf _ (by omega) hxs (hI.putObj _ hi (by omega) hl rfl)) ?_
      rintro e a3 W3 ⟨rfl, hk3, hi3⟩
      have hl3 := hk3.same _ _ (by omega) hl2 rfl
      have hk4 := hk3.same _ _ (Nat.le_refl _) hk2 rfl
      have hr := run_endRound (P := Tryd.prog) none hl3
      have hlt3 : w.heap.size + 1 < W3.heap.size := (Array.getElem?_eq_some_iff.1 hl3).1
      rw [hrec] at hr
      refine ⟨_, _, hr, rfl, hI.putObj _ hi3 (by omega) hl3 rfl, ?_, (World.putObj_heap_other (by omega)).trans hk4⟩
      rw [hrec]
      exact World.putObj_heap_same hlt3
    · rintro e W2 ⟨⟨v, rfl⟩, hi, hl, hk⟩
      refine ⟨none, _, by have := run_endLoop (P := Tryd.prog) hl (by rw [hrec]; simp); rw [hrec] at this; exact this, hdone _ _ (Nat.le_refl _) (hI.putObj _ hi (by omega) hl rfl) ((World.putObj_heap_other (by omega)).trans hk)⟩
/-- The same, where each value goes into one slot. -/
theorem range_slot {n gf s : Nat} {enc : α → Value} {xs : List α} {rid : Nat} {q : Tmp} {ty : TypeId} {pos : String} {aft : Array Edge} (h1 : 1 ≤ n) (hg : a.eval g = .func (.func gf) #[.int .u64 s] #[]) (eg : ∀ args w, (callFunc gf args).run Tryd.prog w = .ok (.enter gf args) w)
    (hp : p < a.tmps.size) (hseq : Gives (n - 1) gf s enc xs) (I : List α → World → Prop) (hI : Stays w.heap.size I) (hT : ∀ pre W, I pre W → TabW W) (h0 : I [] w)
    (hbody : ∀ (l : Nat) (pre : List α) (x : α) (suf : List α) (W : World), w.heap.size ≤ l → xs = pre ++ x :: suf → I pre W → body.wpIn (Fence.wide.inRound l) (n - 1 - 1) Tryd.prog (fun e _ W' => e = .normal ∧ KeepsFrom w.heap.size W W' ∧ I (pre ++ [x]) W') { tmps := (a.tmps.setIfInBounds p (enc x)).setIfInBounds q (enc x), defers := [] } W)
    (hdone : ∀ (D : Nat) (W : World), w.heap.size ≤ D → I xs W → W.heap[D]? = some (.deferred (some [])) → Q .normal { a with defers := { target := .collected D, args := #[] } :: a.defers } W) :
    (Code.rangeFunc g #[p] (Code.region rid #[{ dst := some q, op := Op.assign (Operand.tmp p), type := ty, pos := pos, after := aft, guard := none }] false) body).wpIn Fence.wide n Tryd.prog Q a w := by
  refine range_gives (enc := enc) (xs := xs) h1 hg eg hseq I hI hT h0 (fun x => { tmps := (a.tmps.setIfInBounds p (enc x)).setIfInBounds q (enc x), defers := [] }) ?_ hbody hdone
  intro l x W K hK
  have hz : (a.tmps.setIfInBounds p (enc x)).getD p undef = enc x := by simp [hp]
  have HK := hid hK
  clear hK
  gi_wp2
  rw [Oper.semAt_some _ _ _ (by simp)]
  simp only [execOp, Sem.run_pure, Oper.uponIn, Act.eval, hz]
  rename_i Q2 K2 h2
  refine h2 _ _ ?_
  unfold wpListIn
  exact HK.out
end
end Go.Proofs.YtcfijidlbimckaaDoor
