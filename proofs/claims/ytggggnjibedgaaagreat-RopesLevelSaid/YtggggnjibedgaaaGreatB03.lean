/- A range over a function, by what it yields. -/
import Derived.Test.YtggggnjibedgaaaGreatB02
import Derived.OwnWalkIn
import Derived.TacticsInMore
import Derived.LoopNIn
import Derived.LoopIn
import Derived.RangeFuncNested
import Derived.RangeFuncBound
import Derived.RangeFuncCalls
import Derived.RangeFuncLeaves
import Derived.RegionIn
import Derived.Test.YtggggnjibedgaaaGreatRows
import Derived.Shelf.SlSortCmp.Insertion
import Derived.Shelf.SlicesE.Compact
import Derived.Shelf.SlIterI.Sorted
import Derived.Shelf.SortM.Plain
import Derived.Shelf.SortM.SortNone
import Derived.Test.YtggggnjibedgaaaGreatB01
set_option linter.unusedSimpArgs false
set_option linter.unusedVariables false
namespace Go.Proofs.YtggggnjibedgaaaGreat
open Go.RowKit
/-- Bookkeeping of a loop that began at block B leaves it. -/
def Stays {β : Type} (B : Nat) (I : β → World → Prop) : Prop :=
  ∀ s W W' row, I s W → W.grownBy W' row → (∀ r, row = some r → B ≤ r ∧ ∃ o : Obj, W.heap[r]? = some o ∧ o.isCells = false) → I s W'
theorem Stays.putObj {β : Type} {B : Nat} {I : β → World → Prop} (h : Stays B I) {s : β} {W : World} {l : Nat} {o : Obj} (o' : Obj) (hs : I s W) (hB : B ≤ l) (hl : W.heap[l]? = some o) (ho : o.isCells = false) : I s (W.putObj l o') :=
  h s W _ (some l) hs (grownBy_putObj' W l o') (fun r e => by injection e with e; subst e; exact ⟨hB, o, hl, ho⟩)
theorem Stays.alloc {β : Type} {B : Nat} {I : β → World → Prop} (h : Stays B I) {s : β} {W : World} (o : Obj) (hs : I s W) : I s (W.alloc o) :=
  h s W _ none hs (World.grownBy_alloc W o none) (fun r e => by cases e)
theorem own_cells {B k : Nat} {c : Array Value} {t : TypeId} {f : Nat × Nat} {W W' : World} {row : Option Nat} (h : W.heap[k]? = some (.cells c t f)) (hg : W.grownBy W' row) (hr : ∀ r, row = some r → B ≤ r ∧ ∃ o : Obj, W.heap[r]? = some o ∧ o.isCells = false) : W'.heap[k]? = some (.cells c t f) :=
  (hg.block k (Array.getElem?_eq_some_iff.1 h).1 (fun e => by
    obtain ⟨_, o, ho, hc⟩ := hr k e.symm
    rw [h] at ho
    injection ho with ho
    subst ho
    cases hc)).trans h
theorem Blk.own {B k : Nat} {c : Array Value} {t : TypeId} {W W' : World} {row : Option Nat} (h : Blk W k t c) (hg : W.grownBy W' row) (hr : ∀ r, row = some r → B ≤ r ∧ ∃ o : Obj, W.heap[r]? = some o ∧ o.isCells = false) : Blk W' k t c := own_cells h hg hr
theorem own_ext {B : Nat} {w W W' : World} {row : Option Nat} (hB : w.heap.size ≤ B) (h : Ext w W) (hg : W.grownBy W' row) (hr : ∀ r, row = some r → B ≤ r ∧ ∃ o : Obj, W.heap[r]? = some o ∧ o.isCells = false) : Ext w W' :=
  Below.grown h hg h.size (fun k e => by have := (hr k e).1; omega)
theorem ext_putObj {w W : World} (h : Ext w W) {D : Nat} (hD : w.heap.size ≤ D) {o : Obj} : Ext w (W.putObj D o) :=
  Below.grown h (grownBy_putObj' W D o) h.size (fun k e => by injection e with e; omega)
theorem keepsFrom_ext {W W' : World} (B : Nat) (e : Ext W W') : KeepsFrom B W W' := ⟨e.size, fun k o _ ho _ => blk_ext ho e⟩
theorem keepsFrom_set (B : Nat) (W : World) (p : Addr) (u : Value) : KeepsFrom B W (W.setCell p u) := (KeepsOthers.setCell W p u).from B


/-- What an iterator yields, called with a world that keeps R: just these, in this order. -/
def GivesF {α : Type} (n m gf : Nat) (mk : Value → Array Value) (enc : α → Value) (R : World → Prop) (xs : List α) : Prop :=
  ∀ (l : Nat) (J : List α → World → Prop) (W : World), (∀ pre W1, J pre W1 → R W1) →
    (∀ pre x suf W1, xs = pre ++ x :: suf → J pre W1 → YieldAt Fence.wide m Tryz.prog l #[enc x] W1 fun e W' => e = .returned (.bool true) ∧ J (pre ++ [x]) W') →
    J [] W → CallsIn Fence.wide n Tryz.prog gf (mk (.func (.yield l) #[] #[])) W fun e W' => (∃ v, e = .returned v) ∧ J xs W'
section
variable {α : Type} {g : Operand} {p : Tmp} {assign body : Code} {Q : Exit → Act → World → Prop} {a : Act} {w : World}
/-- The loop, by an invariant that each round carries on. -/
theorem range_givesA {n gf : Nat} {rv : Value} {R : World → Prop} {enc : α → Value} {xs : List α} (h1 : 1 ≤ n) (hg : a.eval g = .func (.func gf) #[rv] #[]) (eg : ∀ args w, (callFunc gf args).run Tryz.prog w = .ok (.enter gf args) w)
    (hseq : GivesF (n - 1) (n - 1 - 1) gf (fun y => #[rv, y]) enc R xs) (I : List α → World → Prop) (hI : Stays w.heap.size I) (hT : ∀ pre W, I pre W → R W) (h0 : I [] w) (a₁ : α → Act)
    (hassign : ∀ (l : Nat) (x : α) (W : World) (K : Act → World → Prop), K (a₁ x) W → assign.wpIn (Fence.wide.inRound l) (n - 1 - 1) Tryz.prog (Exit.then K (fun _ _ _ => False)) { tmps := (#[p].zip #[enc x]).foldl (fun t (p, v) => t.setIfInBounds p v) a.tmps, defers := [] } W)
    (hbody : ∀ (l : Nat) (pre : List α) (x : α) (suf : List α) (W : World), w.heap.size ≤ l → xs = pre ++ x :: suf → I pre W → body.wpIn (Fence.wide.inRound l) (n - 1 - 1) Tryz.prog (fun e _ W' => e = .normal ∧ KeepsFrom w.heap.size W W' ∧ I (pre ++ [x]) W') (a₁ x) W)
    (hdone : ∀ (D : Nat) (W : World), w.heap.size ≤ D → I xs W → W.heap[D]? = some (.deferred (some [])) → Q .normal { a with defers := { target := .collected D, args := #[] } :: a.defers } W) :
    (Code.rangeFunc g #[p] assign body).wpIn Fence.wide n Tryz.prog Q a w := by
  refine wpIn_rangeFunc fun fn hfn => ?_
  have hro : Fence.wide.round = none := rfl
  rw [hro]
  obtain ⟨rec, hrec⟩ : ∃ rec : LoopState → Loop, rec = fun st => { state := st, pending := none, fn, tmps := a.tmps, params := #[p], assign, body, defers := w.heap.size } := ⟨_, rfl⟩
  obtain ⟨W1, hW1⟩ : ∃ W1, (w.alloc (.deferred (some []))).alloc (.loop (rec .ready)) = W1 := ⟨_, rfl⟩
  have hL1 : W1.heap[w.heap.size + 1]? = some (.loop (rec .ready)) := by
    rw [← hW1]; have := World.alloc_heap_new (w.alloc (.deferred (some []))) (.loop (rec .ready)); rwa [World.size_alloc] at this
  have hK1 : W1.heap[w.heap.size]? = some (.deferred (some [])) := by
    rw [← hW1]; exact (Below.heap_alloc _ _ _ (by simp)).trans (World.alloc_heap_new w _)
  have hI1 : I [] W1 := by rw [← hW1]; exact hI.alloc _ (hI.alloc _ h0)
  refine ⟨w.heap.size + 1, [{ target := .collected w.heap.size, args := #[] }], W1, { target := .fn (.func gf) #[], args := #[rv, .func (.yield (w.heap.size + 1)) #[] #[]] }, W1, gf,
    #[rv, .func (.yield (w.heap.size + 1)) #[] #[]], W1, ?_, ?_, fun _ _ => trivial, ?_, fun _ => h1, ?_⟩
  · rw [← hW1, hrec]; exact run_enterLoop_outer _ _ _ _ _
  · simp only [resolve, hg]
    simp [go_sem]
  · simp [invoke, go_sem, eg]
  · refine (hseq (w.heap.size + 1) (fun pre W => I pre W ∧ W.heap[w.heap.size + 1]? = some (.loop (rec .ready)) ∧ W.heap[w.heap.size]? = some (.deferred (some []))) W1 (fun pre W h => hT pre W h.1) ?_ ⟨hI1, hL1, hK1⟩).mono ?_
    · rintro pre x suf W hxs ⟨hi, hl, hk⟩
      have hlt : w.heap.size + 1 < W.heap.size := (Array.getElem?_eq_some_iff.1 hl).1
      have hy := run_yield (P := Tryz.prog) (args := #[enc x]) hl (by rw [hrec]; rfl)
      rw [hrec] at hy
      refine ⟨fn, _, assign, body, hy, roundIn_of_wpIn hfn ?_⟩
      refine hassign (w.heap.size + 1) x W _ ?_
      refine ⟨_, run_beginRound hl (by rw [hrec]), ?_⟩
      have hl2 : (W.putObj (w.heap.size + 1) (.loop { rec .ready with state := .busy })).heap[w.heap.size + 1]? = some (.loop { rec .ready with state := .busy }) := World.putObj_heap_same hlt
      have hk2 : (W.putObj (w.heap.size + 1) (.loop { rec .ready with state := .busy })).heap[w.heap.size]? = some (.deferred (some [])) := (World.putObj_heap_other (by omega)).trans hk
      refine wpIn_mono (hbody (w.heap.size + 1) pre x suf _ (by omega) hxs (hI.putObj _ hi (by omega) hl rfl)) ?_
      rintro e a3 W3 ⟨rfl, hk3, hi3⟩
      have hl3 := hk3.same _ _ (by omega) hl2 rfl
      have hk4 := hk3.same _ _ (Nat.le_refl _) hk2 rfl
      have hr := run_endRound (P := Tryz.prog) none hl3
      have hlt3 : w.heap.size + 1 < W3.heap.size := (Array.getElem?_eq_some_iff.1 hl3).1
      rw [hrec] at hr
      refine ⟨_, _, hr, rfl, hI.putObj _ hi3 (by omega) hl3 rfl, ?_, (World.putObj_heap_other (by omega)).trans hk4⟩
      rw [hrec]
      exact World.putObj_heap_same hlt3
    · rintro e W2 ⟨⟨v, rfl⟩, hi, hl, hk⟩
      refine ⟨none, _, by have := run_endLoop (P := Tryz.prog) hl (by rw [hrec]; simp); rw [hrec] at this; exact this, hdone _ _ (Nat.le_refl _) (hI.putObj _ hi (by omega) hl rfl) ((World.putObj_heap_other (by omega)).trans hk)⟩
/-- The same, where each value goes into one slot. -/
theorem range_slotA {n gf : Nat} {rv : Value} {R : World → Prop} {enc : α → Value} {xs : List α} {rid : Nat} {q : Tmp} {ty : TypeId} {pos : String} {aft : Array Edge} (h1 : 1 ≤ n) (hg : a.eval g = .func (.func gf) #[rv] #[]) (eg : ∀ args w, (callFunc gf args).run Tryz.prog w = .ok (.enter gf args) w)
    (hp : p < a.tmps.size) (hseq : GivesF (n - 1) (n - 1 - 1) gf (fun y => #[rv, y]) enc R xs) (I : List α → World → Prop) (hI : Stays w.heap.size I) (hT : ∀ pre W, I pre W → R W) (h0 : I [] w)
    (hbody : ∀ (l : Nat) (pre : List α) (x : α) (suf : List α) (W : World), w.heap.size ≤ l → xs = pre ++ x :: suf → I pre W → body.wpIn (Fence.wide.inRound l) (n - 1 - 1) Tryz.prog (fun e _ W' => e = .normal ∧ KeepsFrom w.heap.size W W' ∧ I (pre ++ [x]) W') { tmps := (a.tmps.setIfInBounds p (enc x)).setIfInBounds q (enc x), defers := [] } W)
    (hdone : ∀ (D : Nat) (W : World), w.heap.size ≤ D → I xs W → W.heap[D]? = some (.deferred (some [])) → Q .normal { a with defers := { target := .collected D, args := #[] } :: a.defers } W) :
    (Code.rangeFunc g #[p] (Code.region rid #[{ dst := some q, op := Op.assign (Operand.tmp p), type := ty, pos := pos, after := aft, guard := none }] false) body).wpIn Fence.wide n Tryz.prog Q a w := by
  refine range_givesA (enc := enc) (xs := xs) h1 hg eg hseq I hI hT h0 (fun x => { tmps := (a.tmps.setIfInBounds p (enc x)).setIfInBounds q (enc x), defers := [] }) ?_ hbody hdone
  intro l x W K hK
  have hz : (a.tmps.setIfInBounds p (enc x)).getD p undef = enc x := by simp [hp]
  have HK := hid hK
  clear hK
  gi_wp2
  rw [Oper.semAt_some _ _ _ (by simp)]
  simp only [execOp, Sem.run_pure, Oper.uponIn, Act.eval, hz]
  rename_i Q2 K2 h2
  refine h2 _ _ ?_
  unfold wpListIn
  exact HK.out
end
section
variable {α : Type} {g : Operand} {p : Tmp} {assign body : Code} {Q : Exit → Act → World → Prop} {a : Act} {w : World}
/-- The loop, by an invariant that each round carries on. -/
theorem range_givesB {n gf : Nat} {rv : Value} {R : World → Prop} {enc : α → Value} {xs : List α} (h1 : 1 ≤ n) (hg : a.eval g = .func (.func gf) #[] #[rv]) (eg : ∀ args w, (callFunc gf args).run Tryz.prog w = .ok (.enter gf args) w)
    (hseq : GivesF (n - 1) (n - 1 - 1) gf (fun y => #[y, rv]) enc R xs) (I : List α → World → Prop) (hI : Stays w.heap.size I) (hT : ∀ pre W, I pre W → R W) (h0 : I [] w) (a₁ : α → Act)
    (hassign : ∀ (l : Nat) (x : α) (W : World) (K : Act → World → Prop), K (a₁ x) W → assign.wpIn (Fence.wide.inRound l) (n - 1 - 1) Tryz.prog (Exit.then K (fun _ _ _ => False)) { tmps := (#[p].zip #[enc x]).foldl (fun t (p, v) => t.setIfInBounds p v) a.tmps, defers := [] } W)
    (hbody : ∀ (l : Nat) (pre : List α) (x : α) (suf : List α) (W : World), w.heap.size ≤ l → xs = pre ++ x :: suf → I pre W → body.wpIn (Fence.wide.inRound l) (n - 1 - 1) Tryz.prog (fun e _ W' => e = .normal ∧ KeepsFrom w.heap.size W W' ∧ I (pre ++ [x]) W') (a₁ x) W)
    (hdone : ∀ (D : Nat) (W : World), w.heap.size ≤ D → I xs W → W.heap[D]? = some (.deferred (some [])) → Q .normal { a with defers := { target := .collected D, args := #[] } :: a.defers } W) :
    (Code.rangeFunc g #[p] assign body).wpIn Fence.wide n Tryz.prog Q a w := by
  refine wpIn_rangeFunc fun fn hfn => ?_
  have hro : Fence.wide.round = none := rfl
  rw [hro]
  obtain ⟨rec, hrec⟩ : ∃ rec : LoopState → Loop, rec = fun st => { state := st, pending := none, fn, tmps := a.tmps, params := #[p], assign, body, defers := w.heap.size } := ⟨_, rfl⟩
  obtain ⟨W1, hW1⟩ : ∃ W1, (w.alloc (.deferred (some []))).alloc (.loop (rec .ready)) = W1 := ⟨_, rfl⟩
  have hL1 : W1.heap[w.heap.size + 1]? = some (.loop (rec .ready)) := by
    rw [← hW1]; have := World.alloc_heap_new (w.alloc (.deferred (some []))) (.loop (rec .ready)); rwa [World.size_alloc] at this
  have hK1 : W1.heap[w.heap.size]? = some (.deferred (some [])) := by
    rw [← hW1]; exact (Below.heap_alloc _ _ _ (by simp)).trans (World.alloc_heap_new w _)
  have hI1 : I [] W1 := by rw [← hW1]; exact hI.alloc _ (hI.alloc _ h0)
  refine ⟨w.heap.size + 1, [{ target := .collected w.heap.size, args := #[] }], W1, { target := .fn (.func gf) #[rv], args := #[.func (.yield (w.heap.size + 1)) #[] #[]] }, W1, gf,
    #[.func (.yield (w.heap.size + 1)) #[] #[], rv], W1, ?_, ?_, fun _ _ => trivial, ?_, fun _ => h1, ?_⟩
  · rw [← hW1, hrec]; exact run_enterLoop_outer _ _ _ _ _
  · simp only [resolve, hg]
    simp [go_sem]
  · simp [invoke, go_sem, eg]
  · refine (hseq (w.heap.size + 1) (fun pre W => I pre W ∧ W.heap[w.heap.size + 1]? = some (.loop (rec .ready)) ∧ W.heap[w.heap.size]? = some (.deferred (some []))) W1 (fun pre W h => hT pre W h.1) ?_ ⟨hI1, hL1, hK1⟩).mono ?_
    · rintro pre x suf W hxs ⟨hi, hl, hk⟩
      have hlt : w.heap.size + 1 < W.heap.size := (Array.getElem?_eq_some_iff.1 hl).1
      have hy := run_yield (P := Tryz.prog) (args := #[enc x]) hl (by rw [hrec]; rfl)
      rw [hrec] at hy
      refine ⟨fn, _, assign, body, hy, roundIn_of_wpIn hfn ?_⟩
      refine hassign (w.heap.size + 1) x W _ ?_
      refine ⟨_, run_beginRound hl (by rw [hrec]), ?_⟩
      have hl2 : (W.putObj (w.heap.size + 1) (.loop { rec .ready with state := .busy })).heap[w.heap.size + 1]? = some (.loop { rec .ready with state := .busy }) := World.putObj_heap_same hlt
      have hk2 : (W.putObj (w.heap.size + 1) (.loop { rec .ready with state := .busy })).heap[w.heap.size]? = some (.deferred (some [])) := (World.putObj_heap_other (by omega)).trans hk
      refine wpIn_mono (hbody (w.heap.size + 1) pre x suf _ (by omega) hxs (hI.putObj _ hi (by omega) hl rfl)) ?_
      rintro e a3 W3 ⟨rfl, hk3, hi3⟩
      have hl3 := hk3.same _ _ (by omega) hl2 rfl
      have hk4 := hk3.same _ _ (Nat.le_refl _) hk2 rfl
      have hr := run_endRound (P := Tryz.prog) none hl3
      have hlt3 : w.heap.size + 1 < W3.heap.size := (Array.getElem?_eq_some_iff.1 hl3).1
      rw [hrec] at hr
      refine ⟨_, _, hr, rfl, hI.putObj _ hi3 (by omega) hl3 rfl, ?_, (World.putObj_heap_other (by omega)).trans hk4⟩
      rw [hrec]
      exact World.putObj_heap_same hlt3
    · rintro e W2 ⟨⟨v, rfl⟩, hi, hl, hk⟩
      refine ⟨none, _, by have := run_endLoop (P := Tryz.prog) hl (by rw [hrec]; simp); rw [hrec] at this; exact this, hdone _ _ (Nat.le_refl _) (hI.putObj _ hi (by omega) hl rfl) ((World.putObj_heap_other (by omega)).trans hk)⟩
/-- The same, where each value goes into one slot. -/
theorem range_slotB {n gf : Nat} {rv : Value} {R : World → Prop} {enc : α → Value} {xs : List α} {rid : Nat} {q : Tmp} {ty : TypeId} {pos : String} {aft : Array Edge} (h1 : 1 ≤ n) (hg : a.eval g = .func (.func gf) #[] #[rv]) (eg : ∀ args w, (callFunc gf args).run Tryz.prog w = .ok (.enter gf args) w)
    (hp : p < a.tmps.size) (hseq : GivesF (n - 1) (n - 1 - 1) gf (fun y => #[y, rv]) enc R xs) (I : List α → World → Prop) (hI : Stays w.heap.size I) (hT : ∀ pre W, I pre W → R W) (h0 : I [] w)
    (hbody : ∀ (l : Nat) (pre : List α) (x : α) (suf : List α) (W : World), w.heap.size ≤ l → xs = pre ++ x :: suf → I pre W → body.wpIn (Fence.wide.inRound l) (n - 1 - 1) Tryz.prog (fun e _ W' => e = .normal ∧ KeepsFrom w.heap.size W W' ∧ I (pre ++ [x]) W') { tmps := (a.tmps.setIfInBounds p (enc x)).setIfInBounds q (enc x), defers := [] } W)
    (hdone : ∀ (D : Nat) (W : World), w.heap.size ≤ D → I xs W → W.heap[D]? = some (.deferred (some [])) → Q .normal { a with defers := { target := .collected D, args := #[] } :: a.defers } W) :
    (Code.rangeFunc g #[p] (Code.region rid #[{ dst := some q, op := Op.assign (Operand.tmp p), type := ty, pos := pos, after := aft, guard := none }] false) body).wpIn Fence.wide n Tryz.prog Q a w := by
  refine range_givesB (enc := enc) (xs := xs) h1 hg eg hseq I hI hT h0 (fun x => { tmps := (a.tmps.setIfInBounds p (enc x)).setIfInBounds q (enc x), defers := [] }) ?_ hbody hdone
  intro l x W K hK
  have hz : (a.tmps.setIfInBounds p (enc x)).getD p undef = enc x := by simp [hp]
  have HK := hid hK
  clear hK
  gi_wp2
  rw [Oper.semAt_some _ _ _ (by simp)]
  simp only [execOp, Sem.run_pure, Oper.uponIn, Act.eval, hz]
  rename_i Q2 K2 h2
  refine h2 _ _ ?_
  unfold wpListIn
  exact HK.out
end
end Go.Proofs.YtggggnjibedgaaaGreat
/- The library's functions slices.Sort, Sorted, Compact and insertionSortCmpFunc in this program. -/
namespace Go.Proofs
open Go.Shelf
def Tryz.lIns_ren : Go.Shelf.Ren := ⟨fun | 20 => 164 | n => n, fun | 24 => 3 | 22 => 45 | 3 => 3 | 25 => 86 | 4 => 4 | 0 => 0 | n => n, fun | n => n⟩
theorem Tryz.lIns : Go.Proofs.SlLaysF.n20 Tryz.prog Tryz.lIns_ren where
  mixed := by kernel_rfl
  f20 := ⟨Tryz.f164.name, by decide, Tryz.func164.trans (congrArg some (by kernel_rfl))⟩
  t0 := Tryz.underlying0
  a0 := Tryz.isAgg0
  z0 := Tryz.sizeOf0
  v0 := Tryz.zeroValue0
  t3 := Tryz.underlying3
  a3 := Tryz.isAgg3
  z3 := Tryz.sizeOf3
  v3 := Tryz.zeroValue3
  t4 := Tryz.underlying4
  a4 := Tryz.isAgg4
  z4 := Tryz.sizeOf4
  v4 := Tryz.zeroValue4
  t22 := Tryz.underlying45
  a22 := Tryz.isAgg45
  z22 := Tryz.sizeOf45
  v22 := Tryz.zeroValue45
  a24 := Tryz.isAgg3
  z24 := Tryz.sizeOf3
  t25 := Tryz.underlying86
  a25 := Tryz.isAgg86
  z25 := Tryz.sizeOf86
  v25 := Tryz.zeroValue86
def Tryz.lSort_ren : Go.Shelf.Ren := ⟨fun | 5 => 161 | 8 => 113 | 7 => 167 | 19 => 140 | 20 => 141 | 10 => 171 | 11 => 172 | 12 => 173 | 13 => 174 | 14 => 175 | 15 => 176 | 16 => 177 | 17 => 178 | 18 => 179 | 30 => 181 | 31 => 182 | 32 => 183 | 33 => 184 | 34 => 185 | 35 => 186 | 40 => 187 | n => n, fun | 23 => 45 | 25 => 3 | 3 => 3 | 32 => 88 | 22 => 45 | 0 => 0 | 44 => 181 | 46 => 183 | 4 => 4 | 36 => 210 | 35 => 209 | 41 => 70 | 5 => 5 | 9 => 9 | 53 => 215 | 57 => 219 | 63 => 221 | 64 => 136 | n => n, fun | n => n⟩
theorem Tryz.lSort : Go.Proofs.SlLaysM.n5 Tryz.prog Tryz.lSort_ren where
  mixed := by kernel_rfl
  f5 := ⟨Tryz.f161.name, by decide, Tryz.func161.trans (congrArg some (by kernel_rfl))⟩
  f7 := ⟨Tryz.f167.name, by decide, Tryz.func167.trans (congrArg some (by kernel_rfl))⟩
  f8 := Tryz.func113.trans (congrArg some (by kernel_rfl))
  f10 := ⟨Tryz.f171.name, by decide, Tryz.func171.trans (congrArg some (by kernel_rfl))⟩
  f11 := ⟨Tryz.f172.name, by decide, Tryz.func172.trans (congrArg some (by kernel_rfl))⟩
  f12 := ⟨Tryz.f173.name, by decide, Tryz.func173.trans (congrArg some (by kernel_rfl))⟩
  f13 := ⟨Tryz.f174.name, by decide, Tryz.func174.trans (congrArg some (by kernel_rfl))⟩
  f14 := ⟨Tryz.f175.name, by decide, Tryz.func175.trans (congrArg some (by kernel_rfl))⟩
  f15 := ⟨Tryz.f176.name, by decide, Tryz.func176.trans (congrArg some (by kernel_rfl))⟩
  f16 := ⟨Tryz.f177.name, by decide, Tryz.func177.trans (congrArg some (by kernel_rfl))⟩
  f17 := ⟨Tryz.f178.name, by decide, Tryz.func178.trans (congrArg some (by kernel_rfl))⟩
  f18 := ⟨Tryz.f179.name, by decide, Tryz.func179.trans (congrArg some (by kernel_rfl))⟩
  f19 := Tryz.func140.trans (congrArg some (by kernel_rfl))
  f20 := Tryz.func141.trans (congrArg some (by kernel_rfl))
  f30 := ⟨Tryz.f181.name, by decide, Tryz.func181.trans (congrArg some (by kernel_rfl))⟩
  f31 := Tryz.func182.trans (congrArg some (by kernel_rfl))
  f32 := Tryz.func183.trans (congrArg some (by kernel_rfl))
  f33 := ⟨Tryz.f184.name, by decide, Tryz.func184.trans (congrArg some (by kernel_rfl))⟩
  f34 := ⟨Tryz.f185.name, by decide, Tryz.func185.trans (congrArg some (by kernel_rfl))⟩
  f35 := ⟨Tryz.f186.name, by decide, Tryz.func186.trans (congrArg some (by kernel_rfl))⟩
  f40 := ⟨Tryz.f187.name, by decide, Tryz.func187.trans (congrArg some (by kernel_rfl))⟩
  t0 := Tryz.underlying0
  a0 := Tryz.isAgg0
  z0 := Tryz.sizeOf0
  v0 := Tryz.zeroValue0
  t3 := Tryz.underlying3
  a3 := Tryz.isAgg3
  z3 := Tryz.sizeOf3
  v3 := Tryz.zeroValue3
  t4 := Tryz.underlying4
  a4 := Tryz.isAgg4
  z4 := Tryz.sizeOf4
  v4 := Tryz.zeroValue4
  t5 := Tryz.underlying5
  a5 := Tryz.isAgg5
  z5 := Tryz.sizeOf5
  v5 := Tryz.zeroValue5
  t9 := Tryz.underlying9
  a9 := Tryz.isAgg9
  z9 := Tryz.sizeOf9
  v9 := Tryz.zeroValue9
  t22 := Tryz.underlying45
  a22 := Tryz.isAgg45
  z22 := Tryz.sizeOf45
  v22 := Tryz.zeroValue45
  t23 := Tryz.underlying45
  a23 := Tryz.isAgg45
  z23 := Tryz.sizeOf45
  v23 := Tryz.zeroValue45
  t25 := Tryz.underlying3
  a25 := Tryz.isAgg3
  z25 := Tryz.sizeOf3
  v25 := Tryz.zeroValue3
  t32 := Tryz.underlying88
  a32 := Tryz.isAgg88
  z32 := Tryz.sizeOf88
  v32 := Tryz.zeroValue88
  t35 := Tryz.underlying209
  a35 := Tryz.isAgg209
  z35 := Tryz.sizeOf209
  v35 := Tryz.zeroValue209
  t36 := Tryz.underlying210
  a36 := Tryz.isAgg210
  z36 := Tryz.sizeOf210
  v36 := Tryz.zeroValue210
  t41 := Tryz.underlying70
  a41 := Tryz.isAgg70
  z41 := Tryz.sizeOf70
  v41 := Tryz.zeroValue70
  t44 := Tryz.underlying181
  a44 := Tryz.isAgg181
  z44 := Tryz.sizeOf181
  v44 := Tryz.zeroValue181
  t46 := Tryz.underlying183
  a46 := Tryz.isAgg183
  z46 := Tryz.sizeOf183
  v46 := Tryz.zeroValue183
  t53 := Tryz.underlying215
  a53 := Tryz.isAgg215
  z53 := Tryz.sizeOf215
  v53 := Tryz.zeroValue215
  t57 := Tryz.underlying219
  a57 := Tryz.isAgg219
  z57 := Tryz.sizeOf219
  v57 := Tryz.zeroValue219
  t63 := Tryz.underlying221
  a63 := Tryz.isAgg221
  z63 := Tryz.sizeOf221
  v63 := Tryz.zeroValue221
  t64 := Tryz.underlying136
  a64 := Tryz.isAgg136
  z64 := Tryz.sizeOf136
  v64 := Tryz.zeroValue136
def Tryz.lComp_ren : Go.Shelf.Ren := ⟨fun | 43 => 151 | n => n, fun | 22 => 45 | 23 => 3 | 3 => 3 | 4 => 4 | 0 => 0 | n => n, fun | n => n⟩
theorem Tryz.lComp : Go.Proofs.SlLaysE.n43 Tryz.prog Tryz.lComp_ren where
  mixed := by kernel_rfl
  f43 := ⟨Tryz.f151.name, by decide, Tryz.func151.trans (congrArg some (by kernel_rfl))⟩
  t0 := Tryz.underlying0
  a0 := Tryz.isAgg0
  z0 := Tryz.sizeOf0
  v0 := Tryz.zeroValue0
  t3 := Tryz.underlying3
  a3 := Tryz.isAgg3
  z3 := Tryz.sizeOf3
  v3 := Tryz.zeroValue3
  t4 := Tryz.underlying4
  a4 := Tryz.isAgg4
  z4 := Tryz.sizeOf4
  v4 := Tryz.zeroValue4
  t22 := Tryz.underlying45
  a22 := Tryz.isAgg45
  z22 := Tryz.sizeOf45
  v22 := Tryz.zeroValue45
  a23 := Tryz.isAgg3
  z23 := Tryz.sizeOf3
def Tryz.lSorted_ren : Go.Shelf.Ren := ⟨fun | 6 => 152 | 8 => 160 | 9 => 161 | 11 => 166 | 13 => 113 | 12 => 167 | 23 => 140 | 24 => 141 | 14 => 171 | 15 => 172 | 16 => 173 | 17 => 174 | 18 => 175 | 19 => 176 | 20 => 177 | 21 => 178 | 22 => 179 | 25 => 181 | 26 => 182 | 27 => 183 | 28 => 184 | 29 => 185 | 30 => 186 | 31 => 187 | n => n, fun | 26 => 3 | 28 => 192 | 24 => 45 | 0 => 0 | 3 => 3 | 37 => 88 | 48 => 181 | 50 => 183 | 4 => 4 | 40 => 210 | 39 => 209 | 45 => 70 | 5 => 5 | 9 => 9 | 51 => 215 | 55 => 219 | 57 => 221 | 58 => 136 | 33 => 109 | n => n, fun | n => n⟩
theorem Tryz.lSorted : Go.Proofs.SlLaysZI.n6 Tryz.prog Tryz.lSorted_ren where
  mixed := by kernel_rfl
  f6 := ⟨Tryz.f152.name, by decide, Tryz.func152.trans (congrArg some (by kernel_rfl))⟩
  f8 := ⟨Tryz.f160.name, by decide, Tryz.func160.trans (congrArg some (by kernel_rfl))⟩
  f11 := ⟨Tryz.f166.name, by decide, Tryz.func166.trans (congrArg some (by kernel_rfl))⟩
  t0 := Tryz.underlying0
  a0 := Tryz.isAgg0
  z0 := Tryz.sizeOf0
  v0 := Tryz.zeroValue0
  t24 := Tryz.underlying45
  a24 := Tryz.isAgg45
  z24 := Tryz.sizeOf45
  v24 := Tryz.zeroValue45
  t26 := Tryz.underlying3
  a26 := Tryz.isAgg3
  z26 := Tryz.sizeOf3
  v26 := Tryz.zeroValue3
  t28 := Tryz.underlying192
  a28 := Tryz.isAgg192
  z28 := Tryz.sizeOf192
  v28 := Tryz.zeroValue192
  i26 := by kernel_rfl
end Go.Proofs
/- The numbers of a list, collected and sorted. -/
set_option linter.unusedSimpArgs false
set_option linter.unusedVariables false
namespace Go.Proofs.YtggggnjibedgaaaGreat
open Go.RowKit
attribute [local go_sem] Oper.semAt_some
def encZi (x : Int) : Value := .int .i64 x
theorem Ownl.cellsOf {α : Type} {e : TypeId} {s : Nat} {g : α → List Value} {w : World} {B : Nat} {v : Value} {xs : List α} (h : Ownl e s g w B v xs) : ∀ q, v.ownBlock = some q → ∃ cs, w.heap[q]? = some (.cells cs e (0, 0)) := by
  intro q hq
  rcases h.2 with ⟨h2, _⟩ | ⟨g', cap, cur, a1, a2, a3, _⟩
  · rw [h2] at hq; cases hq
  · rw [a1] at hq
    cases hq
    exact ⟨_, a3⟩
theorem Ownl.own {α : Type} {e : TypeId} {s : Nat} {g : α → List Value} {w w' : World} {B C : Nat} {v : Value} {xs : List α} {row : Option Nat} (h : Ownl e s g w B v xs) (hg : w.grownBy w' row) (hr : ∀ r, row = some r → C ≤ r ∧ ∃ o : Obj, w.heap[r]? = some o ∧ o.isCells = false) : Ownl e s g w' B v xs :=
  h.grown hg (by
    cases hq : v.ownBlock with
    | none => exact Or.inl rfl
    | some q =>
      refine Or.inr (fun er => ?_)
      obtain ⟨cs, hcs⟩ := h.cellsOf q hq
      obtain ⟨_, o, ho, hc⟩ := hr q er.symm
      rw [hcs] at ho
      injection ho with ho
      subst ho
      cases hc)
theorem Ownl.putObj {α : Type} {e : TypeId} {s : Nat} {g : α → List Value} {w : World} {B D : Nat} {v : Value} {xs : List α} (h : Ownl e s g w B v xs) {o : Obj} (ho : w.heap[D]? = some o) (hc : o.isCells = false) (o' : Obj) : Ownl e s g (w.putObj D o') B v xs :=
  h.own (C := 0) (grownBy_putObj' w D o') (fun r e => by injection e with e; subst e; exact ⟨Nat.zero_le _, o, ho, hc⟩)
theorem Ownl.keeps {α : Type} {e : TypeId} {s : Nat} {g : α → List Value} {W w5 : World} {B C : Nat} {v : Value} {xs : List α} {o : Obj} (h : Ownl e s g W B v xs) (hg : (W.alloc o).grownBy w5 v.ownBlock) : KeepsFrom C W w5 :=
  ((KeepsOthers.alloc W o).trans (KeepsOthers.of_grownBy hg fun j o' ej hj => by
    obtain ⟨cs, hcs⟩ := h.cellsOf j ej
    have hj' := (blk_old hcs o).symm.trans hj
    injection hj' with hj'
    subst hj'
    rfl)).from C
theorem wpListIn_app1In {F : Fence} {n : Nat} {ops : Array Oper} {rest : List Oper} {o : Oper} {a : Act} {Q : Exit → Act → World → Prop} (w : World) (hg : o.guard = none) (s x : Operand)
    (hop : o.op = Op.call { callee := Callee.builtin Builtin.append, args := #[s, x], argTypes := #[45, 45] }) (B : Nat) (v : Value) (xs : List Int) (hs : a.eval s = v) (hown : Ownl 3 1 gIn w B v xs)
    (z : Nat) (y : Int) (hx : a.eval x = .slice (some ⟨z, 0, none⟩) 1 1) (hy : Blk w z 3 #[.int .i64 y]) (hl : xs.length ≤ 10000) (hB : B ≤ w.heap.size)
    (hK : ∀ v' w', Ownl 3 1 gIn w' B v' (xs ++ [y]) → w.grownBy w' v.ownBlock → wpListIn F n Tryz.prog ops Q rest (a.put o.dst v') w') : wpListIn F n Tryz.prog ops Q (o :: rest) a w := by
  obtain ⟨i0, hi, hz0, hz1, hz2⟩ := info_parts infoIn
  refine wpListIn_append_own w hg s x 45 hop B 3 i0 _ 1 8 Tryz.underlying45 hi hz0 hz1 hz2 rfl (by decide) v xs.length (xs.flatMap gIn) hs hown ⟨z, 0, none⟩ 1 1 (gIn y) hx rfl ?_ (oneIn y) (by unfold maxLen; omega) (by omega) hB (fun v' w' h1 h2 _ => hK v' w' (Ownl.snoc h1) h2)
  intro j u hj
  rw [addr_add, Nat.zero_add, hy.cell]
  match j, hj with
  | 0, hj => exact hj
  | j + 1, hj => simp [gIn] at hj
theorem take_cons (xs : List Int) (j : Nat) (h : j < xs.length) : xs = xs.take j ++ xs.getD j 0 :: xs.drop (j + 1) := by
  have e : xs.getD j 0 = xs[j] := by simp [List.getD, List.getElem?_eq_getElem h]
  rw [e, List.getElem_cons_drop, List.take_append_drop]
theorem take_snocI (xs : List Int) (j : Nat) (h : j < xs.length) : xs.take (j + 1) = xs.take j ++ [xs.getD j 0] := by
  rw [List.take_succ_eq_append_getElem h]
  simp [List.getD, List.getElem?_eq_getElem h]
/-- The box that holds a slice of these numbers. -/
def BoxL (q : Nat) (A : Option Addr) (c : Nat) (xs : List Int) (W : World) : Prop := q < W.heap.size ∧ W.cell? ⟨q, 0, none⟩ = some (.slice A xs.length c) ∧ IntsAt W A xs
theorem BoxL.ext {q : Nat} {A : Option Addr} {c : Nat} {xs : List Int} {W W' : World} (h : BoxL q A c xs W) (e : Ext W W') : BoxL q A c xs W' := ⟨Nat.lt_of_lt_of_le h.1 e.size, (e.cell (p := ⟨q, 0, none⟩) h.1).trans h.2.1, h.2.2.ext e⟩
set_option maxRecDepth 100000 in
set_option maxHeartbeats 2000000 in
theorem values_gives (n : Nat) (hn : 3 ≤ n) (q : Nat) (A : Option Addr) (c : Nat) (xs : List Int) (k : Nat) (hk : xs.length = k) (hm : k ≤ 1000) : GivesF n (n - 1) 162 (fun y => #[y, .pointer (some ⟨q, 0, none⟩)]) encZi (BoxL q A c xs) xs := by
  intro l J W hJR hY h0
  obtain ⟨hb0, hb1, -⟩ := hJR _ _ h0
  rw [hk] at hb1
  have HK := hid hk
  have HY := hid hY
  have HJR := hid (fun pre W1 (h : J pre W1) => (hJR pre W1 h).2.2)
  have H0 := hid h0
  have HTC := hid (fun j (h : j < xs.length) => take_cons xs j h)
  have HTS := hid (fun j (h : j < xs.length) => take_snocI xs j h)
  have HE := hid (show xs.take k = xs by rw [← hk]; exact List.take_length)
  have HZ := hid (show xs.take 0 = [] from rfl)
  clear hY hJR h0 hk
  refine callsIn_of_wp Tryz.func162 rfl trivial ?_ rfl
  simp only [Tryz.ntmps162, List.size_toArray, List.length_cons, List.length_nil, Nat.reduceAdd, Nat.reduceSub, Array.replicate_succ, Array.replicate_zero, List.push_toArray, List.append_toArray, List.nil_append, List.cons_append]
  gi_wp2
  gi_loopw [7] (fun i wr => ∃ j : Nat, j ≤ k ∧ i = .int .i64 j ∧ Hid (J (xs.take j) wr)) (fun i _ => k - (intOf i).toNat)
  case atStart => exact ⟨0, Nat.zero_le _, rfl, by rw [HZ.out]; exact H0⟩
  case round =>
    obtain ⟨j, hj, rfl, HJ⟩ := hrel
    by_cases hlt : j < k
    · obtain ⟨b, off, rfl, hb, c0⟩ := (HJR.out _ _ HJ.out).at_ HK.out hlt
      have HT1 := hid (HTC.out j (by rw [HK.out]; exact hlt))
      have HT2 := hid (HTS.out j (by rw [HK.out]; exact hlt))
      generalize xs.getD j 0 = x at *
      obtain ⟨fn, tmps, assign, body, hy, hR⟩ := HY.out _ _ _ _ HT1.out HJ.out
      have HR := hid hR
      clear hR HTC HTS HJR HY hb0 hb1
      unfold encZi at hy
      gi_wp2
      refine ⟨fun hh => absurd hh (by simp [Fence.wide]), ?_⟩
      refine HR.out.mono ?_
      rintro e W3 ⟨rfl, hJ3⟩
      have HJ3 := hid hJ3
      clear hJ3
      gi_wp2
      exact ⟨⟨j + 1, by omega, by go_num, hid (by rw [HT2.out]; exact HJ3.out)⟩, by simp [intOf]; omega⟩
    · obtain rfl : j = k := by omega
      rw [HE.out] at HJ
      gi_wp2
      go_end0
      exact ⟨⟨_, rfl⟩, HJ.out⟩
end Go.Proofs.YtggggnjibedgaaaGreat
/- The numbers of a list, collected and sorted. -/
set_option linter.unusedSimpArgs false
set_option linter.unusedVariables false
namespace Go.Proofs.YtggggnjibedgaaaGreat
open Go.RowKit
attribute [local go_sem] Oper.semAt_some
structure ClInv (w : World) (xs : List Int) (W : World) : Prop where
  ext : Ext w W
  b0 : ∃ v, Blk W w.heap.size 45 #[v] ∧ Ownl 3 1 gIn W (w.heap.size + 1) v xs
theorem typeNe : ¬ 45 = 3 := by decide
set_option maxRecDepth 100000 in
set_option maxHeartbeats 4000000 in
theorem appendSeq_any (q : Nat) (A : Option Addr) (c : Nat) (xs : List Int) (hl : xs.length ≤ 1000) (w : World) (hb : BoxL q A c xs w) :
    Calls Tryz.prog 166 #[.slice none 0 0, .func (.func 162) #[] #[.pointer (some ⟨q, 0, none⟩)]] w fun e w' => ∃ v, e = .returned v ∧ Ownl 3 1 gIn w' w.heap.size v xs ∧ Ext w w' := by
  have HBX := hid hb
  have HLN := hid hl
  clear hb
  refine (callsIn_wide (n := 6)).1 ?_
  refine callsIn_of_wp_marks Tryz.func166 rfl trivial ?_ rfl
  simp only [Tryz.ntmps166, List.size_toArray, List.length_cons, List.length_nil, Nat.reduceAdd, Nat.reduceSub, Array.replicate_succ, Array.replicate_zero, List.push_toArray, List.append_toArray, List.nil_append, List.cons_append]
  gi_wp2_with fail
  have HI0 := hid (show ClInv w [] (w.alloc (.cells #[.slice none 0 0] 45)) from ⟨ext_alloc1 _ _, _, Blk.new _ _ _, Ownl.nil _ _⟩)
  obtain ⟨W0, hW0⟩ : ∃ W0, w.alloc (.cells #[.slice none 0 0] 45) = W0 := ⟨_, rfl⟩
  have hz0 : W0.heap.size = w.heap.size + 1 := by rw [← hW0]; simp
  rw [hW0] at HI0 ⊢
  clear hW0
  refine range_slotB (enc := encZi) (xs := xs) (by omega) rfl (enters_of Tryz.func162 (by kernel_rfl) rfl) (by simp) (values_gives _ (by omega) q A c xs xs.length rfl HLN.out)
    (fun pre W => ClInv w pre W)
    ?stays (fun pre W h => HBX.out.ext h.ext) HI0.out ?body ?done
  case stays =>
    rintro pre X Y row ⟨h1, v, h2, h3⟩ hg hr
    exact ⟨own_ext (by omega) h1 hg hr, v, h2.own hg hr, h3.own hg hr⟩
  case body =>
    rintro l pre x suf W hl2 hxs hI
    have hlen : pre.length ≤ 1000 := by
      have h := congrArg List.length hxs
      have h1 := HLN.out
      simp at h
      omega
    obtain ⟨k1, v, hv, hown⟩ := hI
    have HV := hid hv
    have HOW := hid hown
    have hz1 := k1.size
    have c0 := hv.cell 0
    have z0 := hv.lt
    simp only [List.getElem?_toArray, List.getElem?_cons_zero] at c0
    clear hv hown HI0 hxs
    simp only [encZi, List.setIfInBounds_toArray, List.set_cons_zero, List.set_cons_succ]
    gi_wp2_with (gi_at_builtin; refine Halt.mk ?_)
    unfold Halt
    refine wpListIn_app1In _ rfl _ _ rfl (w.heap.size + 1) v pre rfl (HOW.out.ext (ext_alloc1 _ _)) W.heap.size x rfl (blk_last W _) (by omega) (by simp; omega) ?_
    intro v' w5 hown5 hg5
    have HB5 := hid (HOW.out.blkApp HV.out (by omega) hg5)
    have KE := hid (HOW.out.extApp k1 (by omega) hg5)
    have KK := hid (HOW.out.keeps (C := w.heap.size + 1) hg5)
    have c9 := HB5.out.cell 0
    have f9 := HB5.out.fro 0
    have z9 := HB5.out.lt
    have HO5 := hid hown5
    simp only [List.getElem?_toArray, List.getElem?_cons_zero] at c9
    obtain ⟨A9, q9, rfl, -, -⟩ := ownIn hown5
    have e9 : (pre ++ [x]).length = pre.length + 1 := by simp
    rw [e9] at HO5 ⊢
    clear hown5 hg5 c0 z0 HV HOW
    gi_wp2_with fail
    exact ⟨KK.out.trans (keepsFrom_set _ _ _ _), KE.out.set (by dsimp only; omega) _, _, HB5.out.set _, Ownl.other (p := ⟨w.heap.size, 0, none⟩) HO5.out (by dsimp only; omega) _⟩
  case done =>
    intro D W hD hI hDk
    obtain ⟨h1, v, h2, h3⟩ := hI
    have c9 := h2.cell 0
    have z9 := h2.lt
    simp only [List.getElem?_toArray, List.getElem?_cons_zero] at c9
    have H3 := hid h3
    have HD := hid hDk
    clear h2 h3 hDk HI0
    gi_wp2_with fail
    refine ⟨by simp, .inl ⟨_, _, rfl, run_takeDeferred (HD.out), ?_⟩⟩
    refine ⟨_, results_tmp rfl _ _ _, ?_⟩
    exact ⟨v, rfl, (H3.out.putObj HD.out rfl _).low (by omega), ext_putObj h1 (by omega)⟩
set_option maxHeartbeats 1000000 in
theorem collect_any (q : Nat) (A : Option Addr) (c : Nat) (xs : List Int) (hl : xs.length ≤ 1000) (w : World) (hb : BoxL q A c xs w) :
    Calls Tryz.prog 160 #[.func (.func 162) #[] #[.pointer (some ⟨q, 0, none⟩)]] w fun e w' => ∃ v, e = .returned v ∧ Ownl 3 1 gIn w' w.heap.size v xs ∧ Ext w w' := by
  have HA := hid (appendSeq_any q A c xs hl w hb)
  clear hb hl
  go_enter Tryz.func160, Tryz.ntmps160
  go_wp2_with fail
  refine HA.out.mono ?_
  rintro e w2 ⟨v, rfl, hown, hE⟩
  have HO := hid hown
  clear hown
  go_wp2
  go_ret
  exact ⟨_, rfl, HO.out, hE⟩
end Go.Proofs.YtggggnjibedgaaaGreat
/- leadOn: all ways to lead, in one memory. -/
set_option linter.unusedSimpArgs false
set_option linter.unusedVariables false
namespace Go.Proofs.YtggggnjibedgaaaGreat
open Go.RowKit
attribute [local go_sem] Oper.semAt_some
/-- The memory of the guides so far. -/
def Buf (b Bf cap : Nat) (gs : List Nat) (W : World) : Prop := Ownl 3 1 gIn W b (.slice (some ⟨Bf, 0, none⟩) gs.length cap) (nI gs)
theorem Buf.split {b Bf cap : Nat} {gs : List Nat} {W : World} (h : Buf b Bf cap gs W) : ∃ cur : Array Value, b ≤ Bf ∧ W.heap[Bf]? = some (.cells cur 3 (0, 0)) ∧ gs.length ≤ cap ∧ cap ≤ maxLen ∧ cur.size = cap * 1 ∧ cur.toList.take (gs.length * 1) = (nI gs).flatMap gIn := by
  unfold Buf Ownl at h
  rw [nI_len] at h
  rcases h.2 with ⟨h2, _⟩ | ⟨q, c, cur, a1, a2, a3, a4, a5, a6, a7⟩
  · cases h2
  · cases a1
    exact ⟨cur, a2, a3, a4, a5, a6, a7⟩
theorem Buf.join {b Bf cap : Nat} {gs : List Nat} {W : World} (h : ∃ cur : Array Value, b ≤ Bf ∧ W.heap[Bf]? = some (.cells cur 3 (0, 0)) ∧ gs.length ≤ cap ∧ cap ≤ maxLen ∧ cur.size = cap * 1 ∧ cur.toList.take (gs.length * 1) = (nI gs).flatMap gIn) : Buf b Bf cap gs W := by
  obtain ⟨cur, a2, a3, a4, a5, a6, a7⟩ := h
  unfold Buf Ownl
  rw [nI_len]
  exact ⟨by rw [fm_len gIn 1 (fun _ => rfl), nI_len], .inr ⟨Bf, cap, cur, rfl, a2, a3, a4, a5, a6, a7⟩⟩
theorem Buf.front {b Bf cap : Nat} {gs hs : List Nat} {W : World} (h : Buf b Bf cap (gs ++ hs) W) : Buf b Bf cap gs W := by
  obtain ⟨cur, a2, a3, a4, a5, a6, a7⟩ := h.split
  rw [List.length_append] at a4 a7
  refine Buf.join ⟨cur, a2, a3, by omega, a5, a6, ?_⟩
  have e : gs.length * 1 = min (gs.length * 1) ((gs.length + hs.length) * 1) := by omega
  have hs2 : nI (gs ++ hs) = nI gs ++ nI hs := by unfold nI; simp
  rw [e, ← List.take_take, a7, hs2, List.flatMap_append]
  exact List.take_left' (by rw [fm_len gIn 1 (fun _ => rfl), nI_len])
theorem Buf.grown {b Bf cap : Nat} {gs : List Nat} {W W' : World} {row : Option Nat} (h : Buf b Bf cap gs W) (hg : W.grownBy W' row) (hne : row ≠ some Bf) : Buf b Bf cap gs W' :=
  Ownl.grown h hg (Or.inr (fun e => hne (by rw [← e]; rfl)))
theorem Buf.ints {b Bf cap : Nat} {gs : List Nat} {W : World} (h : Buf b Bf cap gs W) : IntsAt W (some ⟨Bf, 0, none⟩) (nI gs) := by
  unfold Buf at h
  rw [← nI_len gs] at h
  obtain ⟨A, c, e, _, hi⟩ := ownIn h
  cases e
  exact hi
theorem Buf.cells {b Bf cap : Nat} {gs : List Nat} {W : World} (h : Buf b Bf cap gs W) : ∃ cs, W.heap[Bf]? = some (.cells cs 3 (0, 0)) := Ownl.cellsOf h Bf rfl
/-- What lies from block S on stays, but for block B. -/
structure LKeep (S B : Nat) (W W' : World) : Prop where
  size : W.heap.size ≤ W'.heap.size
  blk : ∀ q t cs, S ≤ q → q ≠ B → Blk W q t cs → Blk W' q t cs
theorem LKeep.refl (S B : Nat) (W : World) : LKeep S B W W := ⟨Nat.le_refl _, fun _ _ _ _ _ h => h⟩
theorem LKeep.trans {S B : Nat} {W X Y : World} (h : LKeep S B W X) (k : LKeep S B X Y) : LKeep S B W Y := ⟨Nat.le_trans h.size k.size, fun q t cs hq hn hb => k.blk q t cs hq hn (h.blk q t cs hq hn hb)⟩
theorem LKeep.grown {S B : Nat} {W X : World} (hg : W.grownBy X (some B)) : LKeep S B W X := ⟨hg.size, fun q t cs _ hn hb => hb.grown hg (by simp; exact hn)⟩
theorem grown_none {W X : World} {B : Nat} (hg : W.grownBy X none) : W.grownBy X (some B) := ⟨hg.os, hg.tape, hg.output, hg.size, fun k hk _ => hg.block k hk (by simp)⟩
end Go.Proofs.YtggggnjibedgaaaGreat
