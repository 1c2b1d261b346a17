/- Slices of numbers and of sets that grow by append. -/
import Derived.Test.YtcfijidlbimckaaDoorHeld
import Derived.Laws.AppendOwn
set_option linter.unusedSimpArgs false
set_option linter.unusedVariables false
namespace Go.Proofs.YtcfijidlbimckaaDoor
open Go.RowKit
theorem infoU : (Tryd.prog.info? 76).map (fun i => (i.zero, i.size, i.bytes)) = some (some (.int .u64 0), 1, 8) := by kernel_rfl
def valsU (xs : List Nat) : List Value := xs.map fun (x : Nat) => Value.int .u64 x
theorem valsU_at (xs : List Nat) (k : Nat) (h : k < xs.length) : (valsU xs)[k]? = some (.int .u64 (xs.getD k 0 : Nat)) := by
  simp [valsU, List.getD, List.getElem?_eq_getElem h]
def OwnU (w : World) (B : Nat) (v : Value) (xs : List Nat) : Prop := w.ownsRow B 76 1 v xs.length (valsU xs)
theorem OwnU.nil (w : World) (B : Nat) : OwnU w B (.slice none 0 0) [] := ⟨rfl, .inl ⟨rfl, rfl⟩⟩
theorem OwnU.keep {w w' : World} {B : Nat} {v : Value} {xs : List Nat} (h : OwnU w B v xs) (hk : ∀ (q : Nat) (cs : Array Value), v.ownBlock = some q → w.heap[q]? = some (.cells cs 76 (0, 0)) → w'.heap[q]? = some (.cells cs 76 (0, 0))) : OwnU w' B v xs := by
  obtain ⟨h1, h2⟩ := h
  refine ⟨h1, ?_⟩
  rcases h2 with h2 | ⟨g, cap, cur, a1, a2, a3, a4⟩
  · exact .inl h2
  · exact .inr ⟨g, cap, cur, a1, a2, hk _ _ (by rw [a1]; rfl) a3, a4⟩
theorem OwnU.ext {w w' : World} {B : Nat} {v : Value} {xs : List Nat} (h : OwnU w B v xs) (e : Ext w w') : OwnU w' B v xs := h.keep fun _ _ _ ho => blk_ext ho e
theorem OwnU.own {w w' : World} {B C : Nat} {v : Value} {xs : List Nat} {row : Option Nat} (h : OwnU w B v xs) (hg : w.grownBy w' row) (hr : ∀ r, row = some r → C ≤ r ∧ ∃ o : Obj, w.heap[r]? = some o ∧ o.isCells = false) : OwnU w' B v xs := h.keep fun _ _ _ ho => own_cells ho hg hr
theorem OwnU.putObj {w : World} {B D : Nat} {v : Value} {xs : List Nat} (h : OwnU w B v xs) {o : Obj} (ho : w.heap[D]? = some o) (hc : o.isCells = false) (o' : Obj) : OwnU (w.putObj D o') B v xs := h.keep fun q cs _ hq => (World.putObj_heap_other (fun e => by
  subst e
  rw [hq] at ho
  injection ho with ho
  subst ho
  cases hc)).trans hq
theorem OwnU.block {w : World} {B : Nat} {v : Value} {xs : List Nat} (h : OwnU w B v xs) : ∀ q, v.ownBlock = some q → B ≤ q := by
  intro q hq
  rcases h.2 with ⟨h2, _⟩ | ⟨g, cap, cur, a1, a2, _⟩
  · rw [h2] at hq; cases hq
  · rw [a1] at hq
    cases hq
    exact a2
theorem OwnU.blk {w : World} {B : Nat} {v : Value} {xs : List Nat} (h : OwnU w B v xs) : ∀ q, v.ownBlock = some q → ∃ cs, w.heap[q]? = some (.cells cs 76 (0, 0)) := by
  intro q hq
  rcases h.2 with ⟨h2, _⟩ | ⟨g, cap, cur, a1, a2, a3, _⟩
  · rw [h2] at hq; cases hq
  · rw [a1] at hq
    cases hq
    exact ⟨_, a3⟩
theorem OwnU.other {w : World} {B : Nat} {v : Value} {xs : List Nat} (h : OwnU w B v xs) {p : Addr} (hp : p.block < B) (u : Value) : OwnU (w.setCell p u) B v xs :=
  h.keep fun q cs hq ho => (Below.heap_setCell w p u q (by have := h.block q hq; omega)).trans ho
theorem OwnU.low {w : World} {B B' : Nat} {v : Value} {xs : List Nat} (h : OwnU w B v xs) (hB : B' ≤ B) : OwnU w B' v xs := by
  obtain ⟨h1, h2⟩ := h
  refine ⟨h1, ?_⟩
  rcases h2 with h2 | ⟨g, cap, cur, a1, a2, a3⟩
  · exact .inl h2
  · exact .inr ⟨g, cap, cur, a1, Nat.le_trans hB a2, a3⟩
theorem OwnU.form {w : World} {B : Nat} {v : Value} {xs : List Nat} (h : OwnU w B v xs) : ∃ A c, v = .slice A xs.length c ∧ SetsAt w A xs := by
  rcases h.2 with ⟨h2, h0⟩ | ⟨g, cap, cur, a1, a2, a3, a4⟩
  · have hx : xs = [] := List.length_eq_zero_iff.1 h0
    subst hx
    exact ⟨_, _, h2, fun hne => absurd rfl hne⟩
  · refine ⟨_, _, a1, fun hne => ⟨g, 0, rfl, (Array.getElem?_eq_some_iff.1 a3).1, fun k hk => ?_⟩⟩
    have h' := h
    unfold OwnU at h'
    rw [a1] at h'
    have hc := h'.cellAt k (by omega)
    rw [valsU_at xs k hk] at hc
    rw [Nat.zero_add]
    exact hc
theorem OwnU.keeps {W w5 : World} {B C : Nat} {v : Value} {xs : List Nat} {o : Obj} (h : OwnU W B v xs) (hg : (W.alloc o).grownBy w5 v.ownBlock) : KeepsFrom C W w5 :=
  ((KeepsOthers.alloc W o).trans (KeepsOthers.of_grownBy hg fun j o' ej hj => by
    obtain ⟨cs, hcs⟩ := h.blk j ej
    have hj' := (blk_old hcs o).symm.trans hj
    injection hj' with hj'
    subst hj'
    rfl)).from C
theorem OwnU.extApp {w W w5 : World} {B : Nat} {v : Value} {xs : List Nat} {o : Obj} (h : OwnU W B v xs) (e : Ext w W) (hB : w.heap.size ≤ B) (hg : (W.alloc o).grownBy w5 v.ownBlock) : Ext w w5 :=
  Below.grown (e.alloc o) hg (e.alloc o).size (fun k ek => Nat.le_trans hB (h.block k ek))
theorem OwnU.blkApp {W w5 : World} {B b : Nat} {v : Value} {xs : List Nat} {o : Obj} {t : TypeId} {cs : Array Value} (h : OwnU W B v xs) (hb : Blk W b t cs) (hB : b < B) (hg : (W.alloc o).grownBy w5 v.ownBlock) : Blk w5 b t cs :=
  (hb.alloc o).grown hg (fun e => by have := h.block b e.symm; omega)
theorem OwnU.snoc {w : World} {B : Nat} {v : Value} {xs : List Nat} {y : Nat} (h : w.ownsRow B 76 1 v (xs.length + 1) (valsU xs ++ [.int .u64 y])) : OwnU w B v (xs ++ [y]) := by
  unfold OwnU
  have e1 : (xs ++ [y]).length = xs.length + 1 := by simp
  have e2 : valsU (xs ++ [y]) = valsU xs ++ [.int .u64 y] := by simp [valsU]
  rw [e1, e2]
  exact h
theorem appInU {F : Fence} {n : Nat} {ops : Array Oper} {rest : List Oper} {o : Oper} {a : Act} {Q : Exit → Act → World → Prop} (w : World) (hg : o.guard = none) (s x : Operand)
    (hop : o.op = Op.call { callee := Callee.builtin Builtin.append, args := #[s, x], argTypes := #[70, 70] }) (B : Nat) (v : Value) (xs : List Nat) (hs : a.eval s = v) (hown : OwnU w B v xs)
    (ad : Addr) (y : Nat) (hx : a.eval x = .slice (some ad) 1 1) (hy : w.cell? ad = some (.int .u64 y)) (hl : xs.length ≤ 1000) (hB : B ≤ w.heap.size)
    (hK : ∀ v' w', OwnU w' B v' (xs ++ [y]) → w.grownBy w' v.ownBlock → wpListIn F n Tryd.prog ops Q rest (a.put o.dst v') w') : wpListIn F n Tryd.prog ops Q (o :: rest) a w := by
  obtain ⟨i0, hi, hz0, hz1, hz2⟩ := info_parts infoU
  refine wpListIn_append_own w hg s x 70 hop B 76 i0 (.int .u64 0) 1 8 Tryd.underlying70 hi hz0 hz1 hz2 rfl (by decide) v xs.length (valsU xs) hs hown ad 1 1 [.int .u64 y] hx rfl (fun j u hj => ?_) (by simp [Value.oneCell']) (by unfold maxLen; omega) (by omega) hB (fun v' w' h1 h2 _ => hK v' w' (OwnU.snoc h1) h2)
  cases j with
  | zero =>
    obtain rfl : Value.int .u64 y = u := by simpa using hj
    simpa [Addr.add] using hy
  | succ j => simp at hj
theorem appU {ops : Array Oper} {rest : List Oper} {o : Oper} {a : Act} {Q : Exit → Act → World → Prop} (w : World) (hg : o.guard = none) (s x : Operand)
    (hop : o.op = Op.call { callee := Callee.builtin Builtin.append, args := #[s, x], argTypes := #[70, 70] }) (B : Nat) (v : Value) (xs : List Nat) (hs : a.eval s = v) (hown : OwnU w B v xs)
    (ad : Addr) (y : Nat) (hx : a.eval x = .slice (some ad) 1 1) (hy : w.cell? ad = some (.int .u64 y)) (hl : xs.length ≤ 1000) (hB : B ≤ w.heap.size)
    (hK : ∀ v' w', OwnU w' B v' (xs ++ [y]) → w.grownBy w' v.ownBlock → wpList Tryd.prog ops Q rest (a.put o.dst v') w') : wpList Tryd.prog ops Q (o :: rest) a w := by
  obtain ⟨i0, hi, hz0, hz1, hz2⟩ := info_parts infoU
  refine wpList_append_own w hg s x 70 hop B 76 i0 (.int .u64 0) 1 8 Tryd.underlying70 hi hz0 hz1 hz2 rfl (by decide) v xs.length (valsU xs) hs hown ad 1 1 [.int .u64 y] hx rfl (fun j u hj => ?_) (by simp [Value.oneCell']) (by unfold maxLen; omega) (by omega) hB (fun v' w' h1 h2 _ => hK v' w' (OwnU.snoc h1) h2)
  cases j with
  | zero =>
    obtain rfl : Value.int .u64 y = u := by simpa using hj
    simpa [Addr.add] using hy
  | succ j => simp at hj
theorem infoI : (Tryd.prog.info? 3).map (fun i => (i.zero, i.size, i.bytes)) = some (some (.int .i64 0), 1, 8) := by kernel_rfl
def valsI (xs : List Int) : List Value := xs.map fun (x : Int) => Value.int .i64 x
theorem valsI_at (xs : List Int) (k : Nat) (h : k < xs.length) : (valsI xs)[k]? = some (.int .i64 (xs.getD k 0 : Int)) := by
  simp [valsI, List.getD, List.getElem?_eq_getElem h]
def OwnI (w : World) (B : Nat) (v : Value) (xs : List Int) : Prop := w.ownsRow B 3 1 v xs.length (valsI xs)
theorem OwnI.nil (w : World) (B : Nat) : OwnI w B (.slice none 0 0) [] := ⟨rfl, .inl ⟨rfl, rfl⟩⟩
theorem OwnI.keep {w w' : World} {B : Nat} {v : Value} {xs : List Int} (h : OwnI w B v xs) (hk : ∀ (q : Nat) (cs : Array Value), v.ownBlock = some q → w.heap[q]? = some (.cells cs 3 (0, 0)) → w'.heap[q]? = some (.cells cs 3 (0, 0))) : OwnI w' B v xs := by
  obtain ⟨h1, h2⟩ := h
  refine ⟨h1, ?_⟩
  rcases h2 with h2 | ⟨g, cap, cur, a1, a2, a3, a4⟩
  · exact .inl h2
  · exact .inr ⟨g, cap, cur, a1, a2, hk _ _ (by rw [a1]; rfl) a3, a4⟩
theorem OwnI.ext {w w' : World} {B : Nat} {v : Value} {xs : List Int} (h : OwnI w B v xs) (e : Ext w w') : OwnI w' B v xs := h.keep fun _ _ _ ho => blk_ext ho e
theorem OwnI.own {w w' : World} {B C : Nat} {v : Value} {xs : List Int} {row : Option Nat} (h : OwnI w B v xs) (hg : w.grownBy w' row) (hr : ∀ r, row = some r → C ≤ r ∧ ∃ o : Obj, w.heap[r]? = some o ∧ o.isCells = false) : OwnI w' B v xs := h.keep fun _ _ _ ho => own_cells ho hg hr
theorem OwnI.putObj {w : World} {B D : Nat} {v : Value} {xs : List Int} (h : OwnI w B v xs) {o : Obj} (ho : w.heap[D]? = some o) (hc : o.isCells = false) (o' : Obj) : OwnI (w.putObj D o') B v xs := h.keep fun q cs _ hq => (World.putObj_heap_other (fun e => by
  subst e
  rw [hq] at ho
  injection ho with ho
  subst ho
  cases hc)).trans hq
theorem OwnI.block {w : World} {B : Nat} {v : Value} {xs : List Int} (h : OwnI w B v xs) : ∀ q, v.ownBlock = some q → B ≤ q := by
  intro q hq
  rcases h.2 with ⟨h2, _⟩ | ⟨g, cap, cur, a1, a2, _⟩
  · rw [h2] at hq; cases hq
  · rw [a1] at hq
    cases hq
    exact a2
theorem OwnI.blk {w : World} {B : Nat} {v : Value} {xs : List Int} (h : OwnI w B v xs) : ∀ q, v.ownBlock = some q → ∃ cs, w.heap[q]? = some (.cells cs 3 (0, 0)) := by
  intro q hq
  rcases h.2 with ⟨h2, _⟩ | ⟨g, cap, cur, a1, a2, a3, _⟩
  · rw [h2] at hq; cases hq
  · rw [a1] at hq
    cases hq
    exact ⟨_, a3⟩
theorem OwnI.other {w : World} {B : Nat} {v : Value} {xs : List Int} (h : OwnI w B v xs) {p : Addr} (hp : p.block < B) (u : Value) : OwnI (w.setCell p u) B v xs :=
  h.keep fun q cs hq ho => (Below.heap_setCell w p u q (by have := h.block q hq; omega)).trans ho
theorem OwnI.low {w : World} {B B' : Nat} {v : Value} {xs : List Int} (h : OwnI w B v xs) (hB : B' ≤ B) : OwnI w B' v xs := by
  obtain ⟨h1, h2⟩ := h
  refine ⟨h1, ?_⟩
  rcases h2 with h2 | ⟨g, cap, cur, a1, a2, a3⟩
  · exact .inl h2
  · exact .inr ⟨g, cap, cur, a1, Nat.le_trans hB a2, a3⟩
theorem OwnI.form {w : World} {B : Nat} {v : Value} {xs : List Int} (h : OwnI w B v xs) : ∃ A c, v = .slice A xs.length c ∧ IntsAt w A xs := by
  rcases h.2 with ⟨h2, h0⟩ | ⟨g, cap, cur, a1, a2, a3, a4⟩
  · have hx : xs = [] := List.length_eq_zero_iff.1 h0
    subst hx
    exact ⟨_, _, h2, fun hne => absurd rfl hne⟩
  · refine ⟨_, _, a1, fun hne => ⟨g, 0, rfl, (Array.getElem?_eq_some_iff.1 a3).1, fun k hk => ?_⟩⟩
    have h' := h
    unfold OwnI at h'
    rw [a1] at h'
    have hc := h'.cellAt k (by omega)
    rw [valsI_at xs k hk] at hc
    rw [Nat.zero_add]
    exact hc
theorem OwnI.keeps {W w5 : World} {B C : Nat} {v : Value} {xs : List Int} {o : Obj} (h : OwnI W B v xs) (hg : (W.alloc o).grownBy w5 v.ownBlock) : KeepsFrom C W w5 :=
  ((KeepsOthers.alloc W o).trans (KeepsOthers.of_grownBy hg fun j o' ej hj => by
    obtain ⟨cs, hcs⟩ := h.blk j ej
    have hj' := (blk_old hcs o).symm.trans hj
    injection hj' with hj'
    subst hj'
    rfl)).from C
theorem OwnI.extApp {w W w5 : World} {B : Nat} {v : Value} {xs : List Int} {o : Obj} (h : OwnI W B v xs) (e : Ext w W) (hB : w.heap.size ≤ B) (hg : (W.alloc o).grownBy w5 v.ownBlock) : Ext w w5 :=
  Below.grown (e.alloc o) hg (e.alloc o).size (fun k ek => Nat.le_trans hB (h.block k ek))
theorem OwnI.blkApp {W w5 : World} {B b : Nat} {v : Value} {xs : List Int} {o : Obj} {t : TypeId} {cs : Array Value} (h : OwnI W B v xs) (hb : Blk W b t cs) (hB : b < B) (hg : (W.alloc o).grownBy w5 v.ownBlock) : Blk w5 b t cs :=
  (hb.alloc o).grown hg (fun e => by have := h.block b e.symm; omega)
theorem OwnI.snoc {w : World} {B : Nat} {v : Value} {xs : List Int} {y : Int} (h : w.ownsRow B 3 1 v (xs.length + 1) (valsI xs ++ [.int .i64 y])) : OwnI w B v (xs ++ [y]) := by
  unfold OwnI
  have e1 : (xs ++ [y]).length = xs.length + 1 := by simp
  have e2 : valsI (xs ++ [y]) = valsI xs ++ [.int .i64 y] := by simp [valsI]
  rw [e1, e2]
  exact h
theorem appInI {F : Fence} {n : Nat} {ops : Array Oper} {rest : List Oper} {o : Oper} {a : Act} {Q : Exit → Act → World → Prop} (w : World) (hg : o.guard = none) (s x : Operand)
    (hop : o.op = Op.call { callee := Callee.builtin Builtin.append, args := #[s, x], argTypes := #[29, 29] }) (B : Nat) (v : Value) (xs : List Int) (hs : a.eval s = v) (hown : OwnI w B v xs)
    (ad : Addr) (y : Int) (hx : a.eval x = .slice (some ad) 1 1) (hy : w.cell? ad = some (.int .i64 y)) (hl : xs.length ≤ 1000) (hB : B ≤ w.heap.size)
    (hK : ∀ v' w', OwnI w' B v' (xs ++ [y]) → w.grownBy w' v.ownBlock → wpListIn F n Tryd.prog ops Q rest (a.put o.dst v') w') : wpListIn F n Tryd.prog ops Q (o :: rest) a w := by
  obtain ⟨i0, hi, hz0, hz1, hz2⟩ := info_parts infoI
  refine wpListIn_append_own w hg s x 29 hop B 3 i0 (.int .i64 0) 1 8 Tryd.underlying29 hi hz0 hz1 hz2 rfl (by decide) v xs.length (valsI xs) hs hown ad 1 1 [.int .i64 y] hx rfl (fun j u hj => ?_) (by simp [Value.oneCell']) (by unfold maxLen; omega) (by omega) hB (fun v' w' h1 h2 _ => hK v' w' (OwnI.snoc h1) h2)
  cases j with
  | zero =>
    obtain rfl : Value.int .i64 y = u := by simpa using hj
    simpa [Addr.add] using hy
  | succ j => simp at hj
theorem appI {ops : Array Oper} {rest : List Oper} {o : Oper} {a : Act} {Q : Exit → Act → World → Prop} (w : World) (hg : o.guard = none) (s x : Operand)
    (hop : o.op = Op.call { callee := Callee.builtin Builtin.append, args := #[s, x], argTypes := #[29, 29] }) (B : Nat) (v : Value) (xs : List Int) (hs : a.eval s = v) (hown : OwnI w B v xs)
    (ad : Addr) (y : Int) (hx : a.eval x = .slice (some ad) 1 1) (hy : w.cell? ad = some (.int .i64 y)) (hl : xs.length ≤ 1000) (hB : B ≤ w.heap.size)
    (hK : ∀ v' w', OwnI w' B v' (xs ++ [y]) → w.grownBy w' v.ownBlock → wpList Tryd.prog ops Q rest (a.put o.dst v') w') : wpList Tryd.prog ops Q (o :: rest) a w := by
  obtain ⟨i0, hi, hz0, hz1, hz2⟩ := info_parts infoI
  refine wpList_append_own w hg s x 29 hop B 3 i0 (.int .i64 0) 1 8 Tryd.underlying29 hi hz0 hz1 hz2 rfl (by decide) v xs.length (valsI xs) hs hown ad 1 1 [.int .i64 y] hx rfl (fun j u hj => ?_) (by simp [Value.oneCell']) (by unfold maxLen; omega) (by omega) hB (fun v' w' h1 h2 _ => hK v' w' (OwnI.snoc h1) h2)
  cases j with
  | zero =>
    obtain rfl : Value.int .i64 y = u := by simpa using hj
    simpa [Addr.add] using hy
  | succ j => simp at hj
end Go.Proofs.YtcfijidlbimckaaDoor
