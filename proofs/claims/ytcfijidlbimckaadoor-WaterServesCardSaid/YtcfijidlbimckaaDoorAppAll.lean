/- append of many numbers to a row of one's own, as one operation of a region. -/
import Derived.Test.YtcfijidlbimckaaDoorRCle
set_option linter.unusedSimpArgs false
set_option linter.unusedVariables false
namespace Go.Proofs.YtcfijidlbimckaaDoor
open Go.RowKit
set_option maxRecDepth 100000 in
theorem wp_appAllI {o : Oper} {a : Act} {K : Act → World → Prop} {Q : Exit → Act → World → Prop} (w : World) (s x : Operand)
    (hop : o.op = Op.call { callee := Callee.builtin Builtin.append, args := #[s, x], argTypes := #[29, 29] }) (B : Nat) (v : Value) (xs ys : List Int) (hs : a.eval s = v) (hown : OwnI w B v xs)
    (g off c : Nat) (hx : a.eval x = .slice (some ⟨g, off, none⟩) ys.length c) (hy : ∀ k, k < ys.length → w.cell? ⟨g, off + k, none⟩ = some (.int .i64 (ys.getD k 0))) (hl : xs.length ≤ 1000) (hl2 : ys.length ≤ 1000) (hB : B ≤ w.heap.size)
    (hK : ∀ v' w', OwnI w' B v' (xs ++ ys) → w.grownBy w' v.ownBlock → K (a.put o.dst v') w') : o.wp Tryd.prog a w K Q := by
  obtain ⟨i0, hi, hz0, hz1, hz2⟩ := info_parts infoI
  refine wp_append_own w s x 29 hop B 3 i0 (.int .i64 0) 1 8 Tryd.underlying29 hi hz0 hz1 hz2 rfl (by decide) v xs.length (valsI xs) hs hown ⟨g, off, none⟩ ys.length c (valsI ys) hx (by unfold valsI; rw [List.length_map]; omega) (fun j u hj => ?_) (fun u hu => ?_) (by unfold maxLen; omega) (by omega) hB (fun v' w' h1 h2 _ => hK v' w' ?_ h2)
  · have hjl : j < ys.length := by
      have := (List.getElem?_eq_some_iff.1 hj).1
      unfold valsI at this
      rwa [List.length_map] at this
    rw [valsI_at ys j hjl] at hj
    injection hj with hj
    subst hj
    have h := hy j hjl
    cases j with
    | zero => exact h
    | succ j => exact h
  · unfold valsI at hu
    obtain ⟨z, _, rfl⟩ := List.mem_map.1 hu
    rfl
  · unfold OwnI
    have e : valsI (xs ++ ys) = valsI xs ++ valsI ys := by unfold valsI; rw [List.map_append]
    rw [List.length_append, e]
    exact h1
end Go.Proofs.YtcfijidlbimckaaDoor
