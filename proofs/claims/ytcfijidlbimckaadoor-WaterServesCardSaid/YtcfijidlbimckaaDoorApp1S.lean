/- append of one sample, as one operation of a region. -/
import Derived.Test.YtcfijidlbimckaaDoorCpyO2
set_option linter.unusedSimpArgs false
set_option linter.unusedVariables false
namespace Go.Proofs.YtcfijidlbimckaaDoor
open Go.RowKit
/-- append of one sample to a row of one's own, as one operation of a region. -/
theorem wp_app1S {o : Oper} {a : Act} {K : Act → World → Prop} {Q : Exit → Act → World → Prop} (w : World) (s x : Operand)
    (hop : o.op = Op.call { callee := Callee.builtin Builtin.append, args := #[s, x], argTypes := #[23, 23] }) (B : Nat) (v : Value) (xs : List Smp) (hs : a.eval s = v) (hown : OwnS w B v xs)
    (ad : Addr) (y : Smp) (hx : a.eval x = .slice (some ad) 1 1) (hy : ∀ j u, (gSmp y)[j]? = some u → w.cell? (ad.add j) = some u) (hl : xs.length ≤ 1000) (hB : B ≤ w.heap.size)
    (hK : ∀ v' w', OwnS w' B v' (xs ++ [y]) → w.grownBy w' v.ownBlock → K (a.put o.dst v') w') : o.wp Tryd.prog a w K Q := by
  obtain ⟨i0, hi, hz0, hz1, hz2⟩ := info_parts infoSmp
  refine wp_append_own w s x 23 hop B 43 i0 zvSmp 2 16 Tryd.underlying23 hi hz0 hz1 hz2 rfl (by decide) v xs.length (cellsSmp xs) hs hown ad 1 1 (gSmp y) hx rfl hy (by intro u hu; simp only [gSmp, List.mem_cons, List.not_mem_nil, or_false] at hu; rcases hu with rfl | rfl <;> rfl) (by unfold maxLen; omega) (by omega) hB (fun v' w' h1 h2 _ => hK v' w' ?_ h2)
  unfold OwnS
  rw [cellsSmp_snoc, List.length_append]
  exact h1
theorem OwnS.low {w : World} {B B' : Nat} {v : Value} {xs : List Smp} (h : OwnS w B v xs) (hB : B' ≤ B) : OwnS w B' v xs := by
  obtain ⟨h1, h2⟩ := h
  refine ⟨h1, ?_⟩
  rcases h2 with h2 | ⟨g, cap, cur, a1, a2, a3⟩
  · exact .inl h2
  · exact .inr ⟨g, cap, cur, a1, Nat.le_trans hB a2, a3⟩
end Go.Proofs.YtcfijidlbimckaaDoor
