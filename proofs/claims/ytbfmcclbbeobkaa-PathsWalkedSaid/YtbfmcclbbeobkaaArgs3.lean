/- A slice of numbers as an argument. -/
import Derived.Test.YtbfmcclbbeobkaaArgs2
set_option linter.unusedSimpArgs false
set_option linter.unusedVariables false
namespace Go.Proofs.Ytbfmcclbbeobkaa
open Go.RowKit
open Go.ChangeShapes Go.WideShapes Go.Deep Go.Joins
section
variable {H : Type} {enc : TypeId × Value → H} {w : World} {base : Nat} {spare : Nat → Bool} {held : Bool}
set_option maxRecDepth 100000 in
theorem open_arg_ints {r : Reach} {b0 : Nat} {v : Value} {d : DataW H} {p : List MemPlace} (hv : Value.okWide Try.prog w r b0 29 v) (h : DataW.Trod enc Try.prog w base spare held 29 v d p) :
    ∃ A xs c, v = .slice A xs.length c ∧ xs.length ≤ 9223372036854775807 ∧ IntsAt w A xs := by
  obtain ⟨a, len, cap, rfl⟩ := okWide_slice Try.underlying29 hv
  obtain ⟨fuel, hf⟩ := h
  obtain ⟨A, xs, c, e, hm, hi⟩ := open_ints hf
  have e' : [Value.slice a len cap] = [Value.slice A xs.length c] := e
  simp only [List.cons.injEq, and_true] at e'
  exact ⟨A, xs, c, e', hm, hi⟩
end
end Go.Proofs.Ytbfmcclbbeobkaa
