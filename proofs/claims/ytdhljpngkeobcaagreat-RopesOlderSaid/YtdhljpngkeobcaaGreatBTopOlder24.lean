/- A day and one more fall as an argument: opened to its cells. -/
import Derived.Test.YtdhljpngkeobcaaGreatB20
set_option linter.unusedSimpArgs false
set_option linter.unusedVariables false
namespace Go.Proofs.YtdhljpngkeobcaaGreat
open Go.RowKit
open Go.ChangeShapes Go.WideShapes Go.Deep Go.Joins
theorem cellsLater : Tryz.prog.cellsOf 77 = 6 := by kernel_rfl
theorem array6 {α : Type} {cs : Array α} (h : cs.size = 6) : ∃ c0 c1 c2 c3 c4 c5, cs = #[c0, c1, c2, c3, c4, c5] := by
  obtain ⟨l⟩ := cs
  match l, h with
  | [c0, c1, c2, c3, c4, c5], _ => exact ⟨c0, c1, c2, c3, c4, c5, rfl⟩
section
variable {H : Type} {enc : TypeId × Value → H} {w : World} {base : Nat} {spare : Nat → Bool} {held : Bool}
set_option maxRecDepth 100000 in
theorem open_later {r : Reach} {b0 : Nat} {v : Value} {d : DataW H} {p : List MemPlace} (hv : Value.okWide Tryz.prog w r b0 77 v) (h : DataW.Trod enc Tryz.prog w base spare held 77 v d p) :
    ∃ (D : Int) (f : Fl), v = .agg #[.int .i64 D, .int .i64 f.day, .int .i64 f.hl, .int .i64 f.hh, .int .i64 f.ol, .int .i64 f.oh] := by
  obtain ⟨cs, rfl, hsz⟩ := okWide_struct Tryz.underlying77 hv
  obtain ⟨c0, c1, c2, c3, c4, c5, rfl⟩ := array6 (hsz.trans cellsLater)
  obtain ⟨fuel, hf0⟩ := h
  obtain ⟨ys, n', hn', hy, hlen, hyl, hf⟩ := DataW.trod_struct Tryz.underlying77 hf0
  obtain ⟨y0, h0, _⟩ := field_of hyl hf 0 rfl (t := 3) (o := 0) rfl rfl cellsInt
  obtain ⟨y1, h1, _⟩ := field_of hyl hf 1 rfl (t := 75) (o := 1) rfl rfl cellsFall
  have h0' : DataW.trod enc Tryz.prog w base spare held n' 3 [c0] = some y0 := h0
  have h1' : DataW.trod enc Tryz.prog w base spare held n' 75 [c1, c2, c3, c4, c5] = some y1 := h1
  obtain ⟨a0, g0, _, _⟩ := DataW.trod_int Tryz.underlying3 h0'
  obtain ⟨f, g1⟩ := open_fall h1'
  simp only [List.cons.injEq, and_true] at g0 g1
  obtain ⟨g1, g2, g3, g4, g5⟩ := g1
  subst g0 g1 g2 g3 g4 g5
  exact ⟨a0, f, rfl⟩
end
end Go.Proofs.YtdhljpngkeobcaaGreat
