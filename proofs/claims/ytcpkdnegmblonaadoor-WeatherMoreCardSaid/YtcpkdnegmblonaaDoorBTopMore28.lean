/- An ease as an argument. -/
import Derived.Test.YtcpkdnegmblonaaDoorB21
import Derived.Test.YtcpkdnegmblonaaDoorBTopMore24
set_option linter.unusedSimpArgs false
set_option linter.unusedVariables false
namespace Go.Proofs.YtcpkdnegmblonaaDoor
open Go.RowKit
open Go.ChangeShapes Go.WideShapes Go.Deep Go.Joins
theorem array8 {α : Type} {cs : Array α} (h : cs.size = 8) : ∃ c0 c1 c2 c3 c4 c5 c6 c7, cs = #[c0, c1, c2, c3, c4, c5, c6, c7] := by
  obtain ⟨l⟩ := cs
  match l, h with
  | [c0, c1, c2, c3, c4, c5, c6, c7], _ => exact ⟨c0, c1, c2, c3, c4, c5, c6, c7, rfl⟩
theorem cellsEase : Tryd.prog.cellsOf 68 = 8 := by kernel_rfl
section
variable {H : Type} {enc : TypeId × Value → H} {w : World} {base : Nat} {spare : Nat → Bool} {held : Bool}
set_option maxRecDepth 100000 in
theorem open_ease {r : Reach} {b0 : Nat} {v : Value} {d : DataW H} {p : List MemPlace} (hv : Value.okWide Tryd.prog w r b0 68 v) (h : DataW.Trod enc Tryd.prog w base spare held 68 v d p) :
    ∃ y : Es, v = .agg (esCells y) ∧ (Lit.int .i64 y.hour).wf = true := by
  obtain ⟨cs, rfl, hsz⟩ := okWide_struct Tryd.underlying68 hv
  obtain ⟨c0, c1, c2, c3, c4, c5, c6, c7, rfl⟩ := array8 (hsz.trans cellsEase)
  obtain ⟨fuel, hf0⟩ := h
  obtain ⟨ys, n', hn', hy, hlen, hyl, hf⟩ := DataW.trod_struct Tryd.underlying68 hf0
  obtain ⟨y0, h0, _⟩ := field_of hyl hf 0 rfl (t := 66) (o := 0) rfl rfl cellsSight
  obtain ⟨y1, h1, _⟩ := field_of hyl hf 1 rfl (t := 3) (o := 4) rfl rfl cellsInt
  obtain ⟨y2, h2, _⟩ := field_of hyl hf 2 rfl (t := 3) (o := 5) rfl rfl cellsInt
  obtain ⟨y3, h3, _⟩ := field_of hyl hf 3 rfl (t := 3) (o := 6) rfl rfl cellsInt
  obtain ⟨y4, h4, _⟩ := field_of hyl hf 4 rfl (t := 3) (o := 7) rfl rfl cellsInt
  have h0' : DataW.trod enc Tryd.prog w base spare held n' 66 [c0, c1, c2, c3] = some y0 := h0
  have h1' : DataW.trod enc Tryd.prog w base spare held n' 3 [c4] = some y1 := h1
  have h2' : DataW.trod enc Tryd.prog w base spare held n' 3 [c5] = some y2 := h2
  have h3' : DataW.trod enc Tryd.prog w base spare held n' 3 [c6] = some y3 := h3
  have h4' : DataW.trod enc Tryd.prog w base spare held n' 3 [c7] = some y4 := h4
  obtain ⟨o, g0, hwf⟩ := open_sight h0'
  obtain ⟨a1, g1, -, -⟩ := DataW.trod_int Tryd.underlying3 h1'
  obtain ⟨a2, g2, -, -⟩ := DataW.trod_int Tryd.underlying3 h2'
  obtain ⟨a3, g3, -, -⟩ := DataW.trod_int Tryd.underlying3 h3'
  obtain ⟨a4, g4, -, -⟩ := DataW.trod_int Tryd.underlying3 h4'
  simp only [List.cons.injEq, and_true] at g0 g1 g2 g3 g4
  obtain ⟨g0, g5, g6, g7⟩ := g0
  subst g0 g1 g2 g3 g4 g5 g6 g7
  exact ⟨⟨o.hour, o.wind, o.rain, o.temp, a1, a2, a3, a4⟩, rfl, hwf⟩
end
end Go.Proofs.YtcpkdnegmblonaaDoor
