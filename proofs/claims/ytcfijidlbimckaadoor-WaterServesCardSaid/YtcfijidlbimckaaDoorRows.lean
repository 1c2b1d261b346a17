/-
  NARROWER THAN 'FOR EVERY INPUT', by the rows' own cells (each row's printed sentence says how): WaterServed: laid · WaterMore: laid · WaterNamed: laid · WaterEnough: laid · WaterBest: laid · WaterSettled: laid · WaterTruths: laid · WaterServes: laid · WaterTests: laid.
  DERIVED. THE GIVEN ROWS OF THIS SEAT. 9 by the template 'for every input the law returns true; each argument reads behind the call as it read before'; 0 by the template 'total and deterministic' (their statements: YtcfijidlbimckaaDoorTotals.lean).
  GIVEN WITH THE SEED: the statements are not yours to turn. If you find one false, say at which input.
  Laid BY PROGRAM, IN A SANDBOX (cutbox-rows.mjs): the forced cells as the released guide's own fill.sh prints them over the translation 1aa3d892e357d1aa… (all of the seat's roots in one cut). By AI agents, Wed Nov 11 2026. No macro, syntax, notation, axiom, sorry.
-/
import Derived.Test.YtcfijidlbimckaaDoorChecked
import GoSem.Claim
import GoSem.ClaimJoined
import GoSem.ClaimMapViews
import Derived.JoinedTies
import Derived.KernelRfl
namespace Go.Proofs.YtcfijidlbimckaaDoor
/- THE CELL 'sum', in the pinned program and in every row, IS THE sha256 OF THE DUMP (.gsa) THAT YtcfijidlbimckaaDoorProg.lean LOADS. Nothing in Lean hashes anything: it is a label: what it is worth is what the hold of that sum in a sandbox is worth. -/
noncomputable def Tryd.pinned : Pinned := { name := "ytcfijidlbimckaadoor", sum := "1aa3d892e357d1aa883771048eaa8a712cae6f25b70f87a36c99443e11f91300", checked := Tryd.checked }
namespace Rows
def none {H : Type} : Left H := { results := [], args := [] }

/- WHAT THE LISTED PACKAGE-LEVEL VARIABLES READ AS WHEN THE CALL BEGINS. Each datum BY PROGRAM (the guide's laid-datum.mjs) off the statement by which the dump's own 'gosem.cut.vars' lays the variable. In a bare row this is a premise. The card (YtcfijidlbimckaaDoorCards.lean) ties it to the program's text. -/
def laid_math_bits_deBruijn32tab {H : Type} : DataW H := .agg [.lit (.int .u8 0), .lit (.int .u8 1), .lit (.int .u8 28), .lit (.int .u8 2), .lit (.int .u8 29), .lit (.int .u8 14), .lit (.int .u8 24), .lit (.int .u8 3), .lit (.int .u8 30), .lit (.int .u8 22), .lit (.int .u8 20), .lit (.int .u8 15), .lit (.int .u8 25), .lit (.int .u8 17), .lit (.int .u8 4), .lit (.int .u8 8), .lit (.int .u8 31), .lit (.int .u8 27), .lit (.int .u8 13), .lit (.int .u8 23), .lit (.int .u8 21), .lit (.int .u8 19), .lit (.int .u8 16), .lit (.int .u8 7), .lit (.int .u8 26), .lit (.int .u8 12), .lit (.int .u8 18), .lit (.int .u8 6), .lit (.int .u8 11), .lit (.int .u8 5), .lit (.int .u8 10), .lit (.int .u8 9)]
def laid_math_bits_deBruijn64tab {H : Type} : DataW H := .agg [.lit (.int .u8 0), .lit (.int .u8 1), .lit (.int .u8 56), .lit (.int .u8 2), .lit (.int .u8 57), .lit (.int .u8 49), .lit (.int .u8 28), .lit (.int .u8 3), .lit (.int .u8 61), .lit (.int .u8 58), .lit (.int .u8 42), .lit (.int .u8 50), .lit (.int .u8 38), .lit (.int .u8 29), .lit (.int .u8 17), .lit (.int .u8 4), .lit (.int .u8 62), .lit (.int .u8 47), .lit (.int .u8 59), .lit (.int .u8 36), .lit (.int .u8 45), .lit (.int .u8 43), .lit (.int .u8 51), .lit (.int .u8 22), .lit (.int .u8 53), .lit (.int .u8 39), .lit (.int .u8 33), .lit (.int .u8 30), .lit (.int .u8 24), .lit (.int .u8 18), .lit (.int .u8 12), .lit (.int .u8 5), .lit (.int .u8 63), .lit (.int .u8 55), .lit (.int .u8 48), .lit (.int .u8 27), .lit (.int .u8 60), .lit (.int .u8 41), .lit (.int .u8 37), .lit (.int .u8 16), .lit (.int .u8 46), .lit (.int .u8 35), .lit (.int .u8 44), .lit (.int .u8 21), .lit (.int .u8 52), .lit (.int .u8 32), .lit (.int .u8 23), .lit (.int .u8 11), .lit (.int .u8 54), .lit (.int .u8 26), .lit (.int .u8 40), .lit (.int .u8 15), .lit (.int .u8 34), .lit (.int .u8 20), .lit (.int .u8 31), .lit (.int .u8 10), .lit (.int .u8 25), .lit (.int .u8 14), .lit (.int .u8 19), .lit (.int .u8 9), .lit (.int .u8 13), .lit (.int .u8 8), .lit (.int .u8 7), .lit (.int .u8 6)]

/-- 'bivouaclaw04.WaterServed': WHATEVER THE INPUT: true; the input reads as it did. -/
def waterServedSpec : ChangeSpec := { name := "waterServed", fn := fun _ => fun
  | [d1, d2, d3] => { results := [.lit (.bool true)], args := [d1, d2, d3] }
  | _ => none }
def waterServedRow : OpenClaim := { program := "ytcfijidlbimckaadoor", sum := "1aa3d892e357d1aa883771048eaa8a712cae6f25b70f87a36c99443e11f91300", func := "bivouac/bivouaclaw04.WaterServed", spec := "waterServed", unfollowed := true, recurses := true, named := ["math/bits.deBruijn32tab", "math/bits.deBruijn64tab"], apart := false, laid := [("math/bits.deBruijn32tab", laid_math_bits_deBruijn32tab), ("math/bits.deBruijn64tab", laid_math_bits_deBruijn64tab)] }
def WaterServedSaid : Prop := waterServedRow.holds Tryd.pinned (OpenSpec.ofChange waterServedSpec)

/-- ITS FALSE NEIGHBOUR: 'it returns false'. Refute it at one input. -/
def waterServedWrong : ChangeSpec := { name := "waterServed", fn := fun _ => fun
  | [d1, d2, d3] => { results := [.lit (.bool false)], args := [d1, d2, d3] }
  | _ => none }
def WaterServedWrongFalsely : Prop := waterServedRow.holds Tryd.pinned (OpenSpec.ofChange waterServedWrong)

/-- 'bivouaclaw04.WaterMore': WHATEVER THE INPUT: true; the input reads as it did. -/
def waterMoreSpec : ChangeSpec := { name := "waterMore", fn := fun _ => fun
  | [d1, d2] => { results := [.lit (.bool true)], args := [d1, d2] }
  | _ => none }
def waterMoreRow : OpenClaim := { program := "ytcfijidlbimckaadoor", sum := "1aa3d892e357d1aa883771048eaa8a712cae6f25b70f87a36c99443e11f91300", func := "bivouac/bivouaclaw04.WaterMore", spec := "waterMore", unfollowed := true, recurses := true, named := ["math/bits.deBruijn32tab", "math/bits.deBruijn64tab"], apart := false, laid := [("math/bits.deBruijn32tab", laid_math_bits_deBruijn32tab), ("math/bits.deBruijn64tab", laid_math_bits_deBruijn64tab)] }
def WaterMoreSaid : Prop := waterMoreRow.holds Tryd.pinned (OpenSpec.ofChange waterMoreSpec)

/-- ITS FALSE NEIGHBOUR: 'it returns false'. Refute it at one input. -/
def waterMoreWrong : ChangeSpec := { name := "waterMore", fn := fun _ => fun
  | [d1, d2] => { results := [.lit (.bool false)], args := [d1, d2] }
  | _ => none }
def WaterMoreWrongFalsely : Prop := waterMoreRow.holds Tryd.pinned (OpenSpec.ofChange waterMoreWrong)

/-- 'bivouaclaw04.WaterNamed': WHATEVER THE INPUT: true; the input reads as it did. -/
def waterNamedSpec : ChangeSpec := { name := "waterNamed", fn := fun _ => fun
  | [d] => { results := [.lit (.bool true)], args := [d] }
  | _ => none }
def waterNamedRow : OpenClaim := { program := "ytcfijidlbimckaadoor", sum := "1aa3d892e357d1aa883771048eaa8a712cae6f25b70f87a36c99443e11f91300", func := "bivouac/bivouaclaw04.WaterNamed", spec := "waterNamed", unfollowed := true, recurses := true, named := ["math/bits.deBruijn32tab", "math/bits.deBruijn64tab"], apart := false, laid := [("math/bits.deBruijn32tab", laid_math_bits_deBruijn32tab), ("math/bits.deBruijn64tab", laid_math_bits_deBruijn64tab)] }
def WaterNamedSaid : Prop := waterNamedRow.holds Tryd.pinned (OpenSpec.ofChange waterNamedSpec)

/-- ITS FALSE NEIGHBOUR: 'it returns false'. Refute it at one input. -/
def waterNamedWrong : ChangeSpec := { name := "waterNamed", fn := fun _ => fun
  | [d] => { results := [.lit (.bool false)], args := [d] }
  | _ => none }
def WaterNamedWrongFalsely : Prop := waterNamedRow.holds Tryd.pinned (OpenSpec.ofChange waterNamedWrong)

/-- 'bivouaclaw04.WaterEnough': WHATEVER THE INPUT: true; the input reads as it did. -/
def waterEnoughSpec : ChangeSpec := { name := "waterEnough", fn := fun _ => fun
  | [d1, d2] => { results := [.lit (.bool true)], args := [d1, d2] }
  | _ => none }
def waterEnoughRow : OpenClaim := { program := "ytcfijidlbimckaadoor", sum := "1aa3d892e357d1aa883771048eaa8a712cae6f25b70f87a36c99443e11f91300", func := "bivouac/bivouaclaw04.WaterEnough", spec := "waterEnough", unfollowed := true, recurses := true, named := ["math/bits.deBruijn32tab", "math/bits.deBruijn64tab"], apart := false, laid := [("math/bits.deBruijn32tab", laid_math_bits_deBruijn32tab), ("math/bits.deBruijn64tab", laid_math_bits_deBruijn64tab)] }
def WaterEnoughSaid : Prop := waterEnoughRow.holds Tryd.pinned (OpenSpec.ofChange waterEnoughSpec)

/-- ITS FALSE NEIGHBOUR: 'it returns false'. Refute it at one input. -/
def waterEnoughWrong : ChangeSpec := { name := "waterEnough", fn := fun _ => fun
  | [d1, d2] => { results := [.lit (.bool false)], args := [d1, d2] }
  | _ => none }
def WaterEnoughWrongFalsely : Prop := waterEnoughRow.holds Tryd.pinned (OpenSpec.ofChange waterEnoughWrong)

/-- 'bivouaclaw04.WaterBest': WHATEVER THE INPUT: true; the input reads as it did. -/
def waterBestSpec : ChangeSpec := { name := "waterBest", fn := fun _ => fun
  | [d1, d2] => { results := [.lit (.bool true)], args := [d1, d2] }
  | _ => none }
def waterBestRow : OpenClaim := { program := "ytcfijidlbimckaadoor", sum := "1aa3d892e357d1aa883771048eaa8a712cae6f25b70f87a36c99443e11f91300", func := "bivouac/bivouaclaw04.WaterBest", spec := "waterBest", unfollowed := true, recurses := true, named := ["math/bits.deBruijn32tab", "math/bits.deBruijn64tab"], apart := false, laid := [("math/bits.deBruijn32tab", laid_math_bits_deBruijn32tab), ("math/bits.deBruijn64tab", laid_math_bits_deBruijn64tab)] }
def WaterBestSaid : Prop := waterBestRow.holds Tryd.pinned (OpenSpec.ofChange waterBestSpec)

/-- ITS FALSE NEIGHBOUR: 'it returns false'. Refute it at one input. -/
def waterBestWrong : ChangeSpec := { name := "waterBest", fn := fun _ => fun
  | [d1, d2] => { results := [.lit (.bool false)], args := [d1, d2] }
  | _ => none }
def WaterBestWrongFalsely : Prop := waterBestRow.holds Tryd.pinned (OpenSpec.ofChange waterBestWrong)

/-- 'bivouaclaw04.WaterSettled': WHATEVER THE INPUT: true; the input reads as it did. -/
def waterSettledSpec : ChangeSpec := { name := "waterSettled", fn := fun _ => fun
  | [d1, d2] => { results := [.lit (.bool true)], args := [d1, d2] }
  | _ => none }
def waterSettledRow : OpenClaim := { program := "ytcfijidlbimckaadoor", sum := "1aa3d892e357d1aa883771048eaa8a712cae6f25b70f87a36c99443e11f91300", func := "bivouac/bivouaclaw04.WaterSettled", spec := "waterSettled", unfollowed := true, recurses := true, named := ["math/bits.deBruijn32tab", "math/bits.deBruijn64tab"], apart := false, laid := [("math/bits.deBruijn32tab", laid_math_bits_deBruijn32tab), ("math/bits.deBruijn64tab", laid_math_bits_deBruijn64tab)] }
def WaterSettledSaid : Prop := waterSettledRow.holds Tryd.pinned (OpenSpec.ofChange waterSettledSpec)

/-- ITS FALSE NEIGHBOUR: 'it returns false'. Refute it at one input. -/
def waterSettledWrong : ChangeSpec := { name := "waterSettled", fn := fun _ => fun
  | [d1, d2] => { results := [.lit (.bool false)], args := [d1, d2] }
  | _ => none }
def WaterSettledWrongFalsely : Prop := waterSettledRow.holds Tryd.pinned (OpenSpec.ofChange waterSettledWrong)

/-- 'bivouaclaw04.WaterTruths': WHATEVER THE INPUT: true; the input reads as it did. -/
def waterTruthsSpec : ChangeSpec := { name := "waterTruths", fn := fun _ => fun
  | [d1, d2] => { results := [.lit (.bool true)], args := [d1, d2] }
  | _ => none }
def waterTruthsRow : OpenClaim := { program := "ytcfijidlbimckaadoor", sum := "1aa3d892e357d1aa883771048eaa8a712cae6f25b70f87a36c99443e11f91300", func := "bivouac/bivouaclaw04.WaterTruths", spec := "waterTruths", unfollowed := true, recurses := true, named := ["math/bits.deBruijn32tab", "math/bits.deBruijn64tab"], apart := false, laid := [("math/bits.deBruijn32tab", laid_math_bits_deBruijn32tab), ("math/bits.deBruijn64tab", laid_math_bits_deBruijn64tab)] }
def WaterTruthsSaid : Prop := waterTruthsRow.holds Tryd.pinned (OpenSpec.ofChange waterTruthsSpec)

/-- ITS FALSE NEIGHBOUR: 'it returns false'. Refute it at one input. -/
def waterTruthsWrong : ChangeSpec := { name := "waterTruths", fn := fun _ => fun
  | [d1, d2] => { results := [.lit (.bool false)], args := [d1, d2] }
  | _ => none }
def WaterTruthsWrongFalsely : Prop := waterTruthsRow.holds Tryd.pinned (OpenSpec.ofChange waterTruthsWrong)

/-- 'bivouaclaw04.WaterServes': WHATEVER THE INPUT: true; the input reads as it did. -/
def waterServesSpec : ChangeSpec := { name := "waterServes", fn := fun _ => fun
  | [d1, d2] => { results := [.lit (.bool true)], args := [d1, d2] }
  | _ => none }
def waterServesRow : OpenClaim := { program := "ytcfijidlbimckaadoor", sum := "1aa3d892e357d1aa883771048eaa8a712cae6f25b70f87a36c99443e11f91300", func := "bivouac/bivouaclaw04.WaterServes", spec := "waterServes", unfollowed := true, recurses := true, named := ["math/bits.deBruijn32tab", "math/bits.deBruijn64tab"], apart := false, laid := [("math/bits.deBruijn32tab", laid_math_bits_deBruijn32tab), ("math/bits.deBruijn64tab", laid_math_bits_deBruijn64tab)] }
def WaterServesSaid : Prop := waterServesRow.holds Tryd.pinned (OpenSpec.ofChange waterServesSpec)

/-- ITS FALSE NEIGHBOUR: 'it returns false'. Refute it at one input. -/
def waterServesWrong : ChangeSpec := { name := "waterServes", fn := fun _ => fun
  | [d1, d2] => { results := [.lit (.bool false)], args := [d1, d2] }
  | _ => none }
def WaterServesWrongFalsely : Prop := waterServesRow.holds Tryd.pinned (OpenSpec.ofChange waterServesWrong)

/-- 'bivouaclaw04.WaterTests': WHATEVER THE INPUT: true; the input reads as it did. -/
def waterTestsSpec : ChangeSpec := { name := "waterTests", fn := fun _ => fun
  | [d] => { results := [.lit (.bool true)], args := [d] }
  | _ => none }
def waterTestsRow : OpenClaim := { program := "ytcfijidlbimckaadoor", sum := "1aa3d892e357d1aa883771048eaa8a712cae6f25b70f87a36c99443e11f91300", func := "bivouac/bivouaclaw04.WaterTests", spec := "waterTests", unfollowed := true, recurses := true, named := ["math/bits.deBruijn32tab", "math/bits.deBruijn64tab"], apart := false, laid := [("math/bits.deBruijn32tab", laid_math_bits_deBruijn32tab), ("math/bits.deBruijn64tab", laid_math_bits_deBruijn64tab)] }
def WaterTestsSaid : Prop := waterTestsRow.holds Tryd.pinned (OpenSpec.ofChange waterTestsSpec)

/-- ITS FALSE NEIGHBOUR: 'it returns false'. Refute it at one input. -/
def waterTestsWrong : ChangeSpec := { name := "waterTests", fn := fun _ => fun
  | [d] => { results := [.lit (.bool false)], args := [d] }
  | _ => none }
def WaterTestsWrongFalsely : Prop := waterTestsRow.holds Tryd.pinned (OpenSpec.ofChange waterTestsWrong)

/- THE SECOND FORM. 'bulk': how many values and letters a reading holds, each counted each time it is reached (what is shared counts as often as it is met; a slice's spare places count too). A statement '..UptoSaid' is the law's where the arguments, and the package variables that the reading takes, are together of bulk at most 1048576: NARROWER than '..Said'. Prove '..Said' where nothing that the law and all that it calls make is longer than what came in: it says more and counts as full. Else prove '..UptoSaid'. A law counts once. -/
mutual
def uptoBulk {H : Type} : DataW H → Nat
  | .lit (.string bytes) => bytes.length + 1
  | .lit _ => 1
  | .nil => 1
  | .ptr d => uptoBulk d + 1
  | .slice elems spare => uptoBulkAll elems + uptoBulkAll spare + 1
  | .agg parts => uptoBulkAll parts + 1
  | .iface _ d => uptoBulk d + 1
  | .map entries => uptoBulkEntries entries + 1
  | .held _ => 1
def uptoBulkAll {H : Type} : List (DataW H) → Nat
  | [] => 0
  | d :: r => uptoBulk d + uptoBulkAll r
def uptoBulkEntries {H : Type} : List (Lit × DataW H) → Nat
  | [] => 0
  | x :: r => uptoBulkEntry x + uptoBulkEntries r
def uptoBulkEntry {H : Type} : Lit × DataW H → Nat
  | (.string bytes, d) => bytes.length + uptoBulk d + 1
  | (_, d) => uptoBulk d + 1
 end
def uptoSmall : (H : Type) → List (DataW H) → Bool := fun _ ds => decide (uptoBulkAll ds ≤ 1048576)
def OpenSpec.upto (s : _root_.Go.ChangeSpec) : _root_.Go.OpenSpec := { _root_.Go.OpenSpec.ofChange s with cond := some uptoSmall }

/-- 'bivouaclaw04.WaterServed', WHERE WHAT IT READS IS OF BULK AT MOST 1048576: true; the input reads as it did. -/
def waterServedUptoRow : OpenClaim := { program := "ytcfijidlbimckaadoor", sum := "1aa3d892e357d1aa883771048eaa8a712cae6f25b70f87a36c99443e11f91300", func := "bivouac/bivouaclaw04.WaterServed", spec := "waterServed", unfollowed := true, recurses := true, named := ["math/bits.deBruijn32tab", "math/bits.deBruijn64tab"], apart := false, laid := [("math/bits.deBruijn32tab", laid_math_bits_deBruijn32tab), ("math/bits.deBruijn64tab", laid_math_bits_deBruijn64tab)], narrowed := true }
def WaterServedUptoSaid : Prop := waterServedUptoRow.holds Tryd.pinned (OpenSpec.upto waterServedSpec)

/-- 'bivouaclaw04.WaterMore', WHERE WHAT IT READS IS OF BULK AT MOST 1048576: true; the input reads as it did. -/
def waterMoreUptoRow : OpenClaim := { program := "ytcfijidlbimckaadoor", sum := "1aa3d892e357d1aa883771048eaa8a712cae6f25b70f87a36c99443e11f91300", func := "bivouac/bivouaclaw04.WaterMore", spec := "waterMore", unfollowed := true, recurses := true, named := ["math/bits.deBruijn32tab", "math/bits.deBruijn64tab"], apart := false, laid := [("math/bits.deBruijn32tab", laid_math_bits_deBruijn32tab), ("math/bits.deBruijn64tab", laid_math_bits_deBruijn64tab)], narrowed := true }
def WaterMoreUptoSaid : Prop := waterMoreUptoRow.holds Tryd.pinned (OpenSpec.upto waterMoreSpec)

/-- 'bivouaclaw04.WaterNamed', WHERE WHAT IT READS IS OF BULK AT MOST 1048576: true; the input reads as it did. -/
def waterNamedUptoRow : OpenClaim := { program := "ytcfijidlbimckaadoor", sum := "1aa3d892e357d1aa883771048eaa8a712cae6f25b70f87a36c99443e11f91300", func := "bivouac/bivouaclaw04.WaterNamed", spec := "waterNamed", unfollowed := true, recurses := true, named := ["math/bits.deBruijn32tab", "math/bits.deBruijn64tab"], apart := false, laid := [("math/bits.deBruijn32tab", laid_math_bits_deBruijn32tab), ("math/bits.deBruijn64tab", laid_math_bits_deBruijn64tab)], narrowed := true }
def WaterNamedUptoSaid : Prop := waterNamedUptoRow.holds Tryd.pinned (OpenSpec.upto waterNamedSpec)

/-- 'bivouaclaw04.WaterEnough', WHERE WHAT IT READS IS OF BULK AT MOST 1048576: true; the input reads as it did. -/
def waterEnoughUptoRow : OpenClaim := { program := "ytcfijidlbimckaadoor", sum := "1aa3d892e357d1aa883771048eaa8a712cae6f25b70f87a36c99443e11f91300", func := "bivouac/bivouaclaw04.WaterEnough", spec := "waterEnough", unfollowed := true, recurses := true, named := ["math/bits.deBruijn32tab", "math/bits.deBruijn64tab"], apart := false, laid := [("math/bits.deBruijn32tab", laid_math_bits_deBruijn32tab), ("math/bits.deBruijn64tab", laid_math_bits_deBruijn64tab)], narrowed := true }
def WaterEnoughUptoSaid : Prop := waterEnoughUptoRow.holds Tryd.pinned (OpenSpec.upto waterEnoughSpec)

/-- 'bivouaclaw04.WaterBest', WHERE WHAT IT READS IS OF BULK AT MOST 1048576: true; the input reads as it did. -/
def waterBestUptoRow : OpenClaim := { program := "ytcfijidlbimckaadoor", sum := "1aa3d892e357d1aa883771048eaa8a712cae6f25b70f87a36c99443e11f91300", func := "bivouac/bivouaclaw04.WaterBest", spec := "waterBest", unfollowed := true, recurses := true, named := ["math/bits.deBruijn32tab", "math/bits.deBruijn64tab"], apart := false, laid := [("math/bits.deBruijn32tab", laid_math_bits_deBruijn32tab), ("math/bits.deBruijn64tab", laid_math_bits_deBruijn64tab)], narrowed := true }
def WaterBestUptoSaid : Prop := waterBestUptoRow.holds Tryd.pinned (OpenSpec.upto waterBestSpec)

/-- 'bivouaclaw04.WaterSettled', WHERE WHAT IT READS IS OF BULK AT MOST 1048576: true; the input reads as it did. -/
def waterSettledUptoRow : OpenClaim := { program := "ytcfijidlbimckaadoor", sum := "1aa3d892e357d1aa883771048eaa8a712cae6f25b70f87a36c99443e11f91300", func := "bivouac/bivouaclaw04.WaterSettled", spec := "waterSettled", unfollowed := true, recurses := true, named := ["math/bits.deBruijn32tab", "math/bits.deBruijn64tab"], apart := false, laid := [("math/bits.deBruijn32tab", laid_math_bits_deBruijn32tab), ("math/bits.deBruijn64tab", laid_math_bits_deBruijn64tab)], narrowed := true }
def WaterSettledUptoSaid : Prop := waterSettledUptoRow.holds Tryd.pinned (OpenSpec.upto waterSettledSpec)

/-- 'bivouaclaw04.WaterTruths', WHERE WHAT IT READS IS OF BULK AT MOST 1048576: true; the input reads as it did. -/
def waterTruthsUptoRow : OpenClaim := { program := "ytcfijidlbimckaadoor", sum := "1aa3d892e357d1aa883771048eaa8a712cae6f25b70f87a36c99443e11f91300", func := "bivouac/bivouaclaw04.WaterTruths", spec := "waterTruths", unfollowed := true, recurses := true, named := ["math/bits.deBruijn32tab", "math/bits.deBruijn64tab"], apart := false, laid := [("math/bits.deBruijn32tab", laid_math_bits_deBruijn32tab), ("math/bits.deBruijn64tab", laid_math_bits_deBruijn64tab)], narrowed := true }
def WaterTruthsUptoSaid : Prop := waterTruthsUptoRow.holds Tryd.pinned (OpenSpec.upto waterTruthsSpec)

/-- 'bivouaclaw04.WaterServes', WHERE WHAT IT READS IS OF BULK AT MOST 1048576: true; the input reads as it did. -/
def waterServesUptoRow : OpenClaim := { program := "ytcfijidlbimckaadoor", sum := "1aa3d892e357d1aa883771048eaa8a712cae6f25b70f87a36c99443e11f91300", func := "bivouac/bivouaclaw04.WaterServes", spec := "waterServes", unfollowed := true, recurses := true, named := ["math/bits.deBruijn32tab", "math/bits.deBruijn64tab"], apart := false, laid := [("math/bits.deBruijn32tab", laid_math_bits_deBruijn32tab), ("math/bits.deBruijn64tab", laid_math_bits_deBruijn64tab)], narrowed := true }
def WaterServesUptoSaid : Prop := waterServesUptoRow.holds Tryd.pinned (OpenSpec.upto waterServesSpec)

/-- 'bivouaclaw04.WaterTests', WHERE WHAT IT READS IS OF BULK AT MOST 1048576: true; the input reads as it did. -/
def waterTestsUptoRow : OpenClaim := { program := "ytcfijidlbimckaadoor", sum := "1aa3d892e357d1aa883771048eaa8a712cae6f25b70f87a36c99443e11f91300", func := "bivouac/bivouaclaw04.WaterTests", spec := "waterTests", unfollowed := true, recurses := true, named := ["math/bits.deBruijn32tab", "math/bits.deBruijn64tab"], apart := false, laid := [("math/bits.deBruijn32tab", laid_math_bits_deBruijn32tab), ("math/bits.deBruijn64tab", laid_math_bits_deBruijn64tab)], narrowed := true }
def WaterTestsUptoSaid : Prop := waterTestsUptoRow.holds Tryd.pinned (OpenSpec.upto waterTestsSpec)

end Rows
end Go.Proofs.YtcfijidlbimckaaDoor
