/-
  No cell of these rows narrows 'for every input' (looked for: loops, veiled, ifaces, maps, wideKeys, modest, calm, conditions, laid).
  DERIVED. THE GIVEN ROWS OF THIS SEAT. 10 by the template 'for every input the law returns true; each argument reads behind the call as it read before'; 0 by the template 'total and deterministic' (their statements: YtggggnjibedgaaaGreatTotals.lean).
  GIVEN WITH THE SEED: the statements are not yours to turn. If you find one false, say at which input.
  Laid BY PROGRAM, IN A SANDBOX (cutbox-rows.mjs): the forced cells as the released guide's own fill.sh prints them over the translation 7e41760a042ab0ef… (all of the seat's roots in one cut). By AI agents, Wed Nov 11 2026. No macro, syntax, notation, axiom, sorry.
-/
import Derived.Test.YtggggnjibedgaaaGreatChecked
import GoSem.Claim
import GoSem.ClaimJoined
import GoSem.ClaimMapViews
import Derived.JoinedTies
import Derived.KernelRfl
namespace Go.Proofs.YtggggnjibedgaaaGreat
/- THE CELL 'sum', in the pinned program and in every row, IS THE sha256 OF THE DUMP (.gsa) THAT YtggggnjibedgaaaGreatProg.lean LOADS. Nothing in Lean hashes anything: it is a label: what it is worth is what the hold of that sum in a sandbox is worth. -/
noncomputable def Tryz.pinned : Pinned := { name := "ytggggnjibedgaaagreat", sum := "7e41760a042ab0efc88571a51ff4fe6f34b1f30d3458075ddd2e541e432eefcf", checked := Tryz.checked }
namespace Rows
def none {H : Type} : Left H := { results := [], args := [] }

/-- 'bivouaclaw09.RopesWear': WHATEVER THE INPUT: true; the input reads as it did. -/
def ropesWearSpec : ChangeSpec := { name := "ropesWear", fn := fun _ => fun
  | [d1, d2, d3] => { results := [.lit (.bool true)], args := [d1, d2, d3] }
  | _ => none }
def ropesWearRow : OpenClaim := { program := "ytggggnjibedgaaagreat", sum := "7e41760a042ab0efc88571a51ff4fe6f34b1f30d3458075ddd2e541e432eefcf", func := "bivouac/bivouaclaw09.RopesWear", spec := "ropesWear", unfollowed := true, recurses := true, apart := false }
def RopesWearSaid : Prop := ropesWearRow.holds Tryz.pinned (OpenSpec.ofChange ropesWearSpec)

/-- ITS FALSE NEIGHBOUR: 'it returns false'. Refute it at one input. -/
def ropesWearWrong : ChangeSpec := { name := "ropesWear", fn := fun _ => fun
  | [d1, d2, d3] => { results := [.lit (.bool false)], args := [d1, d2, d3] }
  | _ => none }
def RopesWearWrongFalsely : Prop := ropesWearRow.holds Tryz.pinned (OpenSpec.ofChange ropesWearWrong)

/-- 'bivouaclaw09.RopesHolds': WHATEVER THE INPUT: true; the input reads as it did. -/
def ropesHoldsSpec : ChangeSpec := { name := "ropesHolds", fn := fun _ => fun
  | [d1, d2, d3] => { results := [.lit (.bool true)], args := [d1, d2, d3] }
  | _ => none }
def ropesHoldsRow : OpenClaim := { program := "ytggggnjibedgaaagreat", sum := "7e41760a042ab0efc88571a51ff4fe6f34b1f30d3458075ddd2e541e432eefcf", func := "bivouac/bivouaclaw09.RopesHolds", spec := "ropesHolds", unfollowed := true, recurses := true, apart := false }
def RopesHoldsSaid : Prop := ropesHoldsRow.holds Tryz.pinned (OpenSpec.ofChange ropesHoldsSpec)

/-- ITS FALSE NEIGHBOUR: 'it returns false'. Refute it at one input. -/
def ropesHoldsWrong : ChangeSpec := { name := "ropesHolds", fn := fun _ => fun
  | [d1, d2, d3] => { results := [.lit (.bool false)], args := [d1, d2, d3] }
  | _ => none }
def RopesHoldsWrongFalsely : Prop := ropesHoldsRow.holds Tryz.pinned (OpenSpec.ofChange ropesHoldsWrong)

/-- 'bivouaclaw09.RopesTeams': WHATEVER THE INPUT: true; the input reads as it did. -/
def ropesTeamsSpec : ChangeSpec := { name := "ropesTeams", fn := fun _ => fun
  | [d] => { results := [.lit (.bool true)], args := [d] }
  | _ => none }
def ropesTeamsRow : OpenClaim := { program := "ytggggnjibedgaaagreat", sum := "7e41760a042ab0efc88571a51ff4fe6f34b1f30d3458075ddd2e541e432eefcf", func := "bivouac/bivouaclaw09.RopesTeams", spec := "ropesTeams", unfollowed := true, recurses := true, apart := false }
def RopesTeamsSaid : Prop := ropesTeamsRow.holds Tryz.pinned (OpenSpec.ofChange ropesTeamsSpec)

/-- ITS FALSE NEIGHBOUR: 'it returns false'. Refute it at one input. -/
def ropesTeamsWrong : ChangeSpec := { name := "ropesTeams", fn := fun _ => fun
  | [d] => { results := [.lit (.bool false)], args := [d] }
  | _ => none }
def RopesTeamsWrongFalsely : Prop := ropesTeamsRow.holds Tryz.pinned (OpenSpec.ofChange ropesTeamsWrong)

/-- 'bivouaclaw09.RopesPosts': WHATEVER THE INPUT: true; the input reads as it did. -/
def ropesPostsSpec : ChangeSpec := { name := "ropesPosts", fn := fun _ => fun
  | [d1, d2, d3] => { results := [.lit (.bool true)], args := [d1, d2, d3] }
  | _ => none }
def ropesPostsRow : OpenClaim := { program := "ytggggnjibedgaaagreat", sum := "7e41760a042ab0efc88571a51ff4fe6f34b1f30d3458075ddd2e541e432eefcf", func := "bivouac/bivouaclaw09.RopesPosts", spec := "ropesPosts", unfollowed := true, recurses := true, apart := false }
def RopesPostsSaid : Prop := ropesPostsRow.holds Tryz.pinned (OpenSpec.ofChange ropesPostsSpec)

/-- ITS FALSE NEIGHBOUR: 'it returns false'. Refute it at one input. -/
def ropesPostsWrong : ChangeSpec := { name := "ropesPosts", fn := fun _ => fun
  | [d1, d2, d3] => { results := [.lit (.bool false)], args := [d1, d2, d3] }
  | _ => none }
def RopesPostsWrongFalsely : Prop := ropesPostsRow.holds Tryz.pinned (OpenSpec.ofChange ropesPostsWrong)

/-- 'bivouaclaw09.RopesTrue': WHATEVER THE INPUT: true; the input reads as it did. -/
def ropesTrueSpec : ChangeSpec := { name := "ropesTrue", fn := fun _ => fun
  | [d1, d2, d3] => { results := [.lit (.bool true)], args := [d1, d2, d3] }
  | _ => none }
def ropesTrueRow : OpenClaim := { program := "ytggggnjibedgaaagreat", sum := "7e41760a042ab0efc88571a51ff4fe6f34b1f30d3458075ddd2e541e432eefcf", func := "bivouac/bivouaclaw09.RopesTrue", spec := "ropesTrue", unfollowed := true, recurses := true, apart := false }
def RopesTrueSaid : Prop := ropesTrueRow.holds Tryz.pinned (OpenSpec.ofChange ropesTrueSpec)

/-- ITS FALSE NEIGHBOUR: 'it returns false'. Refute it at one input. -/
def ropesTrueWrong : ChangeSpec := { name := "ropesTrue", fn := fun _ => fun
  | [d1, d2, d3] => { results := [.lit (.bool false)], args := [d1, d2, d3] }
  | _ => none }
def RopesTrueWrongFalsely : Prop := ropesTrueRow.holds Tryz.pinned (OpenSpec.ofChange ropesTrueWrong)

/-- 'bivouaclaw09.RopesOlder': WHATEVER THE INPUT: true; the input reads as it did. -/
def ropesOlderSpec : ChangeSpec := { name := "ropesOlder", fn := fun _ => fun
  | [d1, d2, d3] => { results := [.lit (.bool true)], args := [d1, d2, d3] }
  | _ => none }
def ropesOlderRow : OpenClaim := { program := "ytggggnjibedgaaagreat", sum := "7e41760a042ab0efc88571a51ff4fe6f34b1f30d3458075ddd2e541e432eefcf", func := "bivouac/bivouaclaw09.RopesOlder", spec := "ropesOlder", unfollowed := true, recurses := true, apart := false }
def RopesOlderSaid : Prop := ropesOlderRow.holds Tryz.pinned (OpenSpec.ofChange ropesOlderSpec)

/-- ITS FALSE NEIGHBOUR: 'it returns false'. Refute it at one input. -/
def ropesOlderWrong : ChangeSpec := { name := "ropesOlder", fn := fun _ => fun
  | [d1, d2, d3] => { results := [.lit (.bool false)], args := [d1, d2, d3] }
  | _ => none }
def RopesOlderWrongFalsely : Prop := ropesOlderRow.holds Tryz.pinned (OpenSpec.ofChange ropesOlderWrong)

/-- 'bivouaclaw09.RopesBear': WHATEVER THE INPUT: true; the input reads as it did. -/
def ropesBearSpec : ChangeSpec := { name := "ropesBear", fn := fun _ => fun
  | [d1, d2] => { results := [.lit (.bool true)], args := [d1, d2] }
  | _ => none }
def ropesBearRow : OpenClaim := { program := "ytggggnjibedgaaagreat", sum := "7e41760a042ab0efc88571a51ff4fe6f34b1f30d3458075ddd2e541e432eefcf", func := "bivouac/bivouaclaw09.RopesBear", spec := "ropesBear", unfollowed := true, recurses := true, apart := false }
def RopesBearSaid : Prop := ropesBearRow.holds Tryz.pinned (OpenSpec.ofChange ropesBearSpec)

/-- ITS FALSE NEIGHBOUR: 'it returns false'. Refute it at one input. -/
def ropesBearWrong : ChangeSpec := { name := "ropesBear", fn := fun _ => fun
  | [d1, d2] => { results := [.lit (.bool false)], args := [d1, d2] }
  | _ => none }
def RopesBearWrongFalsely : Prop := ropesBearRow.holds Tryz.pinned (OpenSpec.ofChange ropesBearWrong)

/-- 'bivouaclaw09.RopesSpare': WHATEVER THE INPUT: true; the input reads as it did. -/
def ropesSpareSpec : ChangeSpec := { name := "ropesSpare", fn := fun _ => fun
  | [d1, d2, d3] => { results := [.lit (.bool true)], args := [d1, d2, d3] }
  | _ => none }
def ropesSpareRow : OpenClaim := { program := "ytggggnjibedgaaagreat", sum := "7e41760a042ab0efc88571a51ff4fe6f34b1f30d3458075ddd2e541e432eefcf", func := "bivouac/bivouaclaw09.RopesSpare", spec := "ropesSpare", unfollowed := true, recurses := true, apart := false }
def RopesSpareSaid : Prop := ropesSpareRow.holds Tryz.pinned (OpenSpec.ofChange ropesSpareSpec)

/-- ITS FALSE NEIGHBOUR: 'it returns false'. Refute it at one input. -/
def ropesSpareWrong : ChangeSpec := { name := "ropesSpare", fn := fun _ => fun
  | [d1, d2, d3] => { results := [.lit (.bool false)], args := [d1, d2, d3] }
  | _ => none }
def RopesSpareWrongFalsely : Prop := ropesSpareRow.holds Tryz.pinned (OpenSpec.ofChange ropesSpareWrong)

/-- 'bivouaclaw09.RopesLed': WHATEVER THE INPUT: true; the input reads as it did. -/
def ropesLedSpec : ChangeSpec := { name := "ropesLed", fn := fun _ => fun
  | [d1, d2, d3] => { results := [.lit (.bool true)], args := [d1, d2, d3] }
  | _ => none }
def ropesLedRow : OpenClaim := { program := "ytggggnjibedgaaagreat", sum := "7e41760a042ab0efc88571a51ff4fe6f34b1f30d3458075ddd2e541e432eefcf", func := "bivouac/bivouaclaw09.RopesLed", spec := "ropesLed", unfollowed := true, recurses := true, apart := false }
def RopesLedSaid : Prop := ropesLedRow.holds Tryz.pinned (OpenSpec.ofChange ropesLedSpec)

/-- ITS FALSE NEIGHBOUR: 'it returns false'. Refute it at one input. -/
def ropesLedWrong : ChangeSpec := { name := "ropesLed", fn := fun _ => fun
  | [d1, d2, d3] => { results := [.lit (.bool false)], args := [d1, d2, d3] }
  | _ => none }
def RopesLedWrongFalsely : Prop := ropesLedRow.holds Tryz.pinned (OpenSpec.ofChange ropesLedWrong)

/-- 'bivouaclaw09.RopesLevel': WHATEVER THE INPUT: true; the input reads as it did. -/
def ropesLevelSpec : ChangeSpec := { name := "ropesLevel", fn := fun _ => fun
  | [d1, d2] => { results := [.lit (.bool true)], args := [d1, d2] }
  | _ => none }
def ropesLevelRow : OpenClaim := { program := "ytggggnjibedgaaagreat", sum := "7e41760a042ab0efc88571a51ff4fe6f34b1f30d3458075ddd2e541e432eefcf", func := "bivouac/bivouaclaw09.RopesLevel", spec := "ropesLevel", unfollowed := true, recurses := true, apart := false }
def RopesLevelSaid : Prop := ropesLevelRow.holds Tryz.pinned (OpenSpec.ofChange ropesLevelSpec)

/-- ITS FALSE NEIGHBOUR: 'it returns false'. Refute it at one input. -/
def ropesLevelWrong : ChangeSpec := { name := "ropesLevel", fn := fun _ => fun
  | [d1, d2] => { results := [.lit (.bool false)], args := [d1, d2] }
  | _ => none }
def RopesLevelWrongFalsely : Prop := ropesLevelRow.holds Tryz.pinned (OpenSpec.ofChange ropesLevelWrong)

/- THE SECOND FORM. 'bulk': how many values and letters a reading holds, each counted each time it is reached (what is shared counts as often as it is met; a slice's spare places count too). A statement '..UptoSaid' is the law's where the arguments, and the package variables that the reading takes, are together of bulk at most 1048576: NARROWER than '..Said'. Prove '..Said' where nothing that the law and all that it calls make is longer than what came in: it says more and counts as full. Else prove '..UptoSaid'. A law counts once. -/
mutual
def uptoBulk {H : Type} : DataW H → Nat
  | .lit (.string bytes) => bytes.length + 1
  | .lit _ => 1
  | .nil => 1
  | .ptr d => uptoBulk d + 1
  | .slice elems spare => uptoBulkAll elems + uptoBulkAll spare + 1
  | .agg parts => uptoBulkAll parts + 1
  | .iface _ d => uptoBulk d + 1
  | .map entries => uptoBulkEntries entries + 1
  | .held _ => 1
def uptoBulkAll {H : Type} : List (DataW H) → Nat
  | [] => 0
  | d :: r => uptoBulk d + uptoBulkAll r
def uptoBulkEntries {H : Type} : List (Lit × DataW H) → Nat
  | [] => 0
  | x :: r => uptoBulkEntry x + uptoBulkEntries r
def uptoBulkEntry {H : Type} : Lit × DataW H → Nat
  | (.string bytes, d) => bytes.length + uptoBulk d + 1
  | (_, d) => uptoBulk d + 1
 end
def uptoSmall : (H : Type) → List (DataW H) → Bool := fun _ ds => decide (uptoBulkAll ds ≤ 1048576)
def OpenSpec.upto (s : _root_.Go.ChangeSpec) : _root_.Go.OpenSpec := { _root_.Go.OpenSpec.ofChange s with cond := some uptoSmall }

/-- 'bivouaclaw09.RopesWear', WHERE WHAT IT READS IS OF BULK AT MOST 1048576: true; the input reads as it did. -/
def ropesWearUptoRow : OpenClaim := { program := "ytggggnjibedgaaagreat", sum := "7e41760a042ab0efc88571a51ff4fe6f34b1f30d3458075ddd2e541e432eefcf", func := "bivouac/bivouaclaw09.RopesWear", spec := "ropesWear", unfollowed := true, recurses := true, apart := false, narrowed := true }
def RopesWearUptoSaid : Prop := ropesWearUptoRow.holds Tryz.pinned (OpenSpec.upto ropesWearSpec)

/-- 'bivouaclaw09.RopesHolds', WHERE WHAT IT READS IS OF BULK AT MOST 1048576: true; the input reads as it did. -/
def ropesHoldsUptoRow : OpenClaim := { program := "ytggggnjibedgaaagreat", sum := "7e41760a042ab0efc88571a51ff4fe6f34b1f30d3458075ddd2e541e432eefcf", func := "bivouac/bivouaclaw09.RopesHolds", spec := "ropesHolds", unfollowed := true, recurses := true, apart := false, narrowed := true }
def RopesHoldsUptoSaid : Prop := ropesHoldsUptoRow.holds Tryz.pinned (OpenSpec.upto ropesHoldsSpec)

/-- 'bivouaclaw09.RopesTeams', WHERE WHAT IT READS IS OF BULK AT MOST 1048576: true; the input reads as it did. -/
def ropesTeamsUptoRow : OpenClaim := { program := "ytggggnjibedgaaagreat", sum := "7e41760a042ab0efc88571a51ff4fe6f34b1f30d3458075ddd2e541e432eefcf", func := "bivouac/bivouaclaw09.RopesTeams", spec := "ropesTeams", unfollowed := true, recurses := true, apart := false, narrowed := true }
def RopesTeamsUptoSaid : Prop := ropesTeamsUptoRow.holds Tryz.pinned (OpenSpec.upto ropesTeamsSpec)

/-- 'bivouaclaw09.RopesPosts', WHERE WHAT IT READS IS OF BULK AT MOST 1048576: true; the input reads as it did. -/
def ropesPostsUptoRow : OpenClaim := { program := "ytggggnjibedgaaagreat", sum := "7e41760a042ab0efc88571a51ff4fe6f34b1f30d3458075ddd2e541e432eefcf", func := "bivouac/bivouaclaw09.RopesPosts", spec := "ropesPosts", unfollowed := true, recurses := true, apart := false, narrowed := true }
def RopesPostsUptoSaid : Prop := ropesPostsUptoRow.holds Tryz.pinned (OpenSpec.upto ropesPostsSpec)

/-- 'bivouaclaw09.RopesTrue', WHERE WHAT IT READS IS OF BULK AT MOST 1048576: true; the input reads as it did. -/
def ropesTrueUptoRow : OpenClaim := { program := "ytggggnjibedgaaagreat", sum := "7e41760a042ab0efc88571a51ff4fe6f34b1f30d3458075ddd2e541e432eefcf", func := "bivouac/bivouaclaw09.RopesTrue", spec := "ropesTrue", unfollowed := true, recurses := true, apart := false, narrowed := true }
def RopesTrueUptoSaid : Prop := ropesTrueUptoRow.holds Tryz.pinned (OpenSpec.upto ropesTrueSpec)

/-- 'bivouaclaw09.RopesOlder', WHERE WHAT IT READS IS OF BULK AT MOST 1048576: true; the input reads as it did. -/
def ropesOlderUptoRow : OpenClaim := { program := "ytggggnjibedgaaagreat", sum := "7e41760a042ab0efc88571a51ff4fe6f34b1f30d3458075ddd2e541e432eefcf", func := "bivouac/bivouaclaw09.RopesOlder", spec := "ropesOlder", unfollowed := true, recurses := true, apart := false, narrowed := true }
def RopesOlderUptoSaid : Prop := ropesOlderUptoRow.holds Tryz.pinned (OpenSpec.upto ropesOlderSpec)

/-- 'bivouaclaw09.RopesBear', WHERE WHAT IT READS IS OF BULK AT MOST 1048576: true; the input reads as it did. -/
def ropesBearUptoRow : OpenClaim := { program := "ytggggnjibedgaaagreat", sum := "7e41760a042ab0efc88571a51ff4fe6f34b1f30d3458075ddd2e541e432eefcf", func := "bivouac/bivouaclaw09.RopesBear", spec := "ropesBear", unfollowed := true, recurses := true, apart := false, narrowed := true }
def RopesBearUptoSaid : Prop := ropesBearUptoRow.holds Tryz.pinned (OpenSpec.upto ropesBearSpec)

/-- 'bivouaclaw09.RopesSpare', WHERE WHAT IT READS IS OF BULK AT MOST 1048576: true; the input reads as it did. -/
def ropesSpareUptoRow : OpenClaim := { program := "ytggggnjibedgaaagreat", sum := "7e41760a042ab0efc88571a51ff4fe6f34b1f30d3458075ddd2e541e432eefcf", func := "bivouac/bivouaclaw09.RopesSpare", spec := "ropesSpare", unfollowed := true, recurses := true, apart := false, narrowed := true }
def RopesSpareUptoSaid : Prop := ropesSpareUptoRow.holds Tryz.pinned (OpenSpec.upto ropesSpareSpec)

/-- 'bivouaclaw09.RopesLed', WHERE WHAT IT READS IS OF BULK AT MOST 1048576: true; the input reads as it did. -/
def ropesLedUptoRow : OpenClaim := { program := "ytggggnjibedgaaagreat", sum := "7e41760a042ab0efc88571a51ff4fe6f34b1f30d3458075ddd2e541e432eefcf", func := "bivouac/bivouaclaw09.RopesLed", spec := "ropesLed", unfollowed := true, recurses := true, apart := false, narrowed := true }
def RopesLedUptoSaid : Prop := ropesLedUptoRow.holds Tryz.pinned (OpenSpec.upto ropesLedSpec)

/-- 'bivouaclaw09.RopesLevel', WHERE WHAT IT READS IS OF BULK AT MOST 1048576: true; the input reads as it did. -/
def ropesLevelUptoRow : OpenClaim := { program := "ytggggnjibedgaaagreat", sum := "7e41760a042ab0efc88571a51ff4fe6f34b1f30d3458075ddd2e541e432eefcf", func := "bivouac/bivouaclaw09.RopesLevel", spec := "ropesLevel", unfollowed := true, recurses := true, apart := false, narrowed := true }
def RopesLevelUptoSaid : Prop := ropesLevelUptoRow.holds Tryz.pinned (OpenSpec.upto ropesLevelSpec)

end Rows
end Go.Proofs.YtggggnjibedgaaaGreat
