/-
  DERIVED. GIVEN WITH THE SEED: THE CARDS: each row of YtcfijidlbimckaaDoorRows.lean that lists a variable, with what it lists TIED to the program's text (the seventh form; the later family's looks); each row that meets fmt, with fmt's text TOLD by the authors' own Lean function (tested against real Go, not proved from fmt's source: count such statements apart). THE CARD IS WHAT COUNTS. Prove the row's statement (the work); the ties are given (YtcfijidlbimckaaDoorTie.lean); close each card by the builder's one call (the guide's Derived/Test/ToyasCard.lean, 'card_holds'). Laid BY PROGRAM, IN A SANDBOX (cutbox-door.mjs). By AI agents, Wed Nov 11 2026. No macro, syntax, notation, axiom, sorry.
-/
import Derived.Test.YtcfijidlbimckaaDoorRows
import GoSem.ClaimSeven
namespace Go.Proofs.YtcfijidlbimckaaDoor
namespace Rows

/-- THE TIED CARD OF 'bivouaclaw04.WaterServed'. -/
def waterServedCard : Claim7 := { stood := { row := waterServedRow, standIns := [], harness := (true, "4f7efe28caaa45564171d25f11409fd4ef28060505d0927f2fce85d71a7362e2"), looks := false }, kinds := [], alts := [], laidByText := true, laidKinds := [.data, .data], laidTests := true, laidLooks := .later }
def WaterServedCardSaid : Prop := Claim7.holds Tryd.pinned (.plain (OpenSpec.ofChange waterServedSpec)) waterServedCard

/-- THE TIED CARD OF 'bivouaclaw04.WaterMore'. -/
def waterMoreCard : Claim7 := { stood := { row := waterMoreRow, standIns := [], harness := (true, "4f7efe28caaa45564171d25f11409fd4ef28060505d0927f2fce85d71a7362e2"), looks := false }, kinds := [], alts := [], laidByText := true, laidKinds := [.data, .data], laidTests := true, laidLooks := .later }
def WaterMoreCardSaid : Prop := Claim7.holds Tryd.pinned (.plain (OpenSpec.ofChange waterMoreSpec)) waterMoreCard

/-- THE TIED CARD OF 'bivouaclaw04.WaterNamed'. -/
def waterNamedCard : Claim7 := { stood := { row := waterNamedRow, standIns := [], harness := (true, "4f7efe28caaa45564171d25f11409fd4ef28060505d0927f2fce85d71a7362e2"), looks := false }, kinds := [], alts := [], laidByText := true, laidKinds := [.data, .data], laidTests := true, laidLooks := .later }
def WaterNamedCardSaid : Prop := Claim7.holds Tryd.pinned (.plain (OpenSpec.ofChange waterNamedSpec)) waterNamedCard

/-- THE TIED CARD OF 'bivouaclaw04.WaterEnough'. -/
def waterEnoughCard : Claim7 := { stood := { row := waterEnoughRow, standIns := [], harness := (true, "4f7efe28caaa45564171d25f11409fd4ef28060505d0927f2fce85d71a7362e2"), looks := false }, kinds := [], alts := [], laidByText := true, laidKinds := [.data, .data], laidTests := true, laidLooks := .later }
def WaterEnoughCardSaid : Prop := Claim7.holds Tryd.pinned (.plain (OpenSpec.ofChange waterEnoughSpec)) waterEnoughCard

/-- THE TIED CARD OF 'bivouaclaw04.WaterBest'. -/
def waterBestCard : Claim7 := { stood := { row := waterBestRow, standIns := [], harness := (true, "4f7efe28caaa45564171d25f11409fd4ef28060505d0927f2fce85d71a7362e2"), looks := false }, kinds := [], alts := [], laidByText := true, laidKinds := [.data, .data], laidTests := true, laidLooks := .later }
def WaterBestCardSaid : Prop := Claim7.holds Tryd.pinned (.plain (OpenSpec.ofChange waterBestSpec)) waterBestCard

/-- THE TIED CARD OF 'bivouaclaw04.WaterSettled'. -/
def waterSettledCard : Claim7 := { stood := { row := waterSettledRow, standIns := [], harness := (true, "4f7efe28caaa45564171d25f11409fd4ef28060505d0927f2fce85d71a7362e2"), looks := false }, kinds := [], alts := [], laidByText := true, laidKinds := [.data, .data], laidTests := true, laidLooks := .later }
def WaterSettledCardSaid : Prop := Claim7.holds Tryd.pinned (.plain (OpenSpec.ofChange waterSettledSpec)) waterSettledCard

/-- THE TIED CARD OF 'bivouaclaw04.WaterTruths'. -/
def waterTruthsCard : Claim7 := { stood := { row := waterTruthsRow, standIns := [], harness := (true, "4f7efe28caaa45564171d25f11409fd4ef28060505d0927f2fce85d71a7362e2"), looks := false }, kinds := [], alts := [], laidByText := true, laidKinds := [.data, .data], laidTests := true, laidLooks := .later }
def WaterTruthsCardSaid : Prop := Claim7.holds Tryd.pinned (.plain (OpenSpec.ofChange waterTruthsSpec)) waterTruthsCard

/-- THE TIED CARD OF 'bivouaclaw04.WaterServes'. -/
def waterServesCard : Claim7 := { stood := { row := waterServesRow, standIns := [], harness := (true, "4f7efe28caaa45564171d25f11409fd4ef28060505d0927f2fce85d71a7362e2"), looks := false }, kinds := [], alts := [], laidByText := true, laidKinds := [.data, .data], laidTests := true, laidLooks := .later }
def WaterServesCardSaid : Prop := Claim7.holds Tryd.pinned (.plain (OpenSpec.ofChange waterServesSpec)) waterServesCard

/-- THE TIED CARD OF 'bivouaclaw04.WaterTests'. -/
def waterTestsCard : Claim7 := { stood := { row := waterTestsRow, standIns := [], harness := (true, "4f7efe28caaa45564171d25f11409fd4ef28060505d0927f2fce85d71a7362e2"), looks := false }, kinds := [], alts := [], laidByText := true, laidKinds := [.data, .data], laidTests := true, laidLooks := .later }
def WaterTestsCardSaid : Prop := Claim7.holds Tryd.pinned (.plain (OpenSpec.ofChange waterTestsSpec)) waterTestsCard

/-- THE SECOND FORM's CARD OF 'bivouaclaw04.WaterServed'. -/
def waterServedUptoCard : Claim7 := { stood := { row := waterServedUptoRow, standIns := [], harness := (true, "4f7efe28caaa45564171d25f11409fd4ef28060505d0927f2fce85d71a7362e2"), looks := false }, kinds := [], alts := [], laidByText := true, laidKinds := [.data, .data], laidTests := true, laidLooks := .later }
def WaterServedUptoCardSaid : Prop := Claim7.holds Tryd.pinned (.plain (OpenSpec.upto waterServedSpec)) waterServedUptoCard

/-- THE SECOND FORM's CARD OF 'bivouaclaw04.WaterMore'. -/
def waterMoreUptoCard : Claim7 := { stood := { row := waterMoreUptoRow, standIns := [], harness := (true, "4f7efe28caaa45564171d25f11409fd4ef28060505d0927f2fce85d71a7362e2"), looks := false }, kinds := [], alts := [], laidByText := true, laidKinds := [.data, .data], laidTests := true, laidLooks := .later }
def WaterMoreUptoCardSaid : Prop := Claim7.holds Tryd.pinned (.plain (OpenSpec.upto waterMoreSpec)) waterMoreUptoCard

/-- THE SECOND FORM's CARD OF 'bivouaclaw04.WaterNamed'. -/
def waterNamedUptoCard : Claim7 := { stood := { row := waterNamedUptoRow, standIns := [], harness := (true, "4f7efe28caaa45564171d25f11409fd4ef28060505d0927f2fce85d71a7362e2"), looks := false }, kinds := [], alts := [], laidByText := true, laidKinds := [.data, .data], laidTests := true, laidLooks := .later }
def WaterNamedUptoCardSaid : Prop := Claim7.holds Tryd.pinned (.plain (OpenSpec.upto waterNamedSpec)) waterNamedUptoCard

/-- THE SECOND FORM's CARD OF 'bivouaclaw04.WaterEnough'. -/
def waterEnoughUptoCard : Claim7 := { stood := { row := waterEnoughUptoRow, standIns := [], harness := (true, "4f7efe28caaa45564171d25f11409fd4ef28060505d0927f2fce85d71a7362e2"), looks := false }, kinds := [], alts := [], laidByText := true, laidKinds := [.data, .data], laidTests := true, laidLooks := .later }
def WaterEnoughUptoCardSaid : Prop := Claim7.holds Tryd.pinned (.plain (OpenSpec.upto waterEnoughSpec)) waterEnoughUptoCard

/-- THE SECOND FORM's CARD OF 'bivouaclaw04.WaterBest'. -/
def waterBestUptoCard : Claim7 := { stood := { row := waterBestUptoRow, standIns := [], harness := (true, "4f7efe28caaa45564171d25f11409fd4ef28060505d0927f2fce85d71a7362e2"), looks := false }, kinds := [], alts := [], laidByText := true, laidKinds := [.data, .data], laidTests := true, laidLooks := .later }
def WaterBestUptoCardSaid : Prop := Claim7.holds Tryd.pinned (.plain (OpenSpec.upto waterBestSpec)) waterBestUptoCard

/-- THE SECOND FORM's CARD OF 'bivouaclaw04.WaterSettled'. -/
def waterSettledUptoCard : Claim7 := { stood := { row := waterSettledUptoRow, standIns := [], harness := (true, "4f7efe28caaa45564171d25f11409fd4ef28060505d0927f2fce85d71a7362e2"), looks := false }, kinds := [], alts := [], laidByText := true, laidKinds := [.data, .data], laidTests := true, laidLooks := .later }
def WaterSettledUptoCardSaid : Prop := Claim7.holds Tryd.pinned (.plain (OpenSpec.upto waterSettledSpec)) waterSettledUptoCard

/-- THE SECOND FORM's CARD OF 'bivouaclaw04.WaterTruths'. -/
def waterTruthsUptoCard : Claim7 := { stood := { row := waterTruthsUptoRow, standIns := [], harness := (true, "4f7efe28caaa45564171d25f11409fd4ef28060505d0927f2fce85d71a7362e2"), looks := false }, kinds := [], alts := [], laidByText := true, laidKinds := [.data, .data], laidTests := true, laidLooks := .later }
def WaterTruthsUptoCardSaid : Prop := Claim7.holds Tryd.pinned (.plain (OpenSpec.upto waterTruthsSpec)) waterTruthsUptoCard

/-- THE SECOND FORM's CARD OF 'bivouaclaw04.WaterServes'. -/
def waterServesUptoCard : Claim7 := { stood := { row := waterServesUptoRow, standIns := [], harness := (true, "4f7efe28caaa45564171d25f11409fd4ef28060505d0927f2fce85d71a7362e2"), looks := false }, kinds := [], alts := [], laidByText := true, laidKinds := [.data, .data], laidTests := true, laidLooks := .later }
def WaterServesUptoCardSaid : Prop := Claim7.holds Tryd.pinned (.plain (OpenSpec.upto waterServesSpec)) waterServesUptoCard

/-- THE SECOND FORM's CARD OF 'bivouaclaw04.WaterTests'. -/
def waterTestsUptoCard : Claim7 := { stood := { row := waterTestsUptoRow, standIns := [], harness := (true, "4f7efe28caaa45564171d25f11409fd4ef28060505d0927f2fce85d71a7362e2"), looks := false }, kinds := [], alts := [], laidByText := true, laidKinds := [.data, .data], laidTests := true, laidLooks := .later }
def WaterTestsUptoCardSaid : Prop := Claim7.holds Tryd.pinned (.plain (OpenSpec.upto waterTestsSpec)) waterTestsUptoCard
end Rows
end Go.Proofs.YtcfijidlbimckaaDoor
