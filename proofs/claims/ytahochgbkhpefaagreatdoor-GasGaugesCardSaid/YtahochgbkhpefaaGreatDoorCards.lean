/-
  DERIVED. GIVEN WITH THE SEED: THE CARDS: each row of YtahochgbkhpefaaGreatDoorRows.lean that lists a variable, with what it lists TIED to the program's text (the seventh form; the later family's looks); each row that meets fmt, with fmt's text TOLD by the authors' own Lean function (tested against real Go, not proved from fmt's source: count such statements apart). THE CARD IS WHAT COUNTS. Prove the row's statement (the work); the ties are given (YtahochgbkhpefaaGreatDoorTie.lean); close each card by the builder's one call (the guide's Derived/Test/ToyasCard.lean, 'card_holds'). Laid BY PROGRAM, IN A SANDBOX (cutbox-door.mjs). By AI agents, Wed Nov 11 2026. No macro, syntax, notation, axiom, sorry.
-/
import Derived.Test.YtahochgbkhpefaaGreatDoorRows
import GoSem.ClaimSeven
namespace Go.Proofs.YtahochgbkhpefaaGreatDoor
namespace Rows

/-- THE TIED CARD OF 'bathyallaw02.GasGauges'. -/
def gasGaugesCard : Claim7 := { stood := { row := gasGaugesRow, standIns := [], harness := (true, "7950fa0371113510b48b1005210e74e0fffa460a27dcdf5d658d223fe2172657"), looks := true }, kinds := [], alts := [], laidByText := true, laidKinds := [.data, .data, .data], laidTests := true, laidLooks := .later }
def GasGaugesCardSaid : Prop := Claim7.holds Tryz.pinned (.plain (OpenSpec.ofChange gasGaugesSpec)) gasGaugesCard

/-- THE TIED CARD OF 'bathyallaw02.GasGauged'. -/
def gasGaugedCard : Claim7 := { stood := { row := gasGaugedRow, standIns := [], harness := (true, "7950fa0371113510b48b1005210e74e0fffa460a27dcdf5d658d223fe2172657"), looks := true }, kinds := [], alts := [], laidByText := true, laidKinds := [.data, .data, .data], laidTests := true, laidLooks := .later }
def GasGaugedCardSaid : Prop := Claim7.holds Tryz.pinned (.plain (OpenSpec.ofChange gasGaugedSpec)) gasGaugedCard

/-- THE TIED CARD OF 'bathyallaw02.GasLoads'. -/
def gasLoadsCard : Claim7 := { stood := { row := gasLoadsRow, standIns := [], harness := (true, "7950fa0371113510b48b1005210e74e0fffa460a27dcdf5d658d223fe2172657"), looks := true }, kinds := [], alts := [], laidByText := true, laidKinds := [.data, .data, .data], laidTests := true, laidLooks := .later }
def GasLoadsCardSaid : Prop := Claim7.holds Tryz.pinned (.plain (OpenSpec.ofChange gasLoadsSpec)) gasLoadsCard

/-- THE TIED CARD OF 'bathyallaw02.GasSteady'. -/
def gasSteadyCard : Claim7 := { stood := { row := gasSteadyRow, standIns := [], harness := (true, "7950fa0371113510b48b1005210e74e0fffa460a27dcdf5d658d223fe2172657"), looks := true }, kinds := [], alts := [], laidByText := true, laidKinds := [.data, .data, .data], laidTests := true, laidLooks := .later }
def GasSteadyCardSaid : Prop := Claim7.holds Tryz.pinned (.plain (OpenSpec.ofChange gasSteadySpec)) gasSteadyCard

/-- THE TIED CARD OF 'bathyallaw02.GasRuns'. -/
def gasRunsCard : Claim7 := { stood := { row := gasRunsRow, standIns := [], harness := (true, "7950fa0371113510b48b1005210e74e0fffa460a27dcdf5d658d223fe2172657"), looks := true }, kinds := [], alts := [], laidByText := true, laidKinds := [.data, .data, .data], laidTests := true, laidLooks := .later }
def GasRunsCardSaid : Prop := Claim7.holds Tryz.pinned (.plain (OpenSpec.ofChange gasRunsSpec)) gasRunsCard

/-- THE TIED CARD OF 'bathyallaw02.GasKnowns'. -/
def gasKnownsCard : Claim7 := { stood := { row := gasKnownsRow, standIns := [], harness := (true, "7950fa0371113510b48b1005210e74e0fffa460a27dcdf5d658d223fe2172657"), looks := true }, kinds := [], alts := [], laidByText := true, laidKinds := [.data, .data, .data], laidTests := true, laidLooks := .later }
def GasKnownsCardSaid : Prop := Claim7.holds Tryz.pinned (.plain (OpenSpec.ofChange gasKnownsSpec)) gasKnownsCard

/-- THE TIED CARD OF 'bathyallaw02.GasTrue'. -/
def gasTrueCard : Claim7 := { stood := { row := gasTrueRow, standIns := [], harness := (true, "7950fa0371113510b48b1005210e74e0fffa460a27dcdf5d658d223fe2172657"), looks := true }, kinds := [], alts := [], laidByText := true, laidKinds := [.data, .data, .data], laidTests := true, laidLooks := .later }
def GasTrueCardSaid : Prop := Claim7.holds Tryz.pinned (.plain (OpenSpec.ofChange gasTrueSpec)) gasTrueCard

/-- THE TIED CARD OF 'bathyallaw02.GasEnds'. -/
def gasEndsCard : Claim7 := { stood := { row := gasEndsRow, standIns := [], harness := (true, "7950fa0371113510b48b1005210e74e0fffa460a27dcdf5d658d223fe2172657"), looks := true }, kinds := [], alts := [], laidByText := true, laidKinds := [.data, .data, .data], laidTests := true, laidLooks := .later }
def GasEndsCardSaid : Prop := Claim7.holds Tryz.pinned (.plain (OpenSpec.ofChange gasEndsSpec)) gasEndsCard

/-- THE TIED CARD OF 'bathyallaw02.GasSures'. -/
def gasSuresCard : Claim7 := { stood := { row := gasSuresRow, standIns := [], harness := (true, "7950fa0371113510b48b1005210e74e0fffa460a27dcdf5d658d223fe2172657"), looks := true }, kinds := [], alts := [], laidByText := true, laidKinds := [.data, .data, .data], laidTests := true, laidLooks := .later }
def GasSuresCardSaid : Prop := Claim7.holds Tryz.pinned (.plain (OpenSpec.ofChange gasSuresSpec)) gasSuresCard

/-- THE TIED CARD OF 'bathyallaw02.GasLimits'. -/
def gasLimitsCard : Claim7 := { stood := { row := gasLimitsRow, standIns := [], harness := (true, "7950fa0371113510b48b1005210e74e0fffa460a27dcdf5d658d223fe2172657"), looks := true }, kinds := [], alts := [], laidByText := true, laidKinds := [.data, .data, .data], laidTests := true, laidLooks := .later }
def GasLimitsCardSaid : Prop := Claim7.holds Tryz.pinned (.plain (OpenSpec.ofChange gasLimitsSpec)) gasLimitsCard

/-- THE TIED CARD OF 'bathyallaw02.GasStays'. -/
def gasStaysCard : Claim7 := { stood := { row := gasStaysRow, standIns := [], harness := (true, "7950fa0371113510b48b1005210e74e0fffa460a27dcdf5d658d223fe2172657"), looks := true }, kinds := [], alts := [], laidByText := true, laidKinds := [.data, .data, .data], laidTests := true, laidLooks := .later }
def GasStaysCardSaid : Prop := Claim7.holds Tryz.pinned (.plain (OpenSpec.ofChange gasStaysSpec)) gasStaysCard

/-- THE TIED CARD OF 'bathyallaw02.GasStops'. -/
def gasStopsCard : Claim7 := { stood := { row := gasStopsRow, standIns := [], harness := (true, "7950fa0371113510b48b1005210e74e0fffa460a27dcdf5d658d223fe2172657"), looks := true }, kinds := [], alts := [], laidByText := true, laidKinds := [.data, .data, .data], laidTests := true, laidLooks := .later }
def GasStopsCardSaid : Prop := Claim7.holds Tryz.pinned (.plain (OpenSpec.ofChange gasStopsSpec)) gasStopsCard

/-- THE SECOND FORM's CARD OF 'bathyallaw02.GasGauges'. -/
def gasGaugesUptoCard : Claim7 := { stood := { row := gasGaugesUptoRow, standIns := [], harness := (true, "7950fa0371113510b48b1005210e74e0fffa460a27dcdf5d658d223fe2172657"), looks := true }, kinds := [], alts := [], laidByText := true, laidKinds := [.data, .data, .data], laidTests := true, laidLooks := .later }
def GasGaugesUptoCardSaid : Prop := Claim7.holds Tryz.pinned (.plain (OpenSpec.upto gasGaugesSpec)) gasGaugesUptoCard

/-- THE SECOND FORM's CARD OF 'bathyallaw02.GasGauged'. -/
def gasGaugedUptoCard : Claim7 := { stood := { row := gasGaugedUptoRow, standIns := [], harness := (true, "7950fa0371113510b48b1005210e74e0fffa460a27dcdf5d658d223fe2172657"), looks := true }, kinds := [], alts := [], laidByText := true, laidKinds := [.data, .data, .data], laidTests := true, laidLooks := .later }
def GasGaugedUptoCardSaid : Prop := Claim7.holds Tryz.pinned (.plain (OpenSpec.upto gasGaugedSpec)) gasGaugedUptoCard

/-- THE SECOND FORM's CARD OF 'bathyallaw02.GasLoads'. -/
def gasLoadsUptoCard : Claim7 := { stood := { row := gasLoadsUptoRow, standIns := [], harness := (true, "7950fa0371113510b48b1005210e74e0fffa460a27dcdf5d658d223fe2172657"), looks := true }, kinds := [], alts := [], laidByText := true, laidKinds := [.data, .data, .data], laidTests := true, laidLooks := .later }
def GasLoadsUptoCardSaid : Prop := Claim7.holds Tryz.pinned (.plain (OpenSpec.upto gasLoadsSpec)) gasLoadsUptoCard

/-- THE SECOND FORM's CARD OF 'bathyallaw02.GasSteady'. -/
def gasSteadyUptoCard : Claim7 := { stood := { row := gasSteadyUptoRow, standIns := [], harness := (true, "7950fa0371113510b48b1005210e74e0fffa460a27dcdf5d658d223fe2172657"), looks := true }, kinds := [], alts := [], laidByText := true, laidKinds := [.data, .data, .data], laidTests := true, laidLooks := .later }
def GasSteadyUptoCardSaid : Prop := Claim7.holds Tryz.pinned (.plain (OpenSpec.upto gasSteadySpec)) gasSteadyUptoCard

/-- THE SECOND FORM's CARD OF 'bathyallaw02.GasRuns'. -/
def gasRunsUptoCard : Claim7 := { stood := { row := gasRunsUptoRow, standIns := [], harness := (true, "7950fa0371113510b48b1005210e74e0fffa460a27dcdf5d658d223fe2172657"), looks := true }, kinds := [], alts := [], laidByText := true, laidKinds := [.data, .data, .data], laidTests := true, laidLooks := .later }
def GasRunsUptoCardSaid : Prop := Claim7.holds Tryz.pinned (.plain (OpenSpec.upto gasRunsSpec)) gasRunsUptoCard

/-- THE SECOND FORM's CARD OF 'bathyallaw02.GasKnowns'. -/
def gasKnownsUptoCard : Claim7 := { stood := { row := gasKnownsUptoRow, standIns := [], harness := (true, "7950fa0371113510b48b1005210e74e0fffa460a27dcdf5d658d223fe2172657"), looks := true }, kinds := [], alts := [], laidByText := true, laidKinds := [.data, .data, .data], laidTests := true, laidLooks := .later }
def GasKnownsUptoCardSaid : Prop := Claim7.holds Tryz.pinned (.plain (OpenSpec.upto gasKnownsSpec)) gasKnownsUptoCard

/-- THE SECOND FORM's CARD OF 'bathyallaw02.GasTrue'. -/
def gasTrueUptoCard : Claim7 := { stood := { row := gasTrueUptoRow, standIns := [], harness := (true, "7950fa0371113510b48b1005210e74e0fffa460a27dcdf5d658d223fe2172657"), looks := true }, kinds := [], alts := [], laidByText := true, laidKinds := [.data, .data, .data], laidTests := true, laidLooks := .later }
def GasTrueUptoCardSaid : Prop := Claim7.holds Tryz.pinned (.plain (OpenSpec.upto gasTrueSpec)) gasTrueUptoCard

/-- THE SECOND FORM's CARD OF 'bathyallaw02.GasEnds'. -/
def gasEndsUptoCard : Claim7 := { stood := { row := gasEndsUptoRow, standIns := [], harness := (true, "7950fa0371113510b48b1005210e74e0fffa460a27dcdf5d658d223fe2172657"), looks := true }, kinds := [], alts := [], laidByText := true, laidKinds := [.data, .data, .data], laidTests := true, laidLooks := .later }
def GasEndsUptoCardSaid : Prop := Claim7.holds Tryz.pinned (.plain (OpenSpec.upto gasEndsSpec)) gasEndsUptoCard

/-- THE SECOND FORM's CARD OF 'bathyallaw02.GasSures'. -/
def gasSuresUptoCard : Claim7 := { stood := { row := gasSuresUptoRow, standIns := [], harness := (true, "7950fa0371113510b48b1005210e74e0fffa460a27dcdf5d658d223fe2172657"), looks := true }, kinds := [], alts := [], laidByText := true, laidKinds := [.data, .data, .data], laidTests := true, laidLooks := .later }
def GasSuresUptoCardSaid : Prop := Claim7.holds Tryz.pinned (.plain (OpenSpec.upto gasSuresSpec)) gasSuresUptoCard

/-- THE SECOND FORM's CARD OF 'bathyallaw02.GasLimits'. -/
def gasLimitsUptoCard : Claim7 := { stood := { row := gasLimitsUptoRow, standIns := [], harness := (true, "7950fa0371113510b48b1005210e74e0fffa460a27dcdf5d658d223fe2172657"), looks := true }, kinds := [], alts := [], laidByText := true, laidKinds := [.data, .data, .data], laidTests := true, laidLooks := .later }
def GasLimitsUptoCardSaid : Prop := Claim7.holds Tryz.pinned (.plain (OpenSpec.upto gasLimitsSpec)) gasLimitsUptoCard

/-- THE SECOND FORM's CARD OF 'bathyallaw02.GasStays'. -/
def gasStaysUptoCard : Claim7 := { stood := { row := gasStaysUptoRow, standIns := [], harness := (true, "7950fa0371113510b48b1005210e74e0fffa460a27dcdf5d658d223fe2172657"), looks := true }, kinds := [], alts := [], laidByText := true, laidKinds := [.data, .data, .data], laidTests := true, laidLooks := .later }
def GasStaysUptoCardSaid : Prop := Claim7.holds Tryz.pinned (.plain (OpenSpec.upto gasStaysSpec)) gasStaysUptoCard

/-- THE SECOND FORM's CARD OF 'bathyallaw02.GasStops'. -/
def gasStopsUptoCard : Claim7 := { stood := { row := gasStopsUptoRow, standIns := [], harness := (true, "7950fa0371113510b48b1005210e74e0fffa460a27dcdf5d658d223fe2172657"), looks := true }, kinds := [], alts := [], laidByText := true, laidKinds := [.data, .data, .data], laidTests := true, laidLooks := .later }
def GasStopsUptoCardSaid : Prop := Claim7.holds Tryz.pinned (.plain (OpenSpec.upto gasStopsSpec)) gasStopsUptoCard
end Rows
end Go.Proofs.YtahochgbkhpefaaGreatDoor
