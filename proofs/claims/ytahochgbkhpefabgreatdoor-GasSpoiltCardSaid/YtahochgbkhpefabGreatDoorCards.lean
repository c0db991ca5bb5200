/-
  DERIVED. GIVEN WITH THE SEED: THE CARDS: each row of YtahochgbkhpefabGreatDoorRows.lean that lists a variable, with what it lists TIED to the program's text (the seventh form; the later family's looks); each row that meets fmt, with fmt's text TOLD by the authors' own Lean function (tested against real Go, not proved from fmt's source: count such statements apart). THE CARD IS WHAT COUNTS. Prove the row's statement (the work); the ties are given (YtahochgbkhpefabGreatDoorTie.lean); close each card by the builder's one call (the guide's Derived/Test/ToyasCard.lean, 'card_holds'). Laid BY PROGRAM, IN A SANDBOX (cutbox-door.mjs). By AI agents, Wed Nov 11 2026. No macro, syntax, notation, axiom, sorry.
-/
import Derived.Test.YtahochgbkhpefabGreatDoorRows
import GoSem.ClaimSeven
namespace Go.Proofs.YtahochgbkhpefabGreatDoor
namespace Rows

/-- THE TIED CARD OF 'bathyallaw02.GasHelped'. -/
def gasHelpedCard : Claim7 := { stood := { row := gasHelpedRow, standIns := [], harness := (true, "4fc05ff97337c211e58e94116c1afb33103fda01ac6f5a8902717e04a03fffff"), looks := true }, kinds := [], alts := [], laidByText := true, laidKinds := [.data, .data, .data], laidTests := true, laidLooks := .later }
def GasHelpedCardSaid : Prop := Claim7.holds Tryz.pinned (.plain (OpenSpec.ofChange gasHelpedSpec)) gasHelpedCard

/-- THE TIED CARD OF 'bathyallaw02.GasMoments'. -/
def gasMomentsCard : Claim7 := { stood := { row := gasMomentsRow, standIns := [], harness := (true, "4fc05ff97337c211e58e94116c1afb33103fda01ac6f5a8902717e04a03fffff"), looks := true }, kinds := [], alts := [], laidByText := true, laidKinds := [.data, .data, .data], laidTests := true, laidLooks := .later }
def GasMomentsCardSaid : Prop := Claim7.holds Tryz.pinned (.plain (OpenSpec.ofChange gasMomentsSpec)) gasMomentsCard

/-- THE TIED CARD OF 'bathyallaw02.GasLatest'. -/
def gasLatestCard : Claim7 := { stood := { row := gasLatestRow, standIns := [], harness := (true, "4fc05ff97337c211e58e94116c1afb33103fda01ac6f5a8902717e04a03fffff"), looks := true }, kinds := [], alts := [], laidByText := true, laidKinds := [.data, .data, .data], laidTests := true, laidLooks := .later }
def GasLatestCardSaid : Prop := Claim7.holds Tryz.pinned (.plain (OpenSpec.ofChange gasLatestSpec)) gasLatestCard

/-- THE TIED CARD OF 'bathyallaw02.GasWaits'. -/
def gasWaitsCard : Claim7 := { stood := { row := gasWaitsRow, standIns := [], harness := (true, "4fc05ff97337c211e58e94116c1afb33103fda01ac6f5a8902717e04a03fffff"), looks := true }, kinds := [], alts := [], laidByText := true, laidKinds := [.data, .data, .data], laidTests := true, laidLooks := .later }
def GasWaitsCardSaid : Prop := Claim7.holds Tryz.pinned (.plain (OpenSpec.ofChange gasWaitsSpec)) gasWaitsCard

/-- THE TIED CARD OF 'bathyallaw02.GasRested'. -/
def gasRestedCard : Claim7 := { stood := { row := gasRestedRow, standIns := [], harness := (true, "4fc05ff97337c211e58e94116c1afb33103fda01ac6f5a8902717e04a03fffff"), looks := true }, kinds := [], alts := [], laidByText := true, laidKinds := [.data, .data, .data], laidTests := true, laidLooks := .later }
def GasRestedCardSaid : Prop := Claim7.holds Tryz.pinned (.plain (OpenSpec.ofChange gasRestedSpec)) gasRestedCard

/-- THE TIED CARD OF 'bathyallaw02.GasTreated'. -/
def gasTreatedCard : Claim7 := { stood := { row := gasTreatedRow, standIns := [], harness := (true, "4fc05ff97337c211e58e94116c1afb33103fda01ac6f5a8902717e04a03fffff"), looks := true }, kinds := [], alts := [], laidByText := true, laidKinds := [.data, .data, .data], laidTests := true, laidLooks := .later }
def GasTreatedCardSaid : Prop := Claim7.holds Tryz.pinned (.plain (OpenSpec.ofChange gasTreatedSpec)) gasTreatedCard

/-- THE TIED CARD OF 'bathyallaw02.GasPrints'. -/
def gasPrintsCard : Claim7 := { stood := { row := gasPrintsRow, standIns := [], harness := (true, "4fc05ff97337c211e58e94116c1afb33103fda01ac6f5a8902717e04a03fffff"), looks := true }, kinds := [], alts := [], laidByText := true, laidKinds := [.data, .data, .data, .data, .pinned], laidTests := true, laidLooks := .later }
def GasPrintsCardSaid : Prop := Claim7.holds Tryz.pinned (.plain (OpenSpec.ofChange gasPrintsSpec)) gasPrintsCard

/-- THE TIED CARD OF 'bathyallaw02.GasReads'. -/
def gasReadsCard : Claim7 := { stood := { row := gasReadsRow, standIns := [], harness := (true, "4fc05ff97337c211e58e94116c1afb33103fda01ac6f5a8902717e04a03fffff"), looks := true }, kinds := [], alts := [], laidByText := true, laidKinds := [.data, .data, .data, .data, .pinned], laidTests := true, laidLooks := .later }
def GasReadsCardSaid : Prop := Claim7.holds Tryz.pinned (.plain (OpenSpec.ofChange gasReadsSpec)) gasReadsCard

/-- THE TIED CARD OF 'bathyallaw02.GasSpoilt'. -/
def gasSpoiltCard : Claim7 := { stood := { row := gasSpoiltRow, standIns := [], harness := (true, "4fc05ff97337c211e58e94116c1afb33103fda01ac6f5a8902717e04a03fffff"), looks := true }, kinds := [], alts := [], laidByText := true, laidKinds := [.data, .data, .data, .data, .pinned], laidTests := true, laidLooks := .later }
def GasSpoiltCardSaid : Prop := Claim7.holds Tryz.pinned (.plain (OpenSpec.ofChange gasSpoiltSpec)) gasSpoiltCard

/-- THE TIED CARD OF 'bathyallaw02.GasMore'. -/
def gasMoreCard : Claim7 := { stood := { row := gasMoreRow, standIns := [], harness := (true, "4fc05ff97337c211e58e94116c1afb33103fda01ac6f5a8902717e04a03fffff"), looks := true }, kinds := [], alts := [], laidByText := true, laidKinds := [.data, .data, .data], laidTests := true, laidLooks := .later }
def GasMoreCardSaid : Prop := Claim7.holds Tryz.pinned (.plain (OpenSpec.ofChange gasMoreSpec)) gasMoreCard

/-- THE SECOND FORM's CARD OF 'bathyallaw02.GasHelped'. -/
def gasHelpedUptoCard : Claim7 := { stood := { row := gasHelpedUptoRow, standIns := [], harness := (true, "4fc05ff97337c211e58e94116c1afb33103fda01ac6f5a8902717e04a03fffff"), looks := true }, kinds := [], alts := [], laidByText := true, laidKinds := [.data, .data, .data], laidTests := true, laidLooks := .later }
def GasHelpedUptoCardSaid : Prop := Claim7.holds Tryz.pinned (.plain (OpenSpec.upto gasHelpedSpec)) gasHelpedUptoCard

/-- THE SECOND FORM's CARD OF 'bathyallaw02.GasMoments'. -/
def gasMomentsUptoCard : Claim7 := { stood := { row := gasMomentsUptoRow, standIns := [], harness := (true, "4fc05ff97337c211e58e94116c1afb33103fda01ac6f5a8902717e04a03fffff"), looks := true }, kinds := [], alts := [], laidByText := true, laidKinds := [.data, .data, .data], laidTests := true, laidLooks := .later }
def GasMomentsUptoCardSaid : Prop := Claim7.holds Tryz.pinned (.plain (OpenSpec.upto gasMomentsSpec)) gasMomentsUptoCard

/-- THE SECOND FORM's CARD OF 'bathyallaw02.GasLatest'. -/
def gasLatestUptoCard : Claim7 := { stood := { row := gasLatestUptoRow, standIns := [], harness := (true, "4fc05ff97337c211e58e94116c1afb33103fda01ac6f5a8902717e04a03fffff"), looks := true }, kinds := [], alts := [], laidByText := true, laidKinds := [.data, .data, .data], laidTests := true, laidLooks := .later }
def GasLatestUptoCardSaid : Prop := Claim7.holds Tryz.pinned (.plain (OpenSpec.upto gasLatestSpec)) gasLatestUptoCard

/-- THE SECOND FORM's CARD OF 'bathyallaw02.GasWaits'. -/
def gasWaitsUptoCard : Claim7 := { stood := { row := gasWaitsUptoRow, standIns := [], harness := (true, "4fc05ff97337c211e58e94116c1afb33103fda01ac6f5a8902717e04a03fffff"), looks := true }, kinds := [], alts := [], laidByText := true, laidKinds := [.data, .data, .data], laidTests := true, laidLooks := .later }
def GasWaitsUptoCardSaid : Prop := Claim7.holds Tryz.pinned (.plain (OpenSpec.upto gasWaitsSpec)) gasWaitsUptoCard

/-- THE SECOND FORM's CARD OF 'bathyallaw02.GasRested'. -/
def gasRestedUptoCard : Claim7 := { stood := { row := gasRestedUptoRow, standIns := [], harness := (true, "4fc05ff97337c211e58e94116c1afb33103fda01ac6f5a8902717e04a03fffff"), looks := true }, kinds := [], alts := [], laidByText := true, laidKinds := [.data, .data, .data], laidTests := true, laidLooks := .later }
def GasRestedUptoCardSaid : Prop := Claim7.holds Tryz.pinned (.plain (OpenSpec.upto gasRestedSpec)) gasRestedUptoCard

/-- THE SECOND FORM's CARD OF 'bathyallaw02.GasTreated'. -/
def gasTreatedUptoCard : Claim7 := { stood := { row := gasTreatedUptoRow, standIns := [], harness := (true, "4fc05ff97337c211e58e94116c1afb33103fda01ac6f5a8902717e04a03fffff"), looks := true }, kinds := [], alts := [], laidByText := true, laidKinds := [.data, .data, .data], laidTests := true, laidLooks := .later }
def GasTreatedUptoCardSaid : Prop := Claim7.holds Tryz.pinned (.plain (OpenSpec.upto gasTreatedSpec)) gasTreatedUptoCard

/-- THE SECOND FORM's CARD OF 'bathyallaw02.GasPrints'. -/
def gasPrintsUptoCard : Claim7 := { stood := { row := gasPrintsUptoRow, standIns := [], harness := (true, "4fc05ff97337c211e58e94116c1afb33103fda01ac6f5a8902717e04a03fffff"), looks := true }, kinds := [], alts := [], laidByText := true, laidKinds := [.data, .data, .data, .data, .pinned], laidTests := true, laidLooks := .later }
def GasPrintsUptoCardSaid : Prop := Claim7.holds Tryz.pinned (.plain (OpenSpec.upto gasPrintsSpec)) gasPrintsUptoCard

/-- THE SECOND FORM's CARD OF 'bathyallaw02.GasReads'. -/
def gasReadsUptoCard : Claim7 := { stood := { row := gasReadsUptoRow, standIns := [], harness := (true, "4fc05ff97337c211e58e94116c1afb33103fda01ac6f5a8902717e04a03fffff"), looks := true }, kinds := [], alts := [], laidByText := true, laidKinds := [.data, .data, .data, .data, .pinned], laidTests := true, laidLooks := .later }
def GasReadsUptoCardSaid : Prop := Claim7.holds Tryz.pinned (.plain (OpenSpec.upto gasReadsSpec)) gasReadsUptoCard

/-- THE SECOND FORM's CARD OF 'bathyallaw02.GasSpoilt'. -/
def gasSpoiltUptoCard : Claim7 := { stood := { row := gasSpoiltUptoRow, standIns := [], harness := (true, "4fc05ff97337c211e58e94116c1afb33103fda01ac6f5a8902717e04a03fffff"), looks := true }, kinds := [], alts := [], laidByText := true, laidKinds := [.data, .data, .data, .data, .pinned], laidTests := true, laidLooks := .later }
def GasSpoiltUptoCardSaid : Prop := Claim7.holds Tryz.pinned (.plain (OpenSpec.upto gasSpoiltSpec)) gasSpoiltUptoCard

/-- THE SECOND FORM's CARD OF 'bathyallaw02.GasMore'. -/
def gasMoreUptoCard : Claim7 := { stood := { row := gasMoreUptoRow, standIns := [], harness := (true, "4fc05ff97337c211e58e94116c1afb33103fda01ac6f5a8902717e04a03fffff"), looks := true }, kinds := [], alts := [], laidByText := true, laidKinds := [.data, .data, .data], laidTests := true, laidLooks := .later }
def GasMoreUptoCardSaid : Prop := Claim7.holds Tryz.pinned (.plain (OpenSpec.upto gasMoreSpec)) gasMoreUptoCard
end Rows
end Go.Proofs.YtahochgbkhpefabGreatDoor
