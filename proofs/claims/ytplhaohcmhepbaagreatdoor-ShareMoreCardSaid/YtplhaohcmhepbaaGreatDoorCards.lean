/-
  DERIVED. GIVEN WITH THE SEED: THE CARDS: each row of YtplhaohcmhepbaaGreatDoorRows.lean that lists a variable, with what it lists TIED to the program's text (the seventh form; the later family's looks); each row that meets fmt, with fmt's text TOLD by the authors' own Lean function (tested against real Go, not proved from fmt's source: count such statements apart). THE CARD IS WHAT COUNTS. Prove the row's statement (the work); the ties are given (YtplhaohcmhepbaaGreatDoorTie.lean); close each card by the builder's one call (the guide's Derived/Test/ToyasCard.lean, 'card_holds'). Laid BY PROGRAM, IN A SANDBOX (cutbox-door.mjs). By AI agents, Wed Nov 11 2026. No macro, syntax, notation, axiom, sorry.
-/
import Derived.Test.YtplhaohcmhepbaaGreatDoorRows
import GoSem.ClaimSeven
namespace Go.Proofs.YtplhaohcmhepbaaGreatDoor
namespace Rows

/-- THE TIED CARD OF 'bathyallaw05.ShareClaims'. -/
def shareClaimsCard : Claim7 := { stood := { row := shareClaimsRow, standIns := [], harness := (true, "7e62b5f23aa16cc2579dbf745918b39c2216085a6a4405f0c28cfd6d2389e0e4"), looks := true }, kinds := [], alts := [], laidByText := true, laidKinds := [.data, .data, .data, .data, .pinned], laidTests := true, laidLooks := .later }
def ShareClaimsCardSaid : Prop := Claim7.holds Tryz.pinned (.plain (OpenSpec.ofChange shareClaimsSpec)) shareClaimsCard

/-- THE TIED CARD OF 'bathyallaw05.ShareSettles'. -/
def shareSettlesCard : Claim7 := { stood := { row := shareSettlesRow, standIns := [], harness := (true, "7e62b5f23aa16cc2579dbf745918b39c2216085a6a4405f0c28cfd6d2389e0e4"), looks := true }, kinds := [], alts := [], laidByText := true, laidKinds := [.data, .data, .data, .data, .pinned], laidTests := true, laidLooks := .later }
def ShareSettlesCardSaid : Prop := Claim7.holds Tryz.pinned (.plain (OpenSpec.ofChange shareSettlesSpec)) shareSettlesCard

/-- THE TIED CARD OF 'bathyallaw05.ShareKept'. -/
def shareKeptCard : Claim7 := { stood := { row := shareKeptRow, standIns := [], harness := (true, "7e62b5f23aa16cc2579dbf745918b39c2216085a6a4405f0c28cfd6d2389e0e4"), looks := true }, kinds := [], alts := [], laidByText := true, laidKinds := [.data, .data, .data, .data, .pinned], laidTests := true, laidLooks := .later }
def ShareKeptCardSaid : Prop := Claim7.holds Tryz.pinned (.plain (OpenSpec.ofChange shareKeptSpec)) shareKeptCard

/-- THE TIED CARD OF 'bathyallaw05.ShareOrder'. -/
def shareOrderCard : Claim7 := { stood := { row := shareOrderRow, standIns := [], harness := (true, "7e62b5f23aa16cc2579dbf745918b39c2216085a6a4405f0c28cfd6d2389e0e4"), looks := true }, kinds := [], alts := [], laidByText := true, laidKinds := [.data, .data, .data, .data, .pinned], laidTests := true, laidLooks := .later }
def ShareOrderCardSaid : Prop := Claim7.holds Tryz.pinned (.plain (OpenSpec.ofChange shareOrderSpec)) shareOrderCard

/-- THE TIED CARD OF 'bathyallaw05.ShareOne'. -/
def shareOneCard : Claim7 := { stood := { row := shareOneRow, standIns := [], harness := (true, "7e62b5f23aa16cc2579dbf745918b39c2216085a6a4405f0c28cfd6d2389e0e4"), looks := true }, kinds := [], alts := [], laidByText := true, laidKinds := [.data, .data, .data, .data, .pinned], laidTests := true, laidLooks := .later }
def ShareOneCardSaid : Prop := Claim7.holds Tryz.pinned (.plain (OpenSpec.ofChange shareOneSpec)) shareOneCard

/-- THE TIED CARD OF 'bathyallaw05.ShareOweds'. -/
def shareOwedsCard : Claim7 := { stood := { row := shareOwedsRow, standIns := [], harness := (true, "7e62b5f23aa16cc2579dbf745918b39c2216085a6a4405f0c28cfd6d2389e0e4"), looks := true }, kinds := [], alts := [], laidByText := true, laidKinds := [.data, .data, .data, .data, .pinned], laidTests := true, laidLooks := .later }
def ShareOwedsCardSaid : Prop := Claim7.holds Tryz.pinned (.plain (OpenSpec.ofChange shareOwedsSpec)) shareOwedsCard

/-- THE TIED CARD OF 'bathyallaw05.ShareTrue'. -/
def shareTrueCard : Claim7 := { stood := { row := shareTrueRow, standIns := [], harness := (true, "7e62b5f23aa16cc2579dbf745918b39c2216085a6a4405f0c28cfd6d2389e0e4"), looks := true }, kinds := [], alts := [], laidByText := true, laidKinds := [.data, .data, .data, .data, .pinned], laidTests := true, laidLooks := .later }
def ShareTrueCardSaid : Prop := Claim7.holds Tryz.pinned (.plain (OpenSpec.ofChange shareTrueSpec)) shareTrueCard

/-- THE TIED CARD OF 'bathyallaw05.ShareTrips'. -/
def shareTripsCard : Claim7 := { stood := { row := shareTripsRow, standIns := [], harness := (true, "7e62b5f23aa16cc2579dbf745918b39c2216085a6a4405f0c28cfd6d2389e0e4"), looks := true }, kinds := [], alts := [], laidByText := true, laidKinds := [.data, .data, .data, .data, .pinned], laidTests := true, laidLooks := .later }
def ShareTripsCardSaid : Prop := Claim7.holds Tryz.pinned (.plain (OpenSpec.ofChange shareTripsSpec)) shareTripsCard

/-- THE TIED CARD OF 'bathyallaw05.ShareWhich'. -/
def shareWhichCard : Claim7 := { stood := { row := shareWhichRow, standIns := [], harness := (true, "7e62b5f23aa16cc2579dbf745918b39c2216085a6a4405f0c28cfd6d2389e0e4"), looks := true }, kinds := [], alts := [], laidByText := true, laidKinds := [.data, .data, .data, .data, .pinned], laidTests := true, laidLooks := .later }
def ShareWhichCardSaid : Prop := Claim7.holds Tryz.pinned (.plain (OpenSpec.ofChange shareWhichSpec)) shareWhichCard

/-- THE TIED CARD OF 'bathyallaw05.ShareEasters'. -/
def shareEastersCard : Claim7 := { stood := { row := shareEastersRow, standIns := [], harness := (true, "7e62b5f23aa16cc2579dbf745918b39c2216085a6a4405f0c28cfd6d2389e0e4"), looks := true }, kinds := [], alts := [], laidByText := true, laidKinds := [.data, .data, .data, .data, .pinned], laidTests := true, laidLooks := .later }
def ShareEastersCardSaid : Prop := Claim7.holds Tryz.pinned (.plain (OpenSpec.ofChange shareEastersSpec)) shareEastersCard

/-- THE TIED CARD OF 'bathyallaw05.ShareFairer'. -/
def shareFairerCard : Claim7 := { stood := { row := shareFairerRow, standIns := [], harness := (true, "7e62b5f23aa16cc2579dbf745918b39c2216085a6a4405f0c28cfd6d2389e0e4"), looks := true }, kinds := [], alts := [], laidByText := true, laidKinds := [.data, .data, .data, .data, .pinned], laidTests := true, laidLooks := .later }
def ShareFairerCardSaid : Prop := Claim7.holds Tryz.pinned (.plain (OpenSpec.ofChange shareFairerSpec)) shareFairerCard

/-- THE TIED CARD OF 'bathyallaw05.ShareWorked'. -/
def shareWorkedCard : Claim7 := { stood := { row := shareWorkedRow, standIns := [], harness := (true, "7e62b5f23aa16cc2579dbf745918b39c2216085a6a4405f0c28cfd6d2389e0e4"), looks := true }, kinds := [], alts := [], laidByText := true, laidKinds := [.data, .data, .data, .data, .pinned], laidTests := true, laidLooks := .later }
def ShareWorkedCardSaid : Prop := Claim7.holds Tryz.pinned (.plain (OpenSpec.ofChange shareWorkedSpec)) shareWorkedCard

/-- THE TIED CARD OF 'bathyallaw05.ShareNexts'. -/
def shareNextsCard : Claim7 := { stood := { row := shareNextsRow, standIns := [], harness := (true, "7e62b5f23aa16cc2579dbf745918b39c2216085a6a4405f0c28cfd6d2389e0e4"), looks := true }, kinds := [], alts := [], laidByText := true, laidKinds := [.data, .data, .data, .data, .pinned], laidTests := true, laidLooks := .later }
def ShareNextsCardSaid : Prop := Claim7.holds Tryz.pinned (.plain (OpenSpec.ofChange shareNextsSpec)) shareNextsCard

/-- THE TIED CARD OF 'bathyallaw05.ShareBooks'. -/
def shareBooksCard : Claim7 := { stood := { row := shareBooksRow, standIns := [], harness := (true, "7e62b5f23aa16cc2579dbf745918b39c2216085a6a4405f0c28cfd6d2389e0e4"), looks := true }, kinds := [], alts := [], laidByText := true, laidKinds := [.data, .data, .data, .data, .pinned], laidTests := true, laidLooks := .later }
def ShareBooksCardSaid : Prop := Claim7.holds Tryz.pinned (.plain (OpenSpec.ofChange shareBooksSpec)) shareBooksCard

/-- THE TIED CARD OF 'bathyallaw05.ShareMends'. -/
def shareMendsCard : Claim7 := { stood := { row := shareMendsRow, standIns := [], harness := (true, "7e62b5f23aa16cc2579dbf745918b39c2216085a6a4405f0c28cfd6d2389e0e4"), looks := true }, kinds := [], alts := [], laidByText := true, laidKinds := [.data, .data, .data, .data, .pinned], laidTests := true, laidLooks := .later }
def ShareMendsCardSaid : Prop := Claim7.holds Tryz.pinned (.plain (OpenSpec.ofChange shareMendsSpec)) shareMendsCard

/-- THE TIED CARD OF 'bathyallaw05.ShareMended'. -/
def shareMendedCard : Claim7 := { stood := { row := shareMendedRow, standIns := [], harness := (true, "7e62b5f23aa16cc2579dbf745918b39c2216085a6a4405f0c28cfd6d2389e0e4"), looks := true }, kinds := [], alts := [], laidByText := true, laidKinds := [.data, .data, .data, .data, .pinned], laidTests := true, laidLooks := .later }
def ShareMendedCardSaid : Prop := Claim7.holds Tryz.pinned (.plain (OpenSpec.ofChange shareMendedSpec)) shareMendedCard

/-- THE TIED CARD OF 'bathyallaw05.ShareMore'. -/
def shareMoreCard : Claim7 := { stood := { row := shareMoreRow, standIns := [], harness := (true, "7e62b5f23aa16cc2579dbf745918b39c2216085a6a4405f0c28cfd6d2389e0e4"), looks := true }, kinds := [], alts := [], laidByText := true, laidKinds := [.data, .data, .data, .data, .pinned], laidTests := true, laidLooks := .later }
def ShareMoreCardSaid : Prop := Claim7.holds Tryz.pinned (.plain (OpenSpec.ofChange shareMoreSpec)) shareMoreCard

/-- THE TIED CARD OF 'bathyallaw05.SharePrints'. -/
def sharePrintsCard : Claim7 := { stood := { row := sharePrintsRow, standIns := [], harness := (true, "7e62b5f23aa16cc2579dbf745918b39c2216085a6a4405f0c28cfd6d2389e0e4"), looks := true }, kinds := [], alts := [], laidByText := true, laidKinds := [.data, .data, .data, .data, .pinned], laidTests := true, laidLooks := .later }
def SharePrintsCardSaid : Prop := Claim7.holds Tryz.pinned (.plain (OpenSpec.ofChange sharePrintsSpec)) sharePrintsCard

/-- THE TIED CARD OF 'bathyallaw05.ShareReads'. -/
def shareReadsCard : Claim7 := { stood := { row := shareReadsRow, standIns := [], harness := (true, "7e62b5f23aa16cc2579dbf745918b39c2216085a6a4405f0c28cfd6d2389e0e4"), looks := true }, kinds := [], alts := [], laidByText := true, laidKinds := [.data, .data, .data, .data, .pinned], laidTests := true, laidLooks := .later }
def ShareReadsCardSaid : Prop := Claim7.holds Tryz.pinned (.plain (OpenSpec.ofChange shareReadsSpec)) shareReadsCard

/-- THE TIED CARD OF 'bathyallaw05.ShareSpoilt'. -/
def shareSpoiltCard : Claim7 := { stood := { row := shareSpoiltRow, standIns := [], harness := (true, "7e62b5f23aa16cc2579dbf745918b39c2216085a6a4405f0c28cfd6d2389e0e4"), looks := true }, kinds := [], alts := [], laidByText := true, laidKinds := [.data, .data, .data, .data, .pinned], laidTests := true, laidLooks := .later }
def ShareSpoiltCardSaid : Prop := Claim7.holds Tryz.pinned (.plain (OpenSpec.ofChange shareSpoiltSpec)) shareSpoiltCard

/-- THE SECOND FORM's CARD OF 'bathyallaw05.ShareClaims'. -/
def shareClaimsUptoCard : Claim7 := { stood := { row := shareClaimsUptoRow, standIns := [], harness := (true, "7e62b5f23aa16cc2579dbf745918b39c2216085a6a4405f0c28cfd6d2389e0e4"), looks := true }, kinds := [], alts := [], laidByText := true, laidKinds := [.data, .data, .data, .data, .pinned], laidTests := true, laidLooks := .later }
def ShareClaimsUptoCardSaid : Prop := Claim7.holds Tryz.pinned (.plain (OpenSpec.upto shareClaimsSpec)) shareClaimsUptoCard

/-- THE SECOND FORM's CARD OF 'bathyallaw05.ShareSettles'. -/
def shareSettlesUptoCard : Claim7 := { stood := { row := shareSettlesUptoRow, standIns := [], harness := (true, "7e62b5f23aa16cc2579dbf745918b39c2216085a6a4405f0c28cfd6d2389e0e4"), looks := true }, kinds := [], alts := [], laidByText := true, laidKinds := [.data, .data, .data, .data, .pinned], laidTests := true, laidLooks := .later }
def ShareSettlesUptoCardSaid : Prop := Claim7.holds Tryz.pinned (.plain (OpenSpec.upto shareSettlesSpec)) shareSettlesUptoCard

/-- THE SECOND FORM's CARD OF 'bathyallaw05.ShareKept'. -/
def shareKeptUptoCard : Claim7 := { stood := { row := shareKeptUptoRow, standIns := [], harness := (true, "7e62b5f23aa16cc2579dbf745918b39c2216085a6a4405f0c28cfd6d2389e0e4"), looks := true }, kinds := [], alts := [], laidByText := true, laidKinds := [.data, .data, .data, .data, .pinned], laidTests := true, laidLooks := .later }
def ShareKeptUptoCardSaid : Prop := Claim7.holds Tryz.pinned (.plain (OpenSpec.upto shareKeptSpec)) shareKeptUptoCard

/-- THE SECOND FORM's CARD OF 'bathyallaw05.ShareOrder'. -/
def shareOrderUptoCard : Claim7 := { stood := { row := shareOrderUptoRow, standIns := [], harness := (true, "7e62b5f23aa16cc2579dbf745918b39c2216085a6a4405f0c28cfd6d2389e0e4"), looks := true }, kinds := [], alts := [], laidByText := true, laidKinds := [.data, .data, .data, .data, .pinned], laidTests := true, laidLooks := .later }
def ShareOrderUptoCardSaid : Prop := Claim7.holds Tryz.pinned (.plain (OpenSpec.upto shareOrderSpec)) shareOrderUptoCard

/-- THE SECOND FORM's CARD OF 'bathyallaw05.ShareOne'. -/
def shareOneUptoCard : Claim7 := { stood := { row := shareOneUptoRow, standIns := [], harness := (true, "7e62b5f23aa16cc2579dbf745918b39c2216085a6a4405f0c28cfd6d2389e0e4"), looks := true }, kinds := [], alts := [], laidByText := true, laidKinds := [.data, .data, .data, .data, .pinned], laidTests := true, laidLooks := .later }
def ShareOneUptoCardSaid : Prop := Claim7.holds Tryz.pinned (.plain (OpenSpec.upto shareOneSpec)) shareOneUptoCard

/-- THE SECOND FORM's CARD OF 'bathyallaw05.ShareOweds'. -/
def shareOwedsUptoCard : Claim7 := { stood := { row := shareOwedsUptoRow, standIns := [], harness := (true, "7e62b5f23aa16cc2579dbf745918b39c2216085a6a4405f0c28cfd6d2389e0e4"), looks := true }, kinds := [], alts := [], laidByText := true, laidKinds := [.data, .data, .data, .data, .pinned], laidTests := true, laidLooks := .later }
def ShareOwedsUptoCardSaid : Prop := Claim7.holds Tryz.pinned (.plain (OpenSpec.upto shareOwedsSpec)) shareOwedsUptoCard

/-- THE SECOND FORM's CARD OF 'bathyallaw05.ShareTrue'. -/
def shareTrueUptoCard : Claim7 := { stood := { row := shareTrueUptoRow, standIns := [], harness := (true, "7e62b5f23aa16cc2579dbf745918b39c2216085a6a4405f0c28cfd6d2389e0e4"), looks := true }, kinds := [], alts := [], laidByText := true, laidKinds := [.data, .data, .data, .data, .pinned], laidTests := true, laidLooks := .later }
def ShareTrueUptoCardSaid : Prop := Claim7.holds Tryz.pinned (.plain (OpenSpec.upto shareTrueSpec)) shareTrueUptoCard

/-- THE SECOND FORM's CARD OF 'bathyallaw05.ShareTrips'. -/
def shareTripsUptoCard : Claim7 := { stood := { row := shareTripsUptoRow, standIns := [], harness := (true, "7e62b5f23aa16cc2579dbf745918b39c2216085a6a4405f0c28cfd6d2389e0e4"), looks := true }, kinds := [], alts := [], laidByText := true, laidKinds := [.data, .data, .data, .data, .pinned], laidTests := true, laidLooks := .later }
def ShareTripsUptoCardSaid : Prop := Claim7.holds Tryz.pinned (.plain (OpenSpec.upto shareTripsSpec)) shareTripsUptoCard

/-- THE SECOND FORM's CARD OF 'bathyallaw05.ShareWhich'. -/
def shareWhichUptoCard : Claim7 := { stood := { row := shareWhichUptoRow, standIns := [], harness := (true, "7e62b5f23aa16cc2579dbf745918b39c2216085a6a4405f0c28cfd6d2389e0e4"), looks := true }, kinds := [], alts := [], laidByText := true, laidKinds := [.data, .data, .data, .data, .pinned], laidTests := true, laidLooks := .later }
def ShareWhichUptoCardSaid : Prop := Claim7.holds Tryz.pinned (.plain (OpenSpec.upto shareWhichSpec)) shareWhichUptoCard

/-- THE SECOND FORM's CARD OF 'bathyallaw05.ShareEasters'. -/
def shareEastersUptoCard : Claim7 := { stood := { row := shareEastersUptoRow, standIns := [], harness := (true, "7e62b5f23aa16cc2579dbf745918b39c2216085a6a4405f0c28cfd6d2389e0e4"), looks := true }, kinds := [], alts := [], laidByText := true, laidKinds := [.data, .data, .data, .data, .pinned], laidTests := true, laidLooks := .later }
def ShareEastersUptoCardSaid : Prop := Claim7.holds Tryz.pinned (.plain (OpenSpec.upto shareEastersSpec)) shareEastersUptoCard

/-- THE SECOND FORM's CARD OF 'bathyallaw05.ShareFairer'. -/
def shareFairerUptoCard : Claim7 := { stood := { row := shareFairerUptoRow, standIns := [], harness := (true, "7e62b5f23aa16cc2579dbf745918b39c2216085a6a4405f0c28cfd6d2389e0e4"), looks := true }, kinds := [], alts := [], laidByText := true, laidKinds := [.data, .data, .data, .data, .pinned], laidTests := true, laidLooks := .later }
def ShareFairerUptoCardSaid : Prop := Claim7.holds Tryz.pinned (.plain (OpenSpec.upto shareFairerSpec)) shareFairerUptoCard

/-- THE SECOND FORM's CARD OF 'bathyallaw05.ShareWorked'. -/
def shareWorkedUptoCard : Claim7 := { stood := { row := shareWorkedUptoRow, standIns := [], harness := (true, "7e62b5f23aa16cc2579dbf745918b39c2216085a6a4405f0c28cfd6d2389e0e4"), looks := true }, kinds := [], alts := [], laidByText := true, laidKinds := [.data, .data, .data, .data, .pinned], laidTests := true, laidLooks := .later }
def ShareWorkedUptoCardSaid : Prop := Claim7.holds Tryz.pinned (.plain (OpenSpec.upto shareWorkedSpec)) shareWorkedUptoCard

/-- THE SECOND FORM's CARD OF 'bathyallaw05.ShareNexts'. -/
def shareNextsUptoCard : Claim7 := { stood := { row := shareNextsUptoRow, standIns := [], harness := (true, "7e62b5f23aa16cc2579dbf745918b39c2216085a6a4405f0c28cfd6d2389e0e4"), looks := true }, kinds := [], alts := [], laidByText := true, laidKinds := [.data, .data, .data, .data, .pinned], laidTests := true, laidLooks := .later }
def ShareNextsUptoCardSaid : Prop := Claim7.holds Tryz.pinned (.plain (OpenSpec.upto shareNextsSpec)) shareNextsUptoCard

/-- THE SECOND FORM's CARD OF 'bathyallaw05.ShareBooks'. -/
def shareBooksUptoCard : Claim7 := { stood := { row := shareBooksUptoRow, standIns := [], harness := (true, "7e62b5f23aa16cc2579dbf745918b39c2216085a6a4405f0c28cfd6d2389e0e4"), looks := true }, kinds := [], alts := [], laidByText := true, laidKinds := [.data, .data, .data, .data, .pinned], laidTests := true, laidLooks := .later }
def ShareBooksUptoCardSaid : Prop := Claim7.holds Tryz.pinned (.plain (OpenSpec.upto shareBooksSpec)) shareBooksUptoCard

/-- THE SECOND FORM's CARD OF 'bathyallaw05.ShareMends'. -/
def shareMendsUptoCard : Claim7 := { stood := { row := shareMendsUptoRow, standIns := [], harness := (true, "7e62b5f23aa16cc2579dbf745918b39c2216085a6a4405f0c28cfd6d2389e0e4"), looks := true }, kinds := [], alts := [], laidByText := true, laidKinds := [.data, .data, .data, .data, .pinned], laidTests := true, laidLooks := .later }
def ShareMendsUptoCardSaid : Prop := Claim7.holds Tryz.pinned (.plain (OpenSpec.upto shareMendsSpec)) shareMendsUptoCard

/-- THE SECOND FORM's CARD OF 'bathyallaw05.ShareMended'. -/
def shareMendedUptoCard : Claim7 := { stood := { row := shareMendedUptoRow, standIns := [], harness := (true, "7e62b5f23aa16cc2579dbf745918b39c2216085a6a4405f0c28cfd6d2389e0e4"), looks := true }, kinds := [], alts := [], laidByText := true, laidKinds := [.data, .data, .data, .data, .pinned], laidTests := true, laidLooks := .later }
def ShareMendedUptoCardSaid : Prop := Claim7.holds Tryz.pinned (.plain (OpenSpec.upto shareMendedSpec)) shareMendedUptoCard

/-- THE SECOND FORM's CARD OF 'bathyallaw05.ShareMore'. -/
def shareMoreUptoCard : Claim7 := { stood := { row := shareMoreUptoRow, standIns := [], harness := (true, "7e62b5f23aa16cc2579dbf745918b39c2216085a6a4405f0c28cfd6d2389e0e4"), looks := true }, kinds := [], alts := [], laidByText := true, laidKinds := [.data, .data, .data, .data, .pinned], laidTests := true, laidLooks := .later }
def ShareMoreUptoCardSaid : Prop := Claim7.holds Tryz.pinned (.plain (OpenSpec.upto shareMoreSpec)) shareMoreUptoCard

/-- THE SECOND FORM's CARD OF 'bathyallaw05.SharePrints'. -/
def sharePrintsUptoCard : Claim7 := { stood := { row := sharePrintsUptoRow, standIns := [], harness := (true, "7e62b5f23aa16cc2579dbf745918b39c2216085a6a4405f0c28cfd6d2389e0e4"), looks := true }, kinds := [], alts := [], laidByText := true, laidKinds := [.data, .data, .data, .data, .pinned], laidTests := true, laidLooks := .later }
def SharePrintsUptoCardSaid : Prop := Claim7.holds Tryz.pinned (.plain (OpenSpec.upto sharePrintsSpec)) sharePrintsUptoCard

/-- THE SECOND FORM's CARD OF 'bathyallaw05.ShareReads'. -/
def shareReadsUptoCard : Claim7 := { stood := { row := shareReadsUptoRow, standIns := [], harness := (true, "7e62b5f23aa16cc2579dbf745918b39c2216085a6a4405f0c28cfd6d2389e0e4"), looks := true }, kinds := [], alts := [], laidByText := true, laidKinds := [.data, .data, .data, .data, .pinned], laidTests := true, laidLooks := .later }
def ShareReadsUptoCardSaid : Prop := Claim7.holds Tryz.pinned (.plain (OpenSpec.upto shareReadsSpec)) shareReadsUptoCard

/-- THE SECOND FORM's CARD OF 'bathyallaw05.ShareSpoilt'. -/
def shareSpoiltUptoCard : Claim7 := { stood := { row := shareSpoiltUptoRow, standIns := [], harness := (true, "7e62b5f23aa16cc2579dbf745918b39c2216085a6a4405f0c28cfd6d2389e0e4"), looks := true }, kinds := [], alts := [], laidByText := true, laidKinds := [.data, .data, .data, .data, .pinned], laidTests := true, laidLooks := .later }
def ShareSpoiltUptoCardSaid : Prop := Claim7.holds Tryz.pinned (.plain (OpenSpec.upto shareSpoiltSpec)) shareSpoiltUptoCard
end Rows
end Go.Proofs.YtplhaohcmhepbaaGreatDoor
