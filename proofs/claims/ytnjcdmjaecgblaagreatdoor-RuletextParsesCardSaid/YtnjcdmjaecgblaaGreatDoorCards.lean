/-
  DERIVED. GIVEN WITH THE SEED: THE CARDS: each row of YtnjcdmjaecgblaaGreatDoorRows.lean that lists a variable, with what it lists TIED to the program's text (the seventh form; the later family's looks); each row that meets fmt, with fmt's text TOLD by the authors' own Lean function (tested against real Go, not proved from fmt's source: count such statements apart). THE CARD IS WHAT COUNTS. Prove the row's statement (the work); the ties are given (YtnjcdmjaecgblaaGreatDoorTie.lean); close each card by the builder's one call (the guide's Derived/Test/ToyasCard.lean, 'card_holds'). Laid BY PROGRAM, IN A SANDBOX (cutbox-door.mjs). By AI agents, Wed Nov 11 2026. No macro, syntax, notation, axiom, sorry.
-/
import Derived.Test.YtnjcdmjaecgblaaGreatDoorRows
import GoSem.ClaimSeven
namespace Go.Proofs.YtnjcdmjaecgblaaGreatDoor
namespace Rows

/-- THE TIED CARD OF 'skirmishlaw10.RuletextFields'. -/
def ruletextFieldsCard : Claim7 := { stood := { row := ruletextFieldsRow, standIns := [], harness := (true, "db2695d70adcafd5c0d9f68c5fcbca189c4e46414dbdea2c459d04666347f1fa"), looks := true }, kinds := [], alts := [], laidByText := true, laidKinds := [.data, .data, .data, .data, .sentinel, .sentinel, .data, .pinned], laidTests := true, laidLooks := .later }
def RuletextFieldsCardSaid : Prop := Claim7.holds Tryz.pinned (.plain (OpenSpec.ofChange ruletextFieldsSpec)) ruletextFieldsCard

/-- THE TIED CARD OF 'skirmishlaw10.RuletextGets'. -/
def ruletextGetsCard : Claim7 := { stood := { row := ruletextGetsRow, standIns := [], harness := (true, "db2695d70adcafd5c0d9f68c5fcbca189c4e46414dbdea2c459d04666347f1fa"), looks := true }, kinds := [], alts := [], laidByText := true, laidKinds := [.data, .data, .data, .data, .sentinel, .sentinel, .data, .pinned], laidTests := true, laidLooks := .later }
def RuletextGetsCardSaid : Prop := Claim7.holds Tryz.pinned (.plain (OpenSpec.ofChange ruletextGetsSpec)) ruletextGetsCard

/-- THE TIED CARD OF 'skirmishlaw10.RuletextSets'. -/
def ruletextSetsCard : Claim7 := { stood := { row := ruletextSetsRow, standIns := [], harness := (true, "db2695d70adcafd5c0d9f68c5fcbca189c4e46414dbdea2c459d04666347f1fa"), looks := true }, kinds := [], alts := [], laidByText := true, laidKinds := [.data, .data, .data, .data, .sentinel, .sentinel, .data, .pinned], laidTests := true, laidLooks := .later }
def RuletextSetsCardSaid : Prop := Claim7.holds Tryz.pinned (.plain (OpenSpec.ofChange ruletextSetsSpec)) ruletextSetsCard

/-- THE TIED CARD OF 'skirmishlaw10.RuletextStays'. -/
def ruletextStaysCard : Claim7 := { stood := { row := ruletextStaysRow, standIns := [], harness := (true, "db2695d70adcafd5c0d9f68c5fcbca189c4e46414dbdea2c459d04666347f1fa"), looks := true }, kinds := [], alts := [], laidByText := true, laidKinds := [.data, .data, .data, .data, .sentinel, .sentinel, .data, .pinned], laidTests := true, laidLooks := .later }
def RuletextStaysCardSaid : Prop := Claim7.holds Tryz.pinned (.plain (OpenSpec.ofChange ruletextStaysSpec)) ruletextStaysCard

/-- THE TIED CARD OF 'skirmishlaw10.RuletextRoundTrips'. -/
def ruletextRoundTripsCard : Claim7 := { stood := { row := ruletextRoundTripsRow, standIns := [], harness := (true, "db2695d70adcafd5c0d9f68c5fcbca189c4e46414dbdea2c459d04666347f1fa"), looks := true }, kinds := [], alts := [], laidByText := true, laidKinds := [.data, .data, .data, .data, .sentinel, .sentinel, .data, .pinned], laidTests := true, laidLooks := .later }
def RuletextRoundTripsCardSaid : Prop := Claim7.holds Tryz.pinned (.plain (OpenSpec.ofChange ruletextRoundTripsSpec)) ruletextRoundTripsCard

/-- THE TIED CARD OF 'skirmishlaw10.RuletextParses'. -/
def ruletextParsesCard : Claim7 := { stood := { row := ruletextParsesRow, standIns := [], harness := (true, "db2695d70adcafd5c0d9f68c5fcbca189c4e46414dbdea2c459d04666347f1fa"), looks := true }, kinds := [], alts := [], laidByText := true, laidKinds := [.data, .data, .data, .data, .sentinel, .sentinel, .data, .pinned], laidTests := true, laidLooks := .later }
def RuletextParsesCardSaid : Prop := Claim7.holds Tryz.pinned (.plain (OpenSpec.ofChange ruletextParsesSpec)) ruletextParsesCard

/-- THE SECOND FORM's CARD OF 'skirmishlaw10.RuletextFields'. -/
def ruletextFieldsUptoCard : Claim7 := { stood := { row := ruletextFieldsUptoRow, standIns := [], harness := (true, "db2695d70adcafd5c0d9f68c5fcbca189c4e46414dbdea2c459d04666347f1fa"), looks := true }, kinds := [], alts := [], laidByText := true, laidKinds := [.data, .data, .data, .data, .sentinel, .sentinel, .data, .pinned], laidTests := true, laidLooks := .later }
def RuletextFieldsUptoCardSaid : Prop := Claim7.holds Tryz.pinned (.plain (OpenSpec.upto ruletextFieldsSpec)) ruletextFieldsUptoCard

/-- THE SECOND FORM's CARD OF 'skirmishlaw10.RuletextGets'. -/
def ruletextGetsUptoCard : Claim7 := { stood := { row := ruletextGetsUptoRow, standIns := [], harness := (true, "db2695d70adcafd5c0d9f68c5fcbca189c4e46414dbdea2c459d04666347f1fa"), looks := true }, kinds := [], alts := [], laidByText := true, laidKinds := [.data, .data, .data, .data, .sentinel, .sentinel, .data, .pinned], laidTests := true, laidLooks := .later }
def RuletextGetsUptoCardSaid : Prop := Claim7.holds Tryz.pinned (.plain (OpenSpec.upto ruletextGetsSpec)) ruletextGetsUptoCard

/-- THE SECOND FORM's CARD OF 'skirmishlaw10.RuletextSets'. -/
def ruletextSetsUptoCard : Claim7 := { stood := { row := ruletextSetsUptoRow, standIns := [], harness := (true, "db2695d70adcafd5c0d9f68c5fcbca189c4e46414dbdea2c459d04666347f1fa"), looks := true }, kinds := [], alts := [], laidByText := true, laidKinds := [.data, .data, .data, .data, .sentinel, .sentinel, .data, .pinned], laidTests := true, laidLooks := .later }
def RuletextSetsUptoCardSaid : Prop := Claim7.holds Tryz.pinned (.plain (OpenSpec.upto ruletextSetsSpec)) ruletextSetsUptoCard

/-- THE SECOND FORM's CARD OF 'skirmishlaw10.RuletextStays'. -/
def ruletextStaysUptoCard : Claim7 := { stood := { row := ruletextStaysUptoRow, standIns := [], harness := (true, "db2695d70adcafd5c0d9f68c5fcbca189c4e46414dbdea2c459d04666347f1fa"), looks := true }, kinds := [], alts := [], laidByText := true, laidKinds := [.data, .data, .data, .data, .sentinel, .sentinel, .data, .pinned], laidTests := true, laidLooks := .later }
def RuletextStaysUptoCardSaid : Prop := Claim7.holds Tryz.pinned (.plain (OpenSpec.upto ruletextStaysSpec)) ruletextStaysUptoCard

/-- THE SECOND FORM's CARD OF 'skirmishlaw10.RuletextRoundTrips'. -/
def ruletextRoundTripsUptoCard : Claim7 := { stood := { row := ruletextRoundTripsUptoRow, standIns := [], harness := (true, "db2695d70adcafd5c0d9f68c5fcbca189c4e46414dbdea2c459d04666347f1fa"), looks := true }, kinds := [], alts := [], laidByText := true, laidKinds := [.data, .data, .data, .data, .sentinel, .sentinel, .data, .pinned], laidTests := true, laidLooks := .later }
def RuletextRoundTripsUptoCardSaid : Prop := Claim7.holds Tryz.pinned (.plain (OpenSpec.upto ruletextRoundTripsSpec)) ruletextRoundTripsUptoCard

/-- THE SECOND FORM's CARD OF 'skirmishlaw10.RuletextParses'. -/
def ruletextParsesUptoCard : Claim7 := { stood := { row := ruletextParsesUptoRow, standIns := [], harness := (true, "db2695d70adcafd5c0d9f68c5fcbca189c4e46414dbdea2c459d04666347f1fa"), looks := true }, kinds := [], alts := [], laidByText := true, laidKinds := [.data, .data, .data, .data, .sentinel, .sentinel, .data, .pinned], laidTests := true, laidLooks := .later }
def RuletextParsesUptoCardSaid : Prop := Claim7.holds Tryz.pinned (.plain (OpenSpec.upto ruletextParsesSpec)) ruletextParsesUptoCard
end Rows
end Go.Proofs.YtnjcdmjaecgblaaGreatDoor
