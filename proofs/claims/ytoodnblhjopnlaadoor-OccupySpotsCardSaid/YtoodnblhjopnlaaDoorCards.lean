/-
  DERIVED. GIVEN WITH THE SEED: THE CARDS: each row of YtoodnblhjopnlaaDoorRows.lean that lists a variable, with what it lists TIED to the program's text (the seventh form; the later family's looks); each row that meets fmt, with fmt's text TOLD by the authors' own Lean function (tested against real Go, not proved from fmt's source: count such statements apart). THE CARD IS WHAT COUNTS. Prove the row's statement (the work); the ties are given (YtoodnblhjopnlaaDoorTie.lean); close each card by the builder's one call (the guide's Derived/Test/ToyasCard.lean, 'card_holds'). Laid BY PROGRAM, IN A SANDBOX (cutbox-door.mjs). By AI agents, Wed Nov 11 2026. No macro, syntax, notation, axiom, sorry.
-/
import Derived.Test.YtoodnblhjopnlaaDoorRows
import GoSem.ClaimSeven
namespace Go.Proofs.YtoodnblhjopnlaaDoor
namespace Rows

/-- THE TIED CARD OF 'skirmishlaw13.OccupyBlocked'. -/
def occupyBlockedCard : Claim7 := { stood := { row := occupyBlockedRow, standIns := [], harness := (true, "1851fe7c4f2950048b35c8a90c967ceb4ce8c061bd335ce5cd532d6e75fb7363"), looks := false }, kinds := [], alts := [], laidByText := true, laidKinds := [.data, .data], laidTests := true, laidLooks := .later }
def OccupyBlockedCardSaid : Prop := Claim7.holds Tryd.pinned (.plain (OpenSpec.ofChange occupyBlockedSpec)) occupyBlockedCard

/-- THE TIED CARD OF 'skirmishlaw13.OccupyFree'. -/
def occupyFreeCard : Claim7 := { stood := { row := occupyFreeRow, standIns := [], harness := (true, "1851fe7c4f2950048b35c8a90c967ceb4ce8c061bd335ce5cd532d6e75fb7363"), looks := false }, kinds := [], alts := [], laidByText := true, laidKinds := [.data, .data], laidTests := true, laidLooks := .later }
def OccupyFreeCardSaid : Prop := Claim7.holds Tryd.pinned (.plain (OpenSpec.ofChange occupyFreeSpec)) occupyFreeCard

/-- THE TIED CARD OF 'skirmishlaw13.OccupyFits'. -/
def occupyFitsCard : Claim7 := { stood := { row := occupyFitsRow, standIns := [], harness := (true, "1851fe7c4f2950048b35c8a90c967ceb4ce8c061bd335ce5cd532d6e75fb7363"), looks := false }, kinds := [], alts := [], laidByText := true, laidKinds := [.data, .data], laidTests := true, laidLooks := .later }
def OccupyFitsCardSaid : Prop := Claim7.holds Tryd.pinned (.plain (OpenSpec.ofChange occupyFitsSpec)) occupyFitsCard

/-- THE TIED CARD OF 'skirmishlaw13.OccupyFewer'. -/
def occupyFewerCard : Claim7 := { stood := { row := occupyFewerRow, standIns := [], harness := (true, "1851fe7c4f2950048b35c8a90c967ceb4ce8c061bd335ce5cd532d6e75fb7363"), looks := false }, kinds := [], alts := [], laidByText := true, laidKinds := [.data, .data], laidTests := true, laidLooks := .later }
def OccupyFewerCardSaid : Prop := Claim7.holds Tryd.pinned (.plain (OpenSpec.ofChange occupyFewerSpec)) occupyFewerCard

/-- THE TIED CARD OF 'skirmishlaw13.OccupyRing'. -/
def occupyRingCard : Claim7 := { stood := { row := occupyRingRow, standIns := [], harness := (true, "1851fe7c4f2950048b35c8a90c967ceb4ce8c061bd335ce5cd532d6e75fb7363"), looks := false }, kinds := [], alts := [], laidByText := true, laidKinds := [.data, .data], laidTests := true, laidLooks := .later }
def OccupyRingCardSaid : Prop := Claim7.holds Tryd.pinned (.plain (OpenSpec.ofChange occupyRingSpec)) occupyRingCard

/-- THE TIED CARD OF 'skirmishlaw13.OccupySpots'. -/
def occupySpotsCard : Claim7 := { stood := { row := occupySpotsRow, standIns := [], harness := (true, "1851fe7c4f2950048b35c8a90c967ceb4ce8c061bd335ce5cd532d6e75fb7363"), looks := false }, kinds := [], alts := [], laidByText := true, laidKinds := [.data, .data], laidTests := true, laidLooks := .later }
def OccupySpotsCardSaid : Prop := Claim7.holds Tryd.pinned (.plain (OpenSpec.ofChange occupySpotsSpec)) occupySpotsCard

/-- THE SECOND FORM's CARD OF 'skirmishlaw13.OccupyBlocked'. -/
def occupyBlockedUptoCard : Claim7 := { stood := { row := occupyBlockedUptoRow, standIns := [], harness := (true, "1851fe7c4f2950048b35c8a90c967ceb4ce8c061bd335ce5cd532d6e75fb7363"), looks := false }, kinds := [], alts := [], laidByText := true, laidKinds := [.data, .data], laidTests := true, laidLooks := .later }
def OccupyBlockedUptoCardSaid : Prop := Claim7.holds Tryd.pinned (.plain (OpenSpec.upto occupyBlockedSpec)) occupyBlockedUptoCard

/-- THE SECOND FORM's CARD OF 'skirmishlaw13.OccupyFree'. -/
def occupyFreeUptoCard : Claim7 := { stood := { row := occupyFreeUptoRow, standIns := [], harness := (true, "1851fe7c4f2950048b35c8a90c967ceb4ce8c061bd335ce5cd532d6e75fb7363"), looks := false }, kinds := [], alts := [], laidByText := true, laidKinds := [.data, .data], laidTests := true, laidLooks := .later }
def OccupyFreeUptoCardSaid : Prop := Claim7.holds Tryd.pinned (.plain (OpenSpec.upto occupyFreeSpec)) occupyFreeUptoCard

/-- THE SECOND FORM's CARD OF 'skirmishlaw13.OccupyFits'. -/
def occupyFitsUptoCard : Claim7 := { stood := { row := occupyFitsUptoRow, standIns := [], harness := (true, "1851fe7c4f2950048b35c8a90c967ceb4ce8c061bd335ce5cd532d6e75fb7363"), looks := false }, kinds := [], alts := [], laidByText := true, laidKinds := [.data, .data], laidTests := true, laidLooks := .later }
def OccupyFitsUptoCardSaid : Prop := Claim7.holds Tryd.pinned (.plain (OpenSpec.upto occupyFitsSpec)) occupyFitsUptoCard

/-- THE SECOND FORM's CARD OF 'skirmishlaw13.OccupyFewer'. -/
def occupyFewerUptoCard : Claim7 := { stood := { row := occupyFewerUptoRow, standIns := [], harness := (true, "1851fe7c4f2950048b35c8a90c967ceb4ce8c061bd335ce5cd532d6e75fb7363"), looks := false }, kinds := [], alts := [], laidByText := true, laidKinds := [.data, .data], laidTests := true, laidLooks := .later }
def OccupyFewerUptoCardSaid : Prop := Claim7.holds Tryd.pinned (.plain (OpenSpec.upto occupyFewerSpec)) occupyFewerUptoCard

/-- THE SECOND FORM's CARD OF 'skirmishlaw13.OccupyRing'. -/
def occupyRingUptoCard : Claim7 := { stood := { row := occupyRingUptoRow, standIns := [], harness := (true, "1851fe7c4f2950048b35c8a90c967ceb4ce8c061bd335ce5cd532d6e75fb7363"), looks := false }, kinds := [], alts := [], laidByText := true, laidKinds := [.data, .data], laidTests := true, laidLooks := .later }
def OccupyRingUptoCardSaid : Prop := Claim7.holds Tryd.pinned (.plain (OpenSpec.upto occupyRingSpec)) occupyRingUptoCard

/-- THE SECOND FORM's CARD OF 'skirmishlaw13.OccupySpots'. -/
def occupySpotsUptoCard : Claim7 := { stood := { row := occupySpotsUptoRow, standIns := [], harness := (true, "1851fe7c4f2950048b35c8a90c967ceb4ce8c061bd335ce5cd532d6e75fb7363"), looks := false }, kinds := [], alts := [], laidByText := true, laidKinds := [.data, .data], laidTests := true, laidLooks := .later }
def OccupySpotsUptoCardSaid : Prop := Claim7.holds Tryd.pinned (.plain (OpenSpec.upto occupySpotsSpec)) occupySpotsUptoCard
end Rows
end Go.Proofs.YtoodnblhjopnlaaDoor
