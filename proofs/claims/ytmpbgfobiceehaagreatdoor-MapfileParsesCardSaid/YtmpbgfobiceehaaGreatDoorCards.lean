/-
  DERIVED. GIVEN WITH THE SEED: THE CARDS: each row of YtmpbgfobiceehaaGreatDoorRows.lean that lists a variable, with what it lists TIED to the program's text (the seventh form; the later family's looks); each row that meets fmt, with fmt's text TOLD by the authors' own Lean function (tested against real Go, not proved from fmt's source: count such statements apart). THE CARD IS WHAT COUNTS. Prove the row's statement (the work); the ties are given (YtmpbgfobiceehaaGreatDoorTie.lean); close each card by the builder's one call (the guide's Derived/Test/ToyasCard.lean, 'card_holds'). Laid BY PROGRAM, IN A SANDBOX (cutbox-door.mjs). By AI agents, Wed Nov 11 2026. No macro, syntax, notation, axiom, sorry.
-/
import Derived.Test.YtmpbgfobiceehaaGreatDoorRows
import GoSem.ClaimSeven
namespace Go.Proofs.YtmpbgfobiceehaaGreatDoor
namespace Rows

/-- THE TIED CARD OF 'skirmishlaw08.MapfileValid'. -/
def mapfileValidCard : Claim7 := { stood := { row := mapfileValidRow, standIns := [], harness := (true, "2580264377017e9cc07cd37336e654706bbe572e5e064709f3c3d69413ee2912"), looks := true }, kinds := [], alts := [], laidByText := true, laidKinds := [.data, .data, .data, .sentinel, .sentinel, .data], laidTests := true, laidLooks := .later }
def MapfileValidCardSaid : Prop := Claim7.holds Tryz.pinned (.plain (OpenSpec.ofChange mapfileValidSpec)) mapfileValidCard

/-- THE TIED CARD OF 'skirmishlaw08.MapfileParses'. -/
def mapfileParsesCard : Claim7 := { stood := { row := mapfileParsesRow, standIns := [], harness := (true, "2580264377017e9cc07cd37336e654706bbe572e5e064709f3c3d69413ee2912"), looks := true }, kinds := [], alts := [], laidByText := true, laidKinds := [.data, .data, .data, .sentinel, .sentinel, .data], laidTests := true, laidLooks := .later }
def MapfileParsesCardSaid : Prop := Claim7.holds Tryz.pinned (.plain (OpenSpec.ofChange mapfileParsesSpec)) mapfileParsesCard

/-- THE TIED CARD OF 'skirmishlaw08.MapfileLong'. -/
def mapfileLongCard : Claim7 := { stood := { row := mapfileLongRow, standIns := [], harness := (true, "2580264377017e9cc07cd37336e654706bbe572e5e064709f3c3d69413ee2912"), looks := true }, kinds := [], alts := [], laidByText := true, laidKinds := [.data, .data, .data, .sentinel, .sentinel, .data], laidTests := true, laidLooks := .later }
def MapfileLongCardSaid : Prop := Claim7.holds Tryz.pinned (.plain (OpenSpec.ofChange mapfileLongSpec)) mapfileLongCard

/-- THE TIED CARD OF 'skirmishlaw08.MapfileMirrors'. -/
def mapfileMirrorsCard : Claim7 := { stood := { row := mapfileMirrorsRow, standIns := [], harness := (true, "2580264377017e9cc07cd37336e654706bbe572e5e064709f3c3d69413ee2912"), looks := true }, kinds := [], alts := [], laidByText := true, laidKinds := [.data, .data, .data, .sentinel, .sentinel, .data], laidTests := true, laidLooks := .later }
def MapfileMirrorsCardSaid : Prop := Claim7.holds Tryz.pinned (.plain (OpenSpec.ofChange mapfileMirrorsSpec)) mapfileMirrorsCard

/-- THE TIED CARD OF 'skirmishlaw08.MapfileRoundTrips'. -/
def mapfileRoundTripsCard : Claim7 := { stood := { row := mapfileRoundTripsRow, standIns := [], harness := (true, "2580264377017e9cc07cd37336e654706bbe572e5e064709f3c3d69413ee2912"), looks := true }, kinds := [], alts := [], laidByText := true, laidKinds := [.data, .data, .data, .sentinel, .sentinel, .data], laidTests := true, laidLooks := .later }
def MapfileRoundTripsCardSaid : Prop := Claim7.holds Tryz.pinned (.plain (OpenSpec.ofChange mapfileRoundTripsSpec)) mapfileRoundTripsCard

/-- THE TIED CARD OF 'skirmishlaw08.MapfileAccepts'. -/
def mapfileAcceptsCard : Claim7 := { stood := { row := mapfileAcceptsRow, standIns := [], harness := (true, "2580264377017e9cc07cd37336e654706bbe572e5e064709f3c3d69413ee2912"), looks := true }, kinds := [], alts := [], laidByText := true, laidKinds := [.data, .data, .data, .sentinel, .sentinel, .data], laidTests := true, laidLooks := .later }
def MapfileAcceptsCardSaid : Prop := Claim7.holds Tryz.pinned (.plain (OpenSpec.ofChange mapfileAcceptsSpec)) mapfileAcceptsCard

/-- THE TIED CARD OF 'skirmishlaw08.MapfileSymmetry'. -/
def mapfileSymmetryCard : Claim7 := { stood := { row := mapfileSymmetryRow, standIns := [], harness := (true, "2580264377017e9cc07cd37336e654706bbe572e5e064709f3c3d69413ee2912"), looks := true }, kinds := [], alts := [], laidByText := true, laidKinds := [.data, .data, .data, .sentinel, .sentinel, .data], laidTests := true, laidLooks := .later }
def MapfileSymmetryCardSaid : Prop := Claim7.holds Tryz.pinned (.plain (OpenSpec.ofChange mapfileSymmetrySpec)) mapfileSymmetryCard

/-- THE SECOND FORM's CARD OF 'skirmishlaw08.MapfileValid'. -/
def mapfileValidUptoCard : Claim7 := { stood := { row := mapfileValidUptoRow, standIns := [], harness := (true, "2580264377017e9cc07cd37336e654706bbe572e5e064709f3c3d69413ee2912"), looks := true }, kinds := [], alts := [], laidByText := true, laidKinds := [.data, .data, .data, .sentinel, .sentinel, .data], laidTests := true, laidLooks := .later }
def MapfileValidUptoCardSaid : Prop := Claim7.holds Tryz.pinned (.plain (OpenSpec.upto mapfileValidSpec)) mapfileValidUptoCard

/-- THE SECOND FORM's CARD OF 'skirmishlaw08.MapfileParses'. -/
def mapfileParsesUptoCard : Claim7 := { stood := { row := mapfileParsesUptoRow, standIns := [], harness := (true, "2580264377017e9cc07cd37336e654706bbe572e5e064709f3c3d69413ee2912"), looks := true }, kinds := [], alts := [], laidByText := true, laidKinds := [.data, .data, .data, .sentinel, .sentinel, .data], laidTests := true, laidLooks := .later }
def MapfileParsesUptoCardSaid : Prop := Claim7.holds Tryz.pinned (.plain (OpenSpec.upto mapfileParsesSpec)) mapfileParsesUptoCard

/-- THE SECOND FORM's CARD OF 'skirmishlaw08.MapfileLong'. -/
def mapfileLongUptoCard : Claim7 := { stood := { row := mapfileLongUptoRow, standIns := [], harness := (true, "2580264377017e9cc07cd37336e654706bbe572e5e064709f3c3d69413ee2912"), looks := true }, kinds := [], alts := [], laidByText := true, laidKinds := [.data, .data, .data, .sentinel, .sentinel, .data], laidTests := true, laidLooks := .later }
def MapfileLongUptoCardSaid : Prop := Claim7.holds Tryz.pinned (.plain (OpenSpec.upto mapfileLongSpec)) mapfileLongUptoCard

/-- THE SECOND FORM's CARD OF 'skirmishlaw08.MapfileMirrors'. -/
def mapfileMirrorsUptoCard : Claim7 := { stood := { row := mapfileMirrorsUptoRow, standIns := [], harness := (true, "2580264377017e9cc07cd37336e654706bbe572e5e064709f3c3d69413ee2912"), looks := true }, kinds := [], alts := [], laidByText := true, laidKinds := [.data, .data, .data, .sentinel, .sentinel, .data], laidTests := true, laidLooks := .later }
def MapfileMirrorsUptoCardSaid : Prop := Claim7.holds Tryz.pinned (.plain (OpenSpec.upto mapfileMirrorsSpec)) mapfileMirrorsUptoCard

/-- THE SECOND FORM's CARD OF 'skirmishlaw08.MapfileRoundTrips'. -/
def mapfileRoundTripsUptoCard : Claim7 := { stood := { row := mapfileRoundTripsUptoRow, standIns := [], harness := (true, "2580264377017e9cc07cd37336e654706bbe572e5e064709f3c3d69413ee2912"), looks := true }, kinds := [], alts := [], laidByText := true, laidKinds := [.data, .data, .data, .sentinel, .sentinel, .data], laidTests := true, laidLooks := .later }
def MapfileRoundTripsUptoCardSaid : Prop := Claim7.holds Tryz.pinned (.plain (OpenSpec.upto mapfileRoundTripsSpec)) mapfileRoundTripsUptoCard

/-- THE SECOND FORM's CARD OF 'skirmishlaw08.MapfileAccepts'. -/
def mapfileAcceptsUptoCard : Claim7 := { stood := { row := mapfileAcceptsUptoRow, standIns := [], harness := (true, "2580264377017e9cc07cd37336e654706bbe572e5e064709f3c3d69413ee2912"), looks := true }, kinds := [], alts := [], laidByText := true, laidKinds := [.data, .data, .data, .sentinel, .sentinel, .data], laidTests := true, laidLooks := .later }
def MapfileAcceptsUptoCardSaid : Prop := Claim7.holds Tryz.pinned (.plain (OpenSpec.upto mapfileAcceptsSpec)) mapfileAcceptsUptoCard

/-- THE SECOND FORM's CARD OF 'skirmishlaw08.MapfileSymmetry'. -/
def mapfileSymmetryUptoCard : Claim7 := { stood := { row := mapfileSymmetryUptoRow, standIns := [], harness := (true, "2580264377017e9cc07cd37336e654706bbe572e5e064709f3c3d69413ee2912"), looks := true }, kinds := [], alts := [], laidByText := true, laidKinds := [.data, .data, .data, .sentinel, .sentinel, .data], laidTests := true, laidLooks := .later }
def MapfileSymmetryUptoCardSaid : Prop := Claim7.holds Tryz.pinned (.plain (OpenSpec.upto mapfileSymmetrySpec)) mapfileSymmetryUptoCard
end Rows
end Go.Proofs.YtmpbgfobiceehaaGreatDoor
