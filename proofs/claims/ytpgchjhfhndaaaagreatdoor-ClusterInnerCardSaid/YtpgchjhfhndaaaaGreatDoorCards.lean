/-
  DERIVED. GIVEN WITH THE SEED: THE CARDS: each row of YtpgchjhfhndaaaaGreatDoorRows.lean that lists a variable, with what it lists TIED to the program's text (the seventh form; the later family's looks); each row that meets fmt, with fmt's text TOLD by the authors' own Lean function (tested against real Go, not proved from fmt's source: count such statements apart). THE CARD IS WHAT COUNTS. Prove the row's statement (the work); the ties are given (YtpgchjhfhndaaaaGreatDoorTie.lean); close each card by the builder's one call (the guide's Derived/Test/ToyasCard.lean, 'card_holds'). Laid BY PROGRAM, IN A SANDBOX (cutbox-door.mjs). By AI agents, Wed Nov 11 2026. No macro, syntax, notation, axiom, sorry.
-/
import Derived.Test.YtpgchjhfhndaaaaGreatDoorRows
import GoSem.ClaimSeven
namespace Go.Proofs.YtpgchjhfhndaaaaGreatDoor
namespace Rows

/-- THE TIED CARD OF 'skirmishlaw15.ClusterInner'. -/
def clusterInnerCard : Claim7 := { stood := { row := clusterInnerRow, standIns := [], harness := (true, "bcc89987d78b2f98934630b8e7ae78f3cd81076916f236cf9f055704881eedb2"), looks := false }, kinds := [], alts := [], laidByText := true, laidKinds := [.data, .data], laidTests := true, laidLooks := .later }
def ClusterInnerCardSaid : Prop := Claim7.holds Tryz.pinned (.plain (OpenSpec.ofChange clusterInnerSpec)) clusterInnerCard

/-- THE TIED CARD OF 'skirmishlaw16.HierBuilds'. -/
def hierBuildsCard : Claim7 := { stood := { row := hierBuildsRow, standIns := [], harness := (true, "bcc89987d78b2f98934630b8e7ae78f3cd81076916f236cf9f055704881eedb2"), looks := false }, kinds := [], alts := [], laidByText := true, laidKinds := [.data, .data], laidTests := true, laidLooks := .later }
def HierBuildsCardSaid : Prop := Claim7.holds Tryz.pinned (.plain (OpenSpec.ofChange hierBuildsSpec)) hierBuildsCard

/-- THE TIED CARD OF 'skirmishlaw16.HierUpdates'. -/
def hierUpdatesCard : Claim7 := { stood := { row := hierUpdatesRow, standIns := [], harness := (true, "bcc89987d78b2f98934630b8e7ae78f3cd81076916f236cf9f055704881eedb2"), looks := false }, kinds := [], alts := [], laidByText := true, laidKinds := [.data, .data], laidTests := true, laidLooks := .later }
def HierUpdatesCardSaid : Prop := Claim7.holds Tryz.pinned (.plain (OpenSpec.ofChange hierUpdatesSpec)) hierUpdatesCard

/-- THE TIED CARD OF 'skirmishlaw16.HierPaths'. -/
def hierPathsCard : Claim7 := { stood := { row := hierPathsRow, standIns := [], harness := (true, "bcc89987d78b2f98934630b8e7ae78f3cd81076916f236cf9f055704881eedb2"), looks := false }, kinds := [], alts := [], laidByText := true, laidKinds := [.data, .data], laidTests := true, laidLooks := .later }
def HierPathsCardSaid : Prop := Claim7.holds Tryz.pinned (.plain (OpenSpec.ofChange hierPathsSpec)) hierPathsCard

/-- THE TIED CARD OF 'skirmishlaw16.HierComplete'. -/
def hierCompleteCard : Claim7 := { stood := { row := hierCompleteRow, standIns := [], harness := (true, "bcc89987d78b2f98934630b8e7ae78f3cd81076916f236cf9f055704881eedb2"), looks := false }, kinds := [], alts := [], laidByText := true, laidKinds := [.data, .data], laidTests := true, laidLooks := .later }
def HierCompleteCardSaid : Prop := Claim7.holds Tryz.pinned (.plain (OpenSpec.ofChange hierCompleteSpec)) hierCompleteCard

/-- THE TIED CARD OF 'skirmishlaw16.HierPoints'. -/
def hierPointsCard : Claim7 := { stood := { row := hierPointsRow, standIns := [], harness := (true, "bcc89987d78b2f98934630b8e7ae78f3cd81076916f236cf9f055704881eedb2"), looks := false }, kinds := [], alts := [], laidByText := true, laidKinds := [.data, .data], laidTests := true, laidLooks := .later }
def HierPointsCardSaid : Prop := Claim7.holds Tryz.pinned (.plain (OpenSpec.ofChange hierPointsSpec)) hierPointsCard

/-- THE TIED CARD OF 'skirmishlaw16.HierSame'. -/
def hierSameCard : Claim7 := { stood := { row := hierSameRow, standIns := [], harness := (true, "bcc89987d78b2f98934630b8e7ae78f3cd81076916f236cf9f055704881eedb2"), looks := false }, kinds := [], alts := [], laidByText := true, laidKinds := [.data, .data], laidTests := true, laidLooks := .later }
def HierSameCardSaid : Prop := Claim7.holds Tryz.pinned (.plain (OpenSpec.ofChange hierSameSpec)) hierSameCard

/-- THE SECOND FORM's CARD OF 'skirmishlaw15.ClusterInner'. -/
def clusterInnerUptoCard : Claim7 := { stood := { row := clusterInnerUptoRow, standIns := [], harness := (true, "bcc89987d78b2f98934630b8e7ae78f3cd81076916f236cf9f055704881eedb2"), looks := false }, kinds := [], alts := [], laidByText := true, laidKinds := [.data, .data], laidTests := true, laidLooks := .later }
def ClusterInnerUptoCardSaid : Prop := Claim7.holds Tryz.pinned (.plain (OpenSpec.upto clusterInnerSpec)) clusterInnerUptoCard

/-- THE SECOND FORM's CARD OF 'skirmishlaw16.HierBuilds'. -/
def hierBuildsUptoCard : Claim7 := { stood := { row := hierBuildsUptoRow, standIns := [], harness := (true, "bcc89987d78b2f98934630b8e7ae78f3cd81076916f236cf9f055704881eedb2"), looks := false }, kinds := [], alts := [], laidByText := true, laidKinds := [.data, .data], laidTests := true, laidLooks := .later }
def HierBuildsUptoCardSaid : Prop := Claim7.holds Tryz.pinned (.plain (OpenSpec.upto hierBuildsSpec)) hierBuildsUptoCard

/-- THE SECOND FORM's CARD OF 'skirmishlaw16.HierUpdates'. -/
def hierUpdatesUptoCard : Claim7 := { stood := { row := hierUpdatesUptoRow, standIns := [], harness := (true, "bcc89987d78b2f98934630b8e7ae78f3cd81076916f236cf9f055704881eedb2"), looks := false }, kinds := [], alts := [], laidByText := true, laidKinds := [.data, .data], laidTests := true, laidLooks := .later }
def HierUpdatesUptoCardSaid : Prop := Claim7.holds Tryz.pinned (.plain (OpenSpec.upto hierUpdatesSpec)) hierUpdatesUptoCard

/-- THE SECOND FORM's CARD OF 'skirmishlaw16.HierPaths'. -/
def hierPathsUptoCard : Claim7 := { stood := { row := hierPathsUptoRow, standIns := [], harness := (true, "bcc89987d78b2f98934630b8e7ae78f3cd81076916f236cf9f055704881eedb2"), looks := false }, kinds := [], alts := [], laidByText := true, laidKinds := [.data, .data], laidTests := true, laidLooks := .later }
def HierPathsUptoCardSaid : Prop := Claim7.holds Tryz.pinned (.plain (OpenSpec.upto hierPathsSpec)) hierPathsUptoCard

/-- THE SECOND FORM's CARD OF 'skirmishlaw16.HierComplete'. -/
def hierCompleteUptoCard : Claim7 := { stood := { row := hierCompleteUptoRow, standIns := [], harness := (true, "bcc89987d78b2f98934630b8e7ae78f3cd81076916f236cf9f055704881eedb2"), looks := false }, kinds := [], alts := [], laidByText := true, laidKinds := [.data, .data], laidTests := true, laidLooks := .later }
def HierCompleteUptoCardSaid : Prop := Claim7.holds Tryz.pinned (.plain (OpenSpec.upto hierCompleteSpec)) hierCompleteUptoCard

/-- THE SECOND FORM's CARD OF 'skirmishlaw16.HierPoints'. -/
def hierPointsUptoCard : Claim7 := { stood := { row := hierPointsUptoRow, standIns := [], harness := (true, "bcc89987d78b2f98934630b8e7ae78f3cd81076916f236cf9f055704881eedb2"), looks := false }, kinds := [], alts := [], laidByText := true, laidKinds := [.data, .data], laidTests := true, laidLooks := .later }
def HierPointsUptoCardSaid : Prop := Claim7.holds Tryz.pinned (.plain (OpenSpec.upto hierPointsSpec)) hierPointsUptoCard

/-- THE SECOND FORM's CARD OF 'skirmishlaw16.HierSame'. -/
def hierSameUptoCard : Claim7 := { stood := { row := hierSameUptoRow, standIns := [], harness := (true, "bcc89987d78b2f98934630b8e7ae78f3cd81076916f236cf9f055704881eedb2"), looks := false }, kinds := [], alts := [], laidByText := true, laidKinds := [.data, .data], laidTests := true, laidLooks := .later }
def HierSameUptoCardSaid : Prop := Claim7.holds Tryz.pinned (.plain (OpenSpec.upto hierSameSpec)) hierSameUptoCard
end Rows
end Go.Proofs.YtpgchjhfhndaaaaGreatDoor
