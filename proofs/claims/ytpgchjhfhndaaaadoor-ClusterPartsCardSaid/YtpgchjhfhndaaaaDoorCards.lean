/-
  DERIVED. GIVEN WITH THE SEED: THE CARDS: each row of YtpgchjhfhndaaaaDoorRows.lean that lists a variable, with what it lists TIED to the program's text (the seventh form; the later family's looks); each row that meets fmt, with fmt's text TOLD by the authors' own Lean function (tested against real Go, not proved from fmt's source: count such statements apart). THE CARD IS WHAT COUNTS. Prove the row's statement (the work); the ties are given (YtpgchjhfhndaaaaDoorTie.lean); close each card by the builder's one call (the guide's Derived/Test/ToyasCard.lean, 'card_holds'). Laid BY PROGRAM, IN A SANDBOX (cutbox-door.mjs). By AI agents, Wed Nov 11 2026. No macro, syntax, notation, axiom, sorry.
-/
import Derived.Test.YtpgchjhfhndaaaaDoorRows
import GoSem.ClaimSeven
namespace Go.Proofs.YtpgchjhfhndaaaaDoor
namespace Rows

/-- THE TIED CARD OF 'skirmishlaw15.ClusterAreas'. -/
def clusterAreasCard : Claim7 := { stood := { row := clusterAreasRow, standIns := [], harness := (true, "7b6c53a48c9cc4bf40dbb8a76d611156ed115c50c622681c6b5e858a66e7e9e9"), looks := false }, kinds := [], alts := [], laidByText := true, laidKinds := [.data, .data], laidTests := true, laidLooks := .later }
def ClusterAreasCardSaid : Prop := Claim7.holds Tryd.pinned (.plain (OpenSpec.ofChange clusterAreasSpec)) clusterAreasCard

/-- THE TIED CARD OF 'skirmishlaw15.ClusterEntrances'. -/
def clusterEntrancesCard : Claim7 := { stood := { row := clusterEntrancesRow, standIns := [], harness := (true, "7b6c53a48c9cc4bf40dbb8a76d611156ed115c50c622681c6b5e858a66e7e9e9"), looks := false }, kinds := [], alts := [], laidByText := true, laidKinds := [.data, .data], laidTests := true, laidLooks := .later }
def ClusterEntrancesCardSaid : Prop := Claim7.holds Tryd.pinned (.plain (OpenSpec.ofChange clusterEntrancesSpec)) clusterEntrancesCard

/-- THE TIED CARD OF 'skirmishlaw15.ClusterTouched'. -/
def clusterTouchedCard : Claim7 := { stood := { row := clusterTouchedRow, standIns := [], harness := (true, "7b6c53a48c9cc4bf40dbb8a76d611156ed115c50c622681c6b5e858a66e7e9e9"), looks := false }, kinds := [], alts := [], laidByText := true, laidKinds := [.data, .data], laidTests := true, laidLooks := .later }
def ClusterTouchedCardSaid : Prop := Claim7.holds Tryd.pinned (.plain (OpenSpec.ofChange clusterTouchedSpec)) clusterTouchedCard

/-- THE TIED CARD OF 'skirmishlaw15.ClusterEntrancesJoin'. -/
def clusterEntrancesJoinCard : Claim7 := { stood := { row := clusterEntrancesJoinRow, standIns := [], harness := (true, "7b6c53a48c9cc4bf40dbb8a76d611156ed115c50c622681c6b5e858a66e7e9e9"), looks := false }, kinds := [], alts := [], laidByText := true, laidKinds := [.data, .data], laidTests := true, laidLooks := .later }
def ClusterEntrancesJoinCardSaid : Prop := Claim7.holds Tryd.pinned (.plain (OpenSpec.ofChange clusterEntrancesJoinSpec)) clusterEntrancesJoinCard

/-- THE TIED CARD OF 'skirmishlaw15.ClusterParts'. -/
def clusterPartsCard : Claim7 := { stood := { row := clusterPartsRow, standIns := [], harness := (true, "7b6c53a48c9cc4bf40dbb8a76d611156ed115c50c622681c6b5e858a66e7e9e9"), looks := false }, kinds := [], alts := [], laidByText := true, laidKinds := [.data, .data], laidTests := true, laidLooks := .later }
def ClusterPartsCardSaid : Prop := Claim7.holds Tryd.pinned (.plain (OpenSpec.ofChange clusterPartsSpec)) clusterPartsCard

/-- THE SECOND FORM's CARD OF 'skirmishlaw15.ClusterAreas'. -/
def clusterAreasUptoCard : Claim7 := { stood := { row := clusterAreasUptoRow, standIns := [], harness := (true, "7b6c53a48c9cc4bf40dbb8a76d611156ed115c50c622681c6b5e858a66e7e9e9"), looks := false }, kinds := [], alts := [], laidByText := true, laidKinds := [.data, .data], laidTests := true, laidLooks := .later }
def ClusterAreasUptoCardSaid : Prop := Claim7.holds Tryd.pinned (.plain (OpenSpec.upto clusterAreasSpec)) clusterAreasUptoCard

/-- THE SECOND FORM's CARD OF 'skirmishlaw15.ClusterEntrances'. -/
def clusterEntrancesUptoCard : Claim7 := { stood := { row := clusterEntrancesUptoRow, standIns := [], harness := (true, "7b6c53a48c9cc4bf40dbb8a76d611156ed115c50c622681c6b5e858a66e7e9e9"), looks := false }, kinds := [], alts := [], laidByText := true, laidKinds := [.data, .data], laidTests := true, laidLooks := .later }
def ClusterEntrancesUptoCardSaid : Prop := Claim7.holds Tryd.pinned (.plain (OpenSpec.upto clusterEntrancesSpec)) clusterEntrancesUptoCard

/-- THE SECOND FORM's CARD OF 'skirmishlaw15.ClusterTouched'. -/
def clusterTouchedUptoCard : Claim7 := { stood := { row := clusterTouchedUptoRow, standIns := [], harness := (true, "7b6c53a48c9cc4bf40dbb8a76d611156ed115c50c622681c6b5e858a66e7e9e9"), looks := false }, kinds := [], alts := [], laidByText := true, laidKinds := [.data, .data], laidTests := true, laidLooks := .later }
def ClusterTouchedUptoCardSaid : Prop := Claim7.holds Tryd.pinned (.plain (OpenSpec.upto clusterTouchedSpec)) clusterTouchedUptoCard

/-- THE SECOND FORM's CARD OF 'skirmishlaw15.ClusterEntrancesJoin'. -/
def clusterEntrancesJoinUptoCard : Claim7 := { stood := { row := clusterEntrancesJoinUptoRow, standIns := [], harness := (true, "7b6c53a48c9cc4bf40dbb8a76d611156ed115c50c622681c6b5e858a66e7e9e9"), looks := false }, kinds := [], alts := [], laidByText := true, laidKinds := [.data, .data], laidTests := true, laidLooks := .later }
def ClusterEntrancesJoinUptoCardSaid : Prop := Claim7.holds Tryd.pinned (.plain (OpenSpec.upto clusterEntrancesJoinSpec)) clusterEntrancesJoinUptoCard

/-- THE SECOND FORM's CARD OF 'skirmishlaw15.ClusterParts'. -/
def clusterPartsUptoCard : Claim7 := { stood := { row := clusterPartsUptoRow, standIns := [], harness := (true, "7b6c53a48c9cc4bf40dbb8a76d611156ed115c50c622681c6b5e858a66e7e9e9"), looks := false }, kinds := [], alts := [], laidByText := true, laidKinds := [.data, .data], laidTests := true, laidLooks := .later }
def ClusterPartsUptoCardSaid : Prop := Claim7.holds Tryd.pinned (.plain (OpenSpec.upto clusterPartsSpec)) clusterPartsUptoCard
end Rows
end Go.Proofs.YtpgchjhfhndaaaaDoor
