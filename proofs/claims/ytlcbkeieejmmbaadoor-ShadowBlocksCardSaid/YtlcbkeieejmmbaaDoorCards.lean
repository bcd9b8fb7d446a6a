/-
  DERIVED. GIVEN WITH THE SEED: THE CARDS: each row of YtlcbkeieejmmbaaDoorRows.lean that lists a variable, with what it lists TIED to the program's text (the seventh form; the later family's looks); each row that meets fmt, with fmt's text TOLD by the authors' own Lean function (tested against real Go, not proved from fmt's source: count such statements apart). THE CARD IS WHAT COUNTS. Prove the row's statement (the work); the ties are given (YtlcbkeieejmmbaaDoorTie.lean); close each card by the builder's one call (the guide's Derived/Test/ToyasCard.lean, 'card_holds'). Laid BY PROGRAM, IN A SANDBOX (cutbox-door.mjs). By AI agents, Wed Nov 11 2026. No macro, syntax, notation, axiom, sorry.
-/
import Derived.Test.YtlcbkeieejmmbaaDoorRows
import GoSem.ClaimSeven
namespace Go.Proofs.YtlcbkeieejmmbaaDoor
namespace Rows

/-- THE TIED CARD OF 'skirmishlaw12.ShadowBlocks'. -/
def shadowBlocksCard : Claim7 := { stood := { row := shadowBlocksRow, standIns := [], harness := (true, "cd771922c23f6f775d310bf28e2c78b6afc22734e4793388b318b5d07260bbb6"), looks := false }, kinds := [], alts := [], laidByText := true, laidKinds := [.data, .data], laidTests := true, laidLooks := .later }
def ShadowBlocksCardSaid : Prop := Claim7.holds Tryd.pinned (.plain (OpenSpec.ofChange shadowBlocksSpec)) shadowBlocksCard

/-- THE TIED CARD OF 'skirmishlaw12.ShadowSees'. -/
def shadowSeesCard : Claim7 := { stood := { row := shadowSeesRow, standIns := [], harness := (true, "cd771922c23f6f775d310bf28e2c78b6afc22734e4793388b318b5d07260bbb6"), looks := false }, kinds := [], alts := [], laidByText := true, laidKinds := [.data, .data], laidTests := true, laidLooks := .later }
def ShadowSeesCardSaid : Prop := Claim7.holds Tryd.pinned (.plain (OpenSpec.ofChange shadowSeesSpec)) shadowSeesCard

/-- THE TIED CARD OF 'skirmishlaw12.ShadowVisible'. -/
def shadowVisibleCard : Claim7 := { stood := { row := shadowVisibleRow, standIns := [], harness := (true, "cd771922c23f6f775d310bf28e2c78b6afc22734e4793388b318b5d07260bbb6"), looks := false }, kinds := [], alts := [], laidByText := true, laidKinds := [.data, .data], laidTests := true, laidLooks := .later }
def ShadowVisibleCardSaid : Prop := Claim7.holds Tryd.pinned (.plain (OpenSpec.ofChange shadowVisibleSpec)) shadowVisibleCard

/-- THE TIED CARD OF 'skirmishlaw12.ShadowUnion'. -/
def shadowUnionCard : Claim7 := { stood := { row := shadowUnionRow, standIns := [], harness := (true, "cd771922c23f6f775d310bf28e2c78b6afc22734e4793388b318b5d07260bbb6"), looks := false }, kinds := [], alts := [], laidByText := true, laidKinds := [.data, .data], laidTests := true, laidLooks := .later }
def ShadowUnionCardSaid : Prop := Claim7.holds Tryd.pinned (.plain (OpenSpec.ofChange shadowUnionSpec)) shadowUnionCard

/-- THE TIED CARD OF 'skirmishlaw12.ShadowSymmetric'. -/
def shadowSymmetricCard : Claim7 := { stood := { row := shadowSymmetricRow, standIns := [], harness := (true, "cd771922c23f6f775d310bf28e2c78b6afc22734e4793388b318b5d07260bbb6"), looks := false }, kinds := [], alts := [], laidByText := true, laidKinds := [.data, .data], laidTests := true, laidLooks := .later }
def ShadowSymmetricCardSaid : Prop := Claim7.holds Tryd.pinned (.plain (OpenSpec.ofChange shadowSymmetricSpec)) shadowSymmetricCard

/-- THE TIED CARD OF 'skirmishlaw12.ShadowGrows'. -/
def shadowGrowsCard : Claim7 := { stood := { row := shadowGrowsRow, standIns := [], harness := (true, "cd771922c23f6f775d310bf28e2c78b6afc22734e4793388b318b5d07260bbb6"), looks := false }, kinds := [], alts := [], laidByText := true, laidKinds := [.data, .data], laidTests := true, laidLooks := .later }
def ShadowGrowsCardSaid : Prop := Claim7.holds Tryd.pinned (.plain (OpenSpec.ofChange shadowGrowsSpec)) shadowGrowsCard

/-- THE TIED CARD OF 'skirmishlaw12.ShadowLowers'. -/
def shadowLowersCard : Claim7 := { stood := { row := shadowLowersRow, standIns := [], harness := (true, "cd771922c23f6f775d310bf28e2c78b6afc22734e4793388b318b5d07260bbb6"), looks := false }, kinds := [], alts := [], laidByText := true, laidKinds := [.data, .data], laidTests := true, laidLooks := .later }
def ShadowLowersCardSaid : Prop := Claim7.holds Tryd.pinned (.plain (OpenSpec.ofChange shadowLowersSpec)) shadowLowersCard

/-- THE SECOND FORM's CARD OF 'skirmishlaw12.ShadowBlocks'. -/
def shadowBlocksUptoCard : Claim7 := { stood := { row := shadowBlocksUptoRow, standIns := [], harness := (true, "cd771922c23f6f775d310bf28e2c78b6afc22734e4793388b318b5d07260bbb6"), looks := false }, kinds := [], alts := [], laidByText := true, laidKinds := [.data, .data], laidTests := true, laidLooks := .later }
def ShadowBlocksUptoCardSaid : Prop := Claim7.holds Tryd.pinned (.plain (OpenSpec.upto shadowBlocksSpec)) shadowBlocksUptoCard

/-- THE SECOND FORM's CARD OF 'skirmishlaw12.ShadowSees'. -/
def shadowSeesUptoCard : Claim7 := { stood := { row := shadowSeesUptoRow, standIns := [], harness := (true, "cd771922c23f6f775d310bf28e2c78b6afc22734e4793388b318b5d07260bbb6"), looks := false }, kinds := [], alts := [], laidByText := true, laidKinds := [.data, .data], laidTests := true, laidLooks := .later }
def ShadowSeesUptoCardSaid : Prop := Claim7.holds Tryd.pinned (.plain (OpenSpec.upto shadowSeesSpec)) shadowSeesUptoCard

/-- THE SECOND FORM's CARD OF 'skirmishlaw12.ShadowVisible'. -/
def shadowVisibleUptoCard : Claim7 := { stood := { row := shadowVisibleUptoRow, standIns := [], harness := (true, "cd771922c23f6f775d310bf28e2c78b6afc22734e4793388b318b5d07260bbb6"), looks := false }, kinds := [], alts := [], laidByText := true, laidKinds := [.data, .data], laidTests := true, laidLooks := .later }
def ShadowVisibleUptoCardSaid : Prop := Claim7.holds Tryd.pinned (.plain (OpenSpec.upto shadowVisibleSpec)) shadowVisibleUptoCard

/-- THE SECOND FORM's CARD OF 'skirmishlaw12.ShadowUnion'. -/
def shadowUnionUptoCard : Claim7 := { stood := { row := shadowUnionUptoRow, standIns := [], harness := (true, "cd771922c23f6f775d310bf28e2c78b6afc22734e4793388b318b5d07260bbb6"), looks := false }, kinds := [], alts := [], laidByText := true, laidKinds := [.data, .data], laidTests := true, laidLooks := .later }
def ShadowUnionUptoCardSaid : Prop := Claim7.holds Tryd.pinned (.plain (OpenSpec.upto shadowUnionSpec)) shadowUnionUptoCard

/-- THE SECOND FORM's CARD OF 'skirmishlaw12.ShadowSymmetric'. -/
def shadowSymmetricUptoCard : Claim7 := { stood := { row := shadowSymmetricUptoRow, standIns := [], harness := (true, "cd771922c23f6f775d310bf28e2c78b6afc22734e4793388b318b5d07260bbb6"), looks := false }, kinds := [], alts := [], laidByText := true, laidKinds := [.data, .data], laidTests := true, laidLooks := .later }
def ShadowSymmetricUptoCardSaid : Prop := Claim7.holds Tryd.pinned (.plain (OpenSpec.upto shadowSymmetricSpec)) shadowSymmetricUptoCard

/-- THE SECOND FORM's CARD OF 'skirmishlaw12.ShadowGrows'. -/
def shadowGrowsUptoCard : Claim7 := { stood := { row := shadowGrowsUptoRow, standIns := [], harness := (true, "cd771922c23f6f775d310bf28e2c78b6afc22734e4793388b318b5d07260bbb6"), looks := false }, kinds := [], alts := [], laidByText := true, laidKinds := [.data, .data], laidTests := true, laidLooks := .later }
def ShadowGrowsUptoCardSaid : Prop := Claim7.holds Tryd.pinned (.plain (OpenSpec.upto shadowGrowsSpec)) shadowGrowsUptoCard

/-- THE SECOND FORM's CARD OF 'skirmishlaw12.ShadowLowers'. -/
def shadowLowersUptoCard : Claim7 := { stood := { row := shadowLowersUptoRow, standIns := [], harness := (true, "cd771922c23f6f775d310bf28e2c78b6afc22734e4793388b318b5d07260bbb6"), looks := false }, kinds := [], alts := [], laidByText := true, laidKinds := [.data, .data], laidTests := true, laidLooks := .later }
def ShadowLowersUptoCardSaid : Prop := Claim7.holds Tryd.pinned (.plain (OpenSpec.upto shadowLowersSpec)) shadowLowersUptoCard
end Rows
end Go.Proofs.YtlcbkeieejmmbaaDoor
