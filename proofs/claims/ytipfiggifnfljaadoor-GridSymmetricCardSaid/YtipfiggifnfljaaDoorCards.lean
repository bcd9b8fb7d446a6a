/-
  DERIVED. GIVEN WITH THE SEED: THE CARDS: each row of YtipfiggifnfljaaDoorRows.lean that lists a variable, with what it lists TIED to the program's text (the seventh form; the later family's looks); each row that meets fmt, with fmt's text TOLD by the authors' own Lean function (tested against real Go, not proved from fmt's source: count such statements apart). THE CARD IS WHAT COUNTS. Prove the row's statement (the work); the ties are given (YtipfiggifnfljaaDoorTie.lean); close each card by the builder's one call (the guide's Derived/Test/ToyasCard.lean, 'card_holds'). Laid BY PROGRAM, IN A SANDBOX (cutbox-door.mjs). By AI agents, Wed Nov 11 2026. No macro, syntax, notation, axiom, sorry.
-/
import Derived.Test.YtipfiggifnfljaaDoorRows
import GoSem.ClaimSeven
namespace Go.Proofs.YtipfiggifnfljaaDoor
namespace Rows

/-- THE TIED CARD OF 'skirmishlaw06.GridBasics'. -/
def gridBasicsCard : Claim7 := { stood := { row := gridBasicsRow, standIns := [], harness := (true, "51968959f4b8f7322e4374d7462ae186efe81fecc79d015bf478c6d93f88da61"), looks := false }, kinds := [], alts := [], laidByText := true, laidKinds := [.data], laidTests := true, laidLooks := .later }
def GridBasicsCardSaid : Prop := Claim7.holds Tryd.pinned (.plain (OpenSpec.ofChange gridBasicsSpec)) gridBasicsCard

/-- THE TIED CARD OF 'skirmishlaw06.GridSteps'. -/
def gridStepsCard : Claim7 := { stood := { row := gridStepsRow, standIns := [], harness := (true, "51968959f4b8f7322e4374d7462ae186efe81fecc79d015bf478c6d93f88da61"), looks := false }, kinds := [], alts := [], laidByText := true, laidKinds := [.data], laidTests := true, laidLooks := .later }
def GridStepsCardSaid : Prop := Claim7.holds Tryd.pinned (.plain (OpenSpec.ofChange gridStepsSpec)) gridStepsCard

/-- THE TIED CARD OF 'skirmishlaw06.GridDistances'. -/
def gridDistancesCard : Claim7 := { stood := { row := gridDistancesRow, standIns := [], harness := (true, "51968959f4b8f7322e4374d7462ae186efe81fecc79d015bf478c6d93f88da61"), looks := false }, kinds := [], alts := [], laidByText := true, laidKinds := [.data], laidTests := true, laidLooks := .later }
def GridDistancesCardSaid : Prop := Claim7.holds Tryd.pinned (.plain (OpenSpec.ofChange gridDistancesSpec)) gridDistancesCard

/-- THE TIED CARD OF 'skirmishlaw06.GridRects'. -/
def gridRectsCard : Claim7 := { stood := { row := gridRectsRow, standIns := [], harness := (true, "51968959f4b8f7322e4374d7462ae186efe81fecc79d015bf478c6d93f88da61"), looks := false }, kinds := [], alts := [], laidByText := true, laidKinds := [.data], laidTests := true, laidLooks := .later }
def GridRectsCardSaid : Prop := Claim7.holds Tryd.pinned (.plain (OpenSpec.ofChange gridRectsSpec)) gridRectsCard

/-- THE TIED CARD OF 'skirmishlaw06.GridMeets'. -/
def gridMeetsCard : Claim7 := { stood := { row := gridMeetsRow, standIns := [], harness := (true, "51968959f4b8f7322e4374d7462ae186efe81fecc79d015bf478c6d93f88da61"), looks := false }, kinds := [], alts := [], laidByText := true, laidKinds := [.data], laidTests := true, laidLooks := .later }
def GridMeetsCardSaid : Prop := Claim7.holds Tryd.pinned (.plain (OpenSpec.ofChange gridMeetsSpec)) gridMeetsCard

/-- THE TIED CARD OF 'skirmishlaw06.GridSymmetric'. -/
def gridSymmetricCard : Claim7 := { stood := { row := gridSymmetricRow, standIns := [], harness := (true, "51968959f4b8f7322e4374d7462ae186efe81fecc79d015bf478c6d93f88da61"), looks := false }, kinds := [], alts := [], laidByText := true, laidKinds := [.data], laidTests := true, laidLooks := .later }
def GridSymmetricCardSaid : Prop := Claim7.holds Tryd.pinned (.plain (OpenSpec.ofChange gridSymmetricSpec)) gridSymmetricCard

/-- THE TIED CARD OF 'skirmishlaw06.GridIndexes'. -/
def gridIndexesCard : Claim7 := { stood := { row := gridIndexesRow, standIns := [], harness := (true, "51968959f4b8f7322e4374d7462ae186efe81fecc79d015bf478c6d93f88da61"), looks := false }, kinds := [], alts := [], laidByText := true, laidKinds := [.data], laidTests := true, laidLooks := .later }
def GridIndexesCardSaid : Prop := Claim7.holds Tryd.pinned (.plain (OpenSpec.ofChange gridIndexesSpec)) gridIndexesCard

/-- THE TIED CARD OF 'skirmishlaw06.GridClips'. -/
def gridClipsCard : Claim7 := { stood := { row := gridClipsRow, standIns := [], harness := (true, "51968959f4b8f7322e4374d7462ae186efe81fecc79d015bf478c6d93f88da61"), looks := false }, kinds := [], alts := [], laidByText := true, laidKinds := [.data], laidTests := true, laidLooks := .later }
def GridClipsCardSaid : Prop := Claim7.holds Tryd.pinned (.plain (OpenSpec.ofChange gridClipsSpec)) gridClipsCard

/-- THE SECOND FORM's CARD OF 'skirmishlaw06.GridBasics'. -/
def gridBasicsUptoCard : Claim7 := { stood := { row := gridBasicsUptoRow, standIns := [], harness := (true, "51968959f4b8f7322e4374d7462ae186efe81fecc79d015bf478c6d93f88da61"), looks := false }, kinds := [], alts := [], laidByText := true, laidKinds := [.data], laidTests := true, laidLooks := .later }
def GridBasicsUptoCardSaid : Prop := Claim7.holds Tryd.pinned (.plain (OpenSpec.upto gridBasicsSpec)) gridBasicsUptoCard

/-- THE SECOND FORM's CARD OF 'skirmishlaw06.GridSteps'. -/
def gridStepsUptoCard : Claim7 := { stood := { row := gridStepsUptoRow, standIns := [], harness := (true, "51968959f4b8f7322e4374d7462ae186efe81fecc79d015bf478c6d93f88da61"), looks := false }, kinds := [], alts := [], laidByText := true, laidKinds := [.data], laidTests := true, laidLooks := .later }
def GridStepsUptoCardSaid : Prop := Claim7.holds Tryd.pinned (.plain (OpenSpec.upto gridStepsSpec)) gridStepsUptoCard

/-- THE SECOND FORM's CARD OF 'skirmishlaw06.GridDistances'. -/
def gridDistancesUptoCard : Claim7 := { stood := { row := gridDistancesUptoRow, standIns := [], harness := (true, "51968959f4b8f7322e4374d7462ae186efe81fecc79d015bf478c6d93f88da61"), looks := false }, kinds := [], alts := [], laidByText := true, laidKinds := [.data], laidTests := true, laidLooks := .later }
def GridDistancesUptoCardSaid : Prop := Claim7.holds Tryd.pinned (.plain (OpenSpec.upto gridDistancesSpec)) gridDistancesUptoCard

/-- THE SECOND FORM's CARD OF 'skirmishlaw06.GridRects'. -/
def gridRectsUptoCard : Claim7 := { stood := { row := gridRectsUptoRow, standIns := [], harness := (true, "51968959f4b8f7322e4374d7462ae186efe81fecc79d015bf478c6d93f88da61"), looks := false }, kinds := [], alts := [], laidByText := true, laidKinds := [.data], laidTests := true, laidLooks := .later }
def GridRectsUptoCardSaid : Prop := Claim7.holds Tryd.pinned (.plain (OpenSpec.upto gridRectsSpec)) gridRectsUptoCard

/-- THE SECOND FORM's CARD OF 'skirmishlaw06.GridMeets'. -/
def gridMeetsUptoCard : Claim7 := { stood := { row := gridMeetsUptoRow, standIns := [], harness := (true, "51968959f4b8f7322e4374d7462ae186efe81fecc79d015bf478c6d93f88da61"), looks := false }, kinds := [], alts := [], laidByText := true, laidKinds := [.data], laidTests := true, laidLooks := .later }
def GridMeetsUptoCardSaid : Prop := Claim7.holds Tryd.pinned (.plain (OpenSpec.upto gridMeetsSpec)) gridMeetsUptoCard

/-- THE SECOND FORM's CARD OF 'skirmishlaw06.GridSymmetric'. -/
def gridSymmetricUptoCard : Claim7 := { stood := { row := gridSymmetricUptoRow, standIns := [], harness := (true, "51968959f4b8f7322e4374d7462ae186efe81fecc79d015bf478c6d93f88da61"), looks := false }, kinds := [], alts := [], laidByText := true, laidKinds := [.data], laidTests := true, laidLooks := .later }
def GridSymmetricUptoCardSaid : Prop := Claim7.holds Tryd.pinned (.plain (OpenSpec.upto gridSymmetricSpec)) gridSymmetricUptoCard

/-- THE SECOND FORM's CARD OF 'skirmishlaw06.GridIndexes'. -/
def gridIndexesUptoCard : Claim7 := { stood := { row := gridIndexesUptoRow, standIns := [], harness := (true, "51968959f4b8f7322e4374d7462ae186efe81fecc79d015bf478c6d93f88da61"), looks := false }, kinds := [], alts := [], laidByText := true, laidKinds := [.data], laidTests := true, laidLooks := .later }
def GridIndexesUptoCardSaid : Prop := Claim7.holds Tryd.pinned (.plain (OpenSpec.upto gridIndexesSpec)) gridIndexesUptoCard

/-- THE SECOND FORM's CARD OF 'skirmishlaw06.GridClips'. -/
def gridClipsUptoCard : Claim7 := { stood := { row := gridClipsUptoRow, standIns := [], harness := (true, "51968959f4b8f7322e4374d7462ae186efe81fecc79d015bf478c6d93f88da61"), looks := false }, kinds := [], alts := [], laidByText := true, laidKinds := [.data], laidTests := true, laidLooks := .later }
def GridClipsUptoCardSaid : Prop := Claim7.holds Tryd.pinned (.plain (OpenSpec.upto gridClipsSpec)) gridClipsUptoCard
end Rows
end Go.Proofs.YtipfiggifnfljaaDoor
