/-
  NARROWER THAN 'FOR EVERY INPUT', by the rows' own cells (each row's printed sentence says how): GridBasics: laid · GridSteps: laid · GridDistances: laid · GridRects: laid · GridMeets: laid · GridSymmetric: laid · GridIndexes: laid · GridClips: laid.
  DERIVED. THE GIVEN ROWS OF THIS SEAT. 8 by the template 'for every input the law returns true; each argument reads behind the call as it read before'; 0 by the template 'total and deterministic' (their statements: YtipfiggifnfljaaDoorTotals.lean).
  GIVEN WITH THE SEED: the statements are not yours to turn. If you find one false, say at which input.
  Laid BY PROGRAM, IN A SANDBOX (cutbox-rows.mjs): the forced cells as the released guide's own fill.sh prints them over the translation 2cbb36b85ec08aeb… (all of the seat's roots in one cut). By AI agents, Wed Nov 11 2026. No macro, syntax, notation, axiom, sorry.
-/
import Derived.Test.YtipfiggifnfljaaDoorChecked
import GoSem.Claim
import GoSem.ClaimJoined
import GoSem.ClaimMapViews
import Derived.JoinedTies
import Derived.KernelRfl
namespace Go.Proofs.YtipfiggifnfljaaDoor
/- THE CELL 'sum', in the pinned program and in every row, IS THE sha256 OF THE DUMP (.gsa) THAT YtipfiggifnfljaaDoorProg.lean LOADS. Nothing in Lean hashes anything: it is a label: what it is worth is what the hold of that sum in a sandbox is worth. -/
noncomputable def Tryd.pinned : Pinned := { name := "ytipfiggifnfljaadoor", sum := "2cbb36b85ec08aebaf6175f63dd0802f7e7059761372bc67f957c8cfb63d3405", checked := Tryd.checked }
namespace Rows
def none {H : Type} : Left H := { results := [], args := [] }

/- WHAT THE LISTED PACKAGE-LEVEL VARIABLES READ AS WHEN THE CALL BEGINS. Each datum BY PROGRAM (the guide's laid-datum.mjs) off the statement by which the dump's own 'gosem.cut.vars' lays the variable. In a bare row this is a premise. The card (YtipfiggifnfljaaDoorCards.lean) ties it to the program's text. -/
def laid_skirmish_grid_displacements {H : Type} : DataW H := .agg [.agg [.lit (.int .i64 1), .lit (.int .i64 0)], .agg [.lit (.int .i64 1), .lit (.int .i64 1)], .agg [.lit (.int .i64 0), .lit (.int .i64 1)], .agg [.lit (.int .i64 (-1)), .lit (.int .i64 1)], .agg [.lit (.int .i64 (-1)), .lit (.int .i64 0)], .agg [.lit (.int .i64 (-1)), .lit (.int .i64 (-1))], .agg [.lit (.int .i64 0), .lit (.int .i64 (-1))], .agg [.lit (.int .i64 1), .lit (.int .i64 (-1))]]

/-- 'skirmishlaw06.GridBasics': WHATEVER THE INPUT: true; the input reads as it did. -/
def gridBasicsSpec : ChangeSpec := { name := "gridBasics", fn := fun _ => fun
  | [d1, d2, d3] => { results := [.lit (.bool true)], args := [d1, d2, d3] }
  | _ => none }
def gridBasicsRow : OpenClaim := { program := "ytipfiggifnfljaadoor", sum := "2cbb36b85ec08aebaf6175f63dd0802f7e7059761372bc67f957c8cfb63d3405", func := "skirmish/skirmishlaw06.GridBasics", spec := "gridBasics", named := ["skirmish/grid.displacements"], apart := false, laid := [("skirmish/grid.displacements", laid_skirmish_grid_displacements)] }
def GridBasicsSaid : Prop := gridBasicsRow.holds Tryd.pinned (OpenSpec.ofChange gridBasicsSpec)

/-- ITS FALSE NEIGHBOUR: 'it returns false'. Refute it at one input. -/
def gridBasicsWrong : ChangeSpec := { name := "gridBasics", fn := fun _ => fun
  | [d1, d2, d3] => { results := [.lit (.bool false)], args := [d1, d2, d3] }
  | _ => none }
def GridBasicsWrongFalsely : Prop := gridBasicsRow.holds Tryd.pinned (OpenSpec.ofChange gridBasicsWrong)

/-- 'skirmishlaw06.GridSteps': WHATEVER THE INPUT: true; the input reads as it did. -/
def gridStepsSpec : ChangeSpec := { name := "gridSteps", fn := fun _ => fun
  | [d1, d2, d3] => { results := [.lit (.bool true)], args := [d1, d2, d3] }
  | _ => none }
def gridStepsRow : OpenClaim := { program := "ytipfiggifnfljaadoor", sum := "2cbb36b85ec08aebaf6175f63dd0802f7e7059761372bc67f957c8cfb63d3405", func := "skirmish/skirmishlaw06.GridSteps", spec := "gridSteps", named := ["skirmish/grid.displacements"], apart := false, laid := [("skirmish/grid.displacements", laid_skirmish_grid_displacements)] }
def GridStepsSaid : Prop := gridStepsRow.holds Tryd.pinned (OpenSpec.ofChange gridStepsSpec)

/-- ITS FALSE NEIGHBOUR: 'it returns false'. Refute it at one input. -/
def gridStepsWrong : ChangeSpec := { name := "gridSteps", fn := fun _ => fun
  | [d1, d2, d3] => { results := [.lit (.bool false)], args := [d1, d2, d3] }
  | _ => none }
def GridStepsWrongFalsely : Prop := gridStepsRow.holds Tryd.pinned (OpenSpec.ofChange gridStepsWrong)

/-- 'skirmishlaw06.GridDistances': WHATEVER THE INPUT: true; the input reads as it did. -/
def gridDistancesSpec : ChangeSpec := { name := "gridDistances", fn := fun _ => fun
  | [d1, d2] => { results := [.lit (.bool true)], args := [d1, d2] }
  | _ => none }
def gridDistancesRow : OpenClaim := { program := "ytipfiggifnfljaadoor", sum := "2cbb36b85ec08aebaf6175f63dd0802f7e7059761372bc67f957c8cfb63d3405", func := "skirmish/skirmishlaw06.GridDistances", spec := "gridDistances", named := ["skirmish/grid.displacements"], apart := false, laid := [("skirmish/grid.displacements", laid_skirmish_grid_displacements)] }
def GridDistancesSaid : Prop := gridDistancesRow.holds Tryd.pinned (OpenSpec.ofChange gridDistancesSpec)

/-- ITS FALSE NEIGHBOUR: 'it returns false'. Refute it at one input. -/
def gridDistancesWrong : ChangeSpec := { name := "gridDistances", fn := fun _ => fun
  | [d1, d2] => { results := [.lit (.bool false)], args := [d1, d2] }
  | _ => none }
def GridDistancesWrongFalsely : Prop := gridDistancesRow.holds Tryd.pinned (OpenSpec.ofChange gridDistancesWrong)

/-- 'skirmishlaw06.GridRects': WHATEVER THE INPUT: true; the input reads as it did. -/
def gridRectsSpec : ChangeSpec := { name := "gridRects", fn := fun _ => fun
  | [d1, d2, d3] => { results := [.lit (.bool true)], args := [d1, d2, d3] }
  | _ => none }
def gridRectsRow : OpenClaim := { program := "ytipfiggifnfljaadoor", sum := "2cbb36b85ec08aebaf6175f63dd0802f7e7059761372bc67f957c8cfb63d3405", func := "skirmish/skirmishlaw06.GridRects", spec := "gridRects", named := ["skirmish/grid.displacements"], apart := false, laid := [("skirmish/grid.displacements", laid_skirmish_grid_displacements)] }
def GridRectsSaid : Prop := gridRectsRow.holds Tryd.pinned (OpenSpec.ofChange gridRectsSpec)

/-- ITS FALSE NEIGHBOUR: 'it returns false'. Refute it at one input. -/
def gridRectsWrong : ChangeSpec := { name := "gridRects", fn := fun _ => fun
  | [d1, d2, d3] => { results := [.lit (.bool false)], args := [d1, d2, d3] }
  | _ => none }
def GridRectsWrongFalsely : Prop := gridRectsRow.holds Tryd.pinned (OpenSpec.ofChange gridRectsWrong)

/-- 'skirmishlaw06.GridMeets': WHATEVER THE INPUT: true; the input reads as it did. -/
def gridMeetsSpec : ChangeSpec := { name := "gridMeets", fn := fun _ => fun
  | [d1, d2] => { results := [.lit (.bool true)], args := [d1, d2] }
  | _ => none }
def gridMeetsRow : OpenClaim := { program := "ytipfiggifnfljaadoor", sum := "2cbb36b85ec08aebaf6175f63dd0802f7e7059761372bc67f957c8cfb63d3405", func := "skirmish/skirmishlaw06.GridMeets", spec := "gridMeets", named := ["skirmish/grid.displacements"], apart := false, laid := [("skirmish/grid.displacements", laid_skirmish_grid_displacements)] }
def GridMeetsSaid : Prop := gridMeetsRow.holds Tryd.pinned (OpenSpec.ofChange gridMeetsSpec)

/-- ITS FALSE NEIGHBOUR: 'it returns false'. Refute it at one input. -/
def gridMeetsWrong : ChangeSpec := { name := "gridMeets", fn := fun _ => fun
  | [d1, d2] => { results := [.lit (.bool false)], args := [d1, d2] }
  | _ => none }
def GridMeetsWrongFalsely : Prop := gridMeetsRow.holds Tryd.pinned (OpenSpec.ofChange gridMeetsWrong)

/-- 'skirmishlaw06.GridSymmetric': WHATEVER THE INPUT: true; the input reads as it did. -/
def gridSymmetricSpec : ChangeSpec := { name := "gridSymmetric", fn := fun _ => fun
  | [d1, d2] => { results := [.lit (.bool true)], args := [d1, d2] }
  | _ => none }
def gridSymmetricRow : OpenClaim := { program := "ytipfiggifnfljaadoor", sum := "2cbb36b85ec08aebaf6175f63dd0802f7e7059761372bc67f957c8cfb63d3405", func := "skirmish/skirmishlaw06.GridSymmetric", spec := "gridSymmetric", named := ["skirmish/grid.displacements"], apart := false, laid := [("skirmish/grid.displacements", laid_skirmish_grid_displacements)] }
def GridSymmetricSaid : Prop := gridSymmetricRow.holds Tryd.pinned (OpenSpec.ofChange gridSymmetricSpec)

/-- ITS FALSE NEIGHBOUR: 'it returns false'. Refute it at one input. -/
def gridSymmetricWrong : ChangeSpec := { name := "gridSymmetric", fn := fun _ => fun
  | [d1, d2] => { results := [.lit (.bool false)], args := [d1, d2] }
  | _ => none }
def GridSymmetricWrongFalsely : Prop := gridSymmetricRow.holds Tryd.pinned (OpenSpec.ofChange gridSymmetricWrong)

/-- 'skirmishlaw06.GridIndexes': WHATEVER THE INPUT: true; the input reads as it did. -/
def gridIndexesSpec : ChangeSpec := { name := "gridIndexes", fn := fun _ => fun
  | [d1, d2, d3] => { results := [.lit (.bool true)], args := [d1, d2, d3] }
  | _ => none }
def gridIndexesRow : OpenClaim := { program := "ytipfiggifnfljaadoor", sum := "2cbb36b85ec08aebaf6175f63dd0802f7e7059761372bc67f957c8cfb63d3405", func := "skirmish/skirmishlaw06.GridIndexes", spec := "gridIndexes", named := ["skirmish/grid.displacements"], apart := false, laid := [("skirmish/grid.displacements", laid_skirmish_grid_displacements)] }
def GridIndexesSaid : Prop := gridIndexesRow.holds Tryd.pinned (OpenSpec.ofChange gridIndexesSpec)

/-- ITS FALSE NEIGHBOUR: 'it returns false'. Refute it at one input. -/
def gridIndexesWrong : ChangeSpec := { name := "gridIndexes", fn := fun _ => fun
  | [d1, d2, d3] => { results := [.lit (.bool false)], args := [d1, d2, d3] }
  | _ => none }
def GridIndexesWrongFalsely : Prop := gridIndexesRow.holds Tryd.pinned (OpenSpec.ofChange gridIndexesWrong)

/-- 'skirmishlaw06.GridClips': WHATEVER THE INPUT: true; the input reads as it did. -/
def gridClipsSpec : ChangeSpec := { name := "gridClips", fn := fun _ => fun
  | [d1, d2, d3] => { results := [.lit (.bool true)], args := [d1, d2, d3] }
  | _ => none }
def gridClipsRow : OpenClaim := { program := "ytipfiggifnfljaadoor", sum := "2cbb36b85ec08aebaf6175f63dd0802f7e7059761372bc67f957c8cfb63d3405", func := "skirmish/skirmishlaw06.GridClips", spec := "gridClips", named := ["skirmish/grid.displacements"], apart := false, laid := [("skirmish/grid.displacements", laid_skirmish_grid_displacements)] }
def GridClipsSaid : Prop := gridClipsRow.holds Tryd.pinned (OpenSpec.ofChange gridClipsSpec)

/-- ITS FALSE NEIGHBOUR: 'it returns false'. Refute it at one input. -/
def gridClipsWrong : ChangeSpec := { name := "gridClips", fn := fun _ => fun
  | [d1, d2, d3] => { results := [.lit (.bool false)], args := [d1, d2, d3] }
  | _ => none }
def GridClipsWrongFalsely : Prop := gridClipsRow.holds Tryd.pinned (OpenSpec.ofChange gridClipsWrong)

/- THE SECOND FORM. 'bulk': how many values and letters a reading holds, each counted each time it is reached (what is shared counts as often as it is met; a slice's spare places count too). A statement '..UptoSaid' is the law's where the arguments, and the package variables that the reading takes, are together of bulk at most 1048576: NARROWER than '..Said'. Prove '..Said' where nothing that the law and all that it calls make is longer than what came in: it says more and counts as full. Else prove '..UptoSaid'. A law counts once. -/
mutual
def uptoBulk {H : Type} : DataW H → Nat
  | .lit (.string bytes) => bytes.length + 1
  | .lit _ => 1
  | .nil => 1
  | .ptr d => uptoBulk d + 1
  | .slice elems spare => uptoBulkAll elems + uptoBulkAll spare + 1
  | .agg parts => uptoBulkAll parts + 1
  | .iface _ d => uptoBulk d + 1
  | .map entries => uptoBulkEntries entries + 1
  | .held _ => 1
def uptoBulkAll {H : Type} : List (DataW H) → Nat
  | [] => 0
  | d :: r => uptoBulk d + uptoBulkAll r
def uptoBulkEntries {H : Type} : List (Lit × DataW H) → Nat
  | [] => 0
  | x :: r => uptoBulkEntry x + uptoBulkEntries r
def uptoBulkEntry {H : Type} : Lit × DataW H → Nat
  | (.string bytes, d) => bytes.length + uptoBulk d + 1
  | (_, d) => uptoBulk d + 1
 end
def uptoSmall : (H : Type) → List (DataW H) → Bool := fun _ ds => decide (uptoBulkAll ds ≤ 1048576)
def OpenSpec.upto (s : _root_.Go.ChangeSpec) : _root_.Go.OpenSpec := { _root_.Go.OpenSpec.ofChange s with cond := some uptoSmall }

/-- 'skirmishlaw06.GridBasics', WHERE WHAT IT READS IS OF BULK AT MOST 1048576: true; the input reads as it did. -/
def gridBasicsUptoRow : OpenClaim := { program := "ytipfiggifnfljaadoor", sum := "2cbb36b85ec08aebaf6175f63dd0802f7e7059761372bc67f957c8cfb63d3405", func := "skirmish/skirmishlaw06.GridBasics", spec := "gridBasics", named := ["skirmish/grid.displacements"], apart := false, laid := [("skirmish/grid.displacements", laid_skirmish_grid_displacements)], narrowed := true }
def GridBasicsUptoSaid : Prop := gridBasicsUptoRow.holds Tryd.pinned (OpenSpec.upto gridBasicsSpec)

/-- 'skirmishlaw06.GridSteps', WHERE WHAT IT READS IS OF BULK AT MOST 1048576: true; the input reads as it did. -/
def gridStepsUptoRow : OpenClaim := { program := "ytipfiggifnfljaadoor", sum := "2cbb36b85ec08aebaf6175f63dd0802f7e7059761372bc67f957c8cfb63d3405", func := "skirmish/skirmishlaw06.GridSteps", spec := "gridSteps", named := ["skirmish/grid.displacements"], apart := false, laid := [("skirmish/grid.displacements", laid_skirmish_grid_displacements)], narrowed := true }
def GridStepsUptoSaid : Prop := gridStepsUptoRow.holds Tryd.pinned (OpenSpec.upto gridStepsSpec)

/-- 'skirmishlaw06.GridDistances', WHERE WHAT IT READS IS OF BULK AT MOST 1048576: true; the input reads as it did. -/
def gridDistancesUptoRow : OpenClaim := { program := "ytipfiggifnfljaadoor", sum := "2cbb36b85ec08aebaf6175f63dd0802f7e7059761372bc67f957c8cfb63d3405", func := "skirmish/skirmishlaw06.GridDistances", spec := "gridDistances", named := ["skirmish/grid.displacements"], apart := false, laid := [("skirmish/grid.displacements", laid_skirmish_grid_displacements)], narrowed := true }
def GridDistancesUptoSaid : Prop := gridDistancesUptoRow.holds Tryd.pinned (OpenSpec.upto gridDistancesSpec)

/-- 'skirmishlaw06.GridRects', WHERE WHAT IT READS IS OF BULK AT MOST 1048576: true; the input reads as it did. -/
def gridRectsUptoRow : OpenClaim := { program := "ytipfiggifnfljaadoor", sum := "2cbb36b85ec08aebaf6175f63dd0802f7e7059761372bc67f957c8cfb63d3405", func := "skirmish/skirmishlaw06.GridRects", spec := "gridRects", named := ["skirmish/grid.displacements"], apart := false, laid := [("skirmish/grid.displacements", laid_skirmish_grid_displacements)], narrowed := true }
def GridRectsUptoSaid : Prop := gridRectsUptoRow.holds Tryd.pinned (OpenSpec.upto gridRectsSpec)

/-- 'skirmishlaw06.GridMeets', WHERE WHAT IT READS IS OF BULK AT MOST 1048576: true; the input reads as it did. -/
def gridMeetsUptoRow : OpenClaim := { program := "ytipfiggifnfljaadoor", sum := "2cbb36b85ec08aebaf6175f63dd0802f7e7059761372bc67f957c8cfb63d3405", func := "skirmish/skirmishlaw06.GridMeets", spec := "gridMeets", named := ["skirmish/grid.displacements"], apart := false, laid := [("skirmish/grid.displacements", laid_skirmish_grid_displacements)], narrowed := true }
def GridMeetsUptoSaid : Prop := gridMeetsUptoRow.holds Tryd.pinned (OpenSpec.upto gridMeetsSpec)

/-- 'skirmishlaw06.GridSymmetric', WHERE WHAT IT READS IS OF BULK AT MOST 1048576: true; the input reads as it did. -/
def gridSymmetricUptoRow : OpenClaim := { program := "ytipfiggifnfljaadoor", sum := "2cbb36b85ec08aebaf6175f63dd0802f7e7059761372bc67f957c8cfb63d3405", func := "skirmish/skirmishlaw06.GridSymmetric", spec := "gridSymmetric", named := ["skirmish/grid.displacements"], apart := false, laid := [("skirmish/grid.displacements", laid_skirmish_grid_displacements)], narrowed := true }
def GridSymmetricUptoSaid : Prop := gridSymmetricUptoRow.holds Tryd.pinned (OpenSpec.upto gridSymmetricSpec)

/-- 'skirmishlaw06.GridIndexes', WHERE WHAT IT READS IS OF BULK AT MOST 1048576: true; the input reads as it did. -/
def gridIndexesUptoRow : OpenClaim := { program := "ytipfiggifnfljaadoor", sum := "2cbb36b85ec08aebaf6175f63dd0802f7e7059761372bc67f957c8cfb63d3405", func := "skirmish/skirmishlaw06.GridIndexes", spec := "gridIndexes", named := ["skirmish/grid.displacements"], apart := false, laid := [("skirmish/grid.displacements", laid_skirmish_grid_displacements)], narrowed := true }
def GridIndexesUptoSaid : Prop := gridIndexesUptoRow.holds Tryd.pinned (OpenSpec.upto gridIndexesSpec)

/-- 'skirmishlaw06.GridClips', WHERE WHAT IT READS IS OF BULK AT MOST 1048576: true; the input reads as it did. -/
def gridClipsUptoRow : OpenClaim := { program := "ytipfiggifnfljaadoor", sum := "2cbb36b85ec08aebaf6175f63dd0802f7e7059761372bc67f957c8cfb63d3405", func := "skirmish/skirmishlaw06.GridClips", spec := "gridClips", named := ["skirmish/grid.displacements"], apart := false, laid := [("skirmish/grid.displacements", laid_skirmish_grid_displacements)], narrowed := true }
def GridClipsUptoSaid : Prop := gridClipsUptoRow.holds Tryd.pinned (OpenSpec.upto gridClipsSpec)

end Rows
end Go.Proofs.YtipfiggifnfljaaDoor
