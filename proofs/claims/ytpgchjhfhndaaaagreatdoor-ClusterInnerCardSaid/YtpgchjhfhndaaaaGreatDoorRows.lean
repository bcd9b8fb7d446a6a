/-
  NARROWER THAN 'FOR EVERY INPUT', by the rows' own cells (each row's printed sentence says how): ClusterInner: laid · HierBuilds: laid · HierUpdates: laid · HierPaths: laid · HierComplete: laid · HierPoints: laid · HierSame: laid.
  DERIVED. THE GIVEN ROWS OF THIS SEAT. 7 by the template 'for every input the law returns true; each argument reads behind the call as it read before'; 0 by the template 'total and deterministic' (their statements: YtpgchjhfhndaaaaGreatDoorTotals.lean).
  GIVEN WITH THE SEED: the statements are not yours to turn. If you find one false, say at which input.
  Laid BY PROGRAM, IN A SANDBOX (cutbox-rows.mjs): the forced cells as the released guide's own fill.sh prints them over the translation 3acae56db4f19dd4… (all of the seat's roots in one cut). By AI agents, Wed Nov 11 2026. No macro, syntax, notation, axiom, sorry.
-/
import Derived.Test.YtpgchjhfhndaaaaGreatDoorChecked
import GoSem.Claim
import GoSem.ClaimJoined
import GoSem.ClaimMapViews
import Derived.JoinedTies
import Derived.KernelRfl
namespace Go.Proofs.YtpgchjhfhndaaaaGreatDoor
/- THE CELL 'sum', in the pinned program and in every row, IS THE sha256 OF THE DUMP (.gsa) THAT YtpgchjhfhndaaaaGreatDoorProg.lean LOADS. Nothing in Lean hashes anything: it is a label: what it is worth is what the hold of that sum in a sandbox is worth. -/
noncomputable def Tryz.pinned : Pinned := { name := "ytpgchjhfhndaaaagreatdoor", sum := "3acae56db4f19dd49b759ed1e1abfe6ecfc33c7aa5691d968133f41da264942c", checked := Tryz.checked }
namespace Rows
def none {H : Type} : Left H := { results := [], args := [] }

/- WHAT THE LISTED PACKAGE-LEVEL VARIABLES READ AS WHEN THE CALL BEGINS. Each datum BY PROGRAM (the guide's laid-datum.mjs) off the statement by which the dump's own 'gosem.cut.vars' lays the variable. In a bare row this is a premise. The card (YtpgchjhfhndaaaaGreatDoorCards.lean) ties it to the program's text. -/
def laid_skirmish_grid_displacements {H : Type} : DataW H := .agg [.agg [.lit (.int .i64 1), .lit (.int .i64 0)], .agg [.lit (.int .i64 1), .lit (.int .i64 1)], .agg [.lit (.int .i64 0), .lit (.int .i64 1)], .agg [.lit (.int .i64 (-1)), .lit (.int .i64 1)], .agg [.lit (.int .i64 (-1)), .lit (.int .i64 0)], .agg [.lit (.int .i64 (-1)), .lit (.int .i64 (-1))], .agg [.lit (.int .i64 0), .lit (.int .i64 (-1))], .agg [.lit (.int .i64 1), .lit (.int .i64 (-1))]]
def laid_skirmish_terrain_passages {H : Type} : DataW H := .agg [.agg [.lit (.bool false), .lit (.bool false), .lit (.bool true)], .agg [.lit (.bool true), .lit (.bool true), .lit (.bool true)], .agg [.lit (.bool false), .lit (.bool true), .lit (.bool true)], .agg [.lit (.bool false), .lit (.bool false), .lit (.bool false)], .agg [.lit (.bool false), .lit (.bool false), .lit (.bool false)], .agg [.lit (.bool true), .lit (.bool true), .lit (.bool true)]]

/-- 'skirmishlaw15.ClusterInner': WHATEVER THE INPUT: true; the input reads as it did. -/
def clusterInnerSpec : ChangeSpec := { name := "clusterInner", fn := fun _ => fun
  | [d1, d2, d3] => { results := [.lit (.bool true)], args := [d1, d2, d3] }
  | _ => none }
def clusterInnerRow : OpenClaim := { program := "ytpgchjhfhndaaaagreatdoor", sum := "3acae56db4f19dd49b759ed1e1abfe6ecfc33c7aa5691d968133f41da264942c", func := "skirmish/skirmishlaw15.ClusterInner", spec := "clusterInner", unfollowed := true, recurses := true, named := ["skirmish/grid.displacements", "skirmish/terrain.passages"], plainKeys := false, apart := false, laid := [("skirmish/grid.displacements", laid_skirmish_grid_displacements), ("skirmish/terrain.passages", laid_skirmish_terrain_passages)] }
def ClusterInnerSaid : Prop := clusterInnerRow.holds Tryz.pinned (OpenSpec.ofChange clusterInnerSpec)

/-- ITS FALSE NEIGHBOUR: 'it returns false'. Refute it at one input. -/
def clusterInnerWrong : ChangeSpec := { name := "clusterInner", fn := fun _ => fun
  | [d1, d2, d3] => { results := [.lit (.bool false)], args := [d1, d2, d3] }
  | _ => none }
def ClusterInnerWrongFalsely : Prop := clusterInnerRow.holds Tryz.pinned (OpenSpec.ofChange clusterInnerWrong)

/-- 'skirmishlaw16.HierBuilds': WHATEVER THE INPUT: true; the input reads as it did. -/
def hierBuildsSpec : ChangeSpec := { name := "hierBuilds", fn := fun _ => fun
  | [d1, d2, d3] => { results := [.lit (.bool true)], args := [d1, d2, d3] }
  | _ => none }
def hierBuildsRow : OpenClaim := { program := "ytpgchjhfhndaaaagreatdoor", sum := "3acae56db4f19dd49b759ed1e1abfe6ecfc33c7aa5691d968133f41da264942c", func := "skirmish/skirmishlaw16.HierBuilds", spec := "hierBuilds", unfollowed := true, recurses := true, named := ["skirmish/grid.displacements", "skirmish/terrain.passages"], plainKeys := false, apart := false, laid := [("skirmish/grid.displacements", laid_skirmish_grid_displacements), ("skirmish/terrain.passages", laid_skirmish_terrain_passages)] }
def HierBuildsSaid : Prop := hierBuildsRow.holds Tryz.pinned (OpenSpec.ofChange hierBuildsSpec)

/-- ITS FALSE NEIGHBOUR: 'it returns false'. Refute it at one input. -/
def hierBuildsWrong : ChangeSpec := { name := "hierBuilds", fn := fun _ => fun
  | [d1, d2, d3] => { results := [.lit (.bool false)], args := [d1, d2, d3] }
  | _ => none }
def HierBuildsWrongFalsely : Prop := hierBuildsRow.holds Tryz.pinned (OpenSpec.ofChange hierBuildsWrong)

/-- 'skirmishlaw16.HierUpdates': WHATEVER THE INPUT: true; the input reads as it did. -/
def hierUpdatesSpec : ChangeSpec := { name := "hierUpdates", fn := fun _ => fun
  | [d1, d2, d3] => { results := [.lit (.bool true)], args := [d1, d2, d3] }
  | _ => none }
def hierUpdatesRow : OpenClaim := { program := "ytpgchjhfhndaaaagreatdoor", sum := "3acae56db4f19dd49b759ed1e1abfe6ecfc33c7aa5691d968133f41da264942c", func := "skirmish/skirmishlaw16.HierUpdates", spec := "hierUpdates", unfollowed := true, recurses := true, named := ["skirmish/grid.displacements", "skirmish/terrain.passages"], plainKeys := false, apart := false, laid := [("skirmish/grid.displacements", laid_skirmish_grid_displacements), ("skirmish/terrain.passages", laid_skirmish_terrain_passages)] }
def HierUpdatesSaid : Prop := hierUpdatesRow.holds Tryz.pinned (OpenSpec.ofChange hierUpdatesSpec)

/-- ITS FALSE NEIGHBOUR: 'it returns false'. Refute it at one input. -/
def hierUpdatesWrong : ChangeSpec := { name := "hierUpdates", fn := fun _ => fun
  | [d1, d2, d3] => { results := [.lit (.bool false)], args := [d1, d2, d3] }
  | _ => none }
def HierUpdatesWrongFalsely : Prop := hierUpdatesRow.holds Tryz.pinned (OpenSpec.ofChange hierUpdatesWrong)

/-- 'skirmishlaw16.HierPaths': WHATEVER THE INPUT: true; the input reads as it did. -/
def hierPathsSpec : ChangeSpec := { name := "hierPaths", fn := fun _ => fun
  | [d1, d2, d3] => { results := [.lit (.bool true)], args := [d1, d2, d3] }
  | _ => none }
def hierPathsRow : OpenClaim := { program := "ytpgchjhfhndaaaagreatdoor", sum := "3acae56db4f19dd49b759ed1e1abfe6ecfc33c7aa5691d968133f41da264942c", func := "skirmish/skirmishlaw16.HierPaths", spec := "hierPaths", unfollowed := true, recurses := true, named := ["skirmish/grid.displacements", "skirmish/terrain.passages"], plainKeys := false, apart := false, laid := [("skirmish/grid.displacements", laid_skirmish_grid_displacements), ("skirmish/terrain.passages", laid_skirmish_terrain_passages)] }
def HierPathsSaid : Prop := hierPathsRow.holds Tryz.pinned (OpenSpec.ofChange hierPathsSpec)

/-- ITS FALSE NEIGHBOUR: 'it returns false'. Refute it at one input. -/
def hierPathsWrong : ChangeSpec := { name := "hierPaths", fn := fun _ => fun
  | [d1, d2, d3] => { results := [.lit (.bool false)], args := [d1, d2, d3] }
  | _ => none }
def HierPathsWrongFalsely : Prop := hierPathsRow.holds Tryz.pinned (OpenSpec.ofChange hierPathsWrong)

/-- 'skirmishlaw16.HierComplete': WHATEVER THE INPUT: true; the input reads as it did. -/
def hierCompleteSpec : ChangeSpec := { name := "hierComplete", fn := fun _ => fun
  | [d1, d2, d3] => { results := [.lit (.bool true)], args := [d1, d2, d3] }
  | _ => none }
def hierCompleteRow : OpenClaim := { program := "ytpgchjhfhndaaaagreatdoor", sum := "3acae56db4f19dd49b759ed1e1abfe6ecfc33c7aa5691d968133f41da264942c", func := "skirmish/skirmishlaw16.HierComplete", spec := "hierComplete", unfollowed := true, recurses := true, named := ["skirmish/grid.displacements", "skirmish/terrain.passages"], plainKeys := false, apart := false, laid := [("skirmish/grid.displacements", laid_skirmish_grid_displacements), ("skirmish/terrain.passages", laid_skirmish_terrain_passages)] }
def HierCompleteSaid : Prop := hierCompleteRow.holds Tryz.pinned (OpenSpec.ofChange hierCompleteSpec)

/-- ITS FALSE NEIGHBOUR: 'it returns false'. Refute it at one input. -/
def hierCompleteWrong : ChangeSpec := { name := "hierComplete", fn := fun _ => fun
  | [d1, d2, d3] => { results := [.lit (.bool false)], args := [d1, d2, d3] }
  | _ => none }
def HierCompleteWrongFalsely : Prop := hierCompleteRow.holds Tryz.pinned (OpenSpec.ofChange hierCompleteWrong)

/-- 'skirmishlaw16.HierPoints': WHATEVER THE INPUT: true; the input reads as it did. -/
def hierPointsSpec : ChangeSpec := { name := "hierPoints", fn := fun _ => fun
  | [d] => { results := [.lit (.bool true)], args := [d] }
  | _ => none }
def hierPointsRow : OpenClaim := { program := "ytpgchjhfhndaaaagreatdoor", sum := "3acae56db4f19dd49b759ed1e1abfe6ecfc33c7aa5691d968133f41da264942c", func := "skirmish/skirmishlaw16.HierPoints", spec := "hierPoints", unfollowed := true, recurses := true, named := ["skirmish/grid.displacements", "skirmish/terrain.passages"], plainKeys := false, apart := false, laid := [("skirmish/grid.displacements", laid_skirmish_grid_displacements), ("skirmish/terrain.passages", laid_skirmish_terrain_passages)] }
def HierPointsSaid : Prop := hierPointsRow.holds Tryz.pinned (OpenSpec.ofChange hierPointsSpec)

/-- ITS FALSE NEIGHBOUR: 'it returns false'. Refute it at one input. -/
def hierPointsWrong : ChangeSpec := { name := "hierPoints", fn := fun _ => fun
  | [d] => { results := [.lit (.bool false)], args := [d] }
  | _ => none }
def HierPointsWrongFalsely : Prop := hierPointsRow.holds Tryz.pinned (OpenSpec.ofChange hierPointsWrong)

/-- 'skirmishlaw16.HierSame': WHATEVER THE INPUT: true; the input reads as it did. -/
def hierSameSpec : ChangeSpec := { name := "hierSame", fn := fun _ => fun
  | [d1, d2] => { results := [.lit (.bool true)], args := [d1, d2] }
  | _ => none }
def hierSameRow : OpenClaim := { program := "ytpgchjhfhndaaaagreatdoor", sum := "3acae56db4f19dd49b759ed1e1abfe6ecfc33c7aa5691d968133f41da264942c", func := "skirmish/skirmishlaw16.HierSame", spec := "hierSame", unfollowed := true, recurses := true, named := ["skirmish/grid.displacements", "skirmish/terrain.passages"], plainKeys := false, apart := false, laid := [("skirmish/grid.displacements", laid_skirmish_grid_displacements), ("skirmish/terrain.passages", laid_skirmish_terrain_passages)] }
def HierSameSaid : Prop := hierSameRow.holds Tryz.pinned (OpenSpec.ofChange hierSameSpec)

/-- ITS FALSE NEIGHBOUR: 'it returns false'. Refute it at one input. -/
def hierSameWrong : ChangeSpec := { name := "hierSame", fn := fun _ => fun
  | [d1, d2] => { results := [.lit (.bool false)], args := [d1, d2] }
  | _ => none }
def HierSameWrongFalsely : Prop := hierSameRow.holds Tryz.pinned (OpenSpec.ofChange hierSameWrong)

/- THE SECOND FORM. 'bulk': how many values and letters a reading holds, each counted each time it is reached (what is shared counts as often as it is met; a slice's spare places count too). A statement '..UptoSaid' is the law's where the arguments, and the package variables that the reading takes, are together of bulk at most 1048576: NARROWER than '..Said'. Prove '..Said' where nothing that the law and all that it calls make is longer than what came in: it says more and counts as full. Else prove '..UptoSaid'. A law counts once. -/
mutual
def uptoBulk {H : Type} : DataW H → Nat
  | .lit (.string bytes) => bytes.length + 1
  | .lit _ => 1
  | .nil => 1
  | .ptr d => uptoBulk d + 1
  | .slice elems spare => uptoBulkAll elems + uptoBulkAll spare + 1
  | .agg parts => uptoBulkAll parts + 1
  | .iface _ d => uptoBulk d + 1
  | .map entries => uptoBulkEntries entries + 1
  | .held _ => 1
def uptoBulkAll {H : Type} : List (DataW H) → Nat
  | [] => 0
  | d :: r => uptoBulk d + uptoBulkAll r
def uptoBulkEntries {H : Type} : List (Lit × DataW H) → Nat
  | [] => 0
  | x :: r => uptoBulkEntry x + uptoBulkEntries r
def uptoBulkEntry {H : Type} : Lit × DataW H → Nat
  | (.string bytes, d) => bytes.length + uptoBulk d + 1
  | (_, d) => uptoBulk d + 1
 end
def uptoSmall : (H : Type) → List (DataW H) → Bool := fun _ ds => decide (uptoBulkAll ds ≤ 1048576)
def OpenSpec.upto (s : _root_.Go.ChangeSpec) : _root_.Go.OpenSpec := { _root_.Go.OpenSpec.ofChange s with cond := some uptoSmall }

/-- 'skirmishlaw15.ClusterInner', WHERE WHAT IT READS IS OF BULK AT MOST 1048576: true; the input reads as it did. -/
def clusterInnerUptoRow : OpenClaim := { program := "ytpgchjhfhndaaaagreatdoor", sum := "3acae56db4f19dd49b759ed1e1abfe6ecfc33c7aa5691d968133f41da264942c", func := "skirmish/skirmishlaw15.ClusterInner", spec := "clusterInner", unfollowed := true, recurses := true, named := ["skirmish/grid.displacements", "skirmish/terrain.passages"], plainKeys := false, apart := false, laid := [("skirmish/grid.displacements", laid_skirmish_grid_displacements), ("skirmish/terrain.passages", laid_skirmish_terrain_passages)], narrowed := true }
def ClusterInnerUptoSaid : Prop := clusterInnerUptoRow.holds Tryz.pinned (OpenSpec.upto clusterInnerSpec)

/-- 'skirmishlaw16.HierBuilds', WHERE WHAT IT READS IS OF BULK AT MOST 1048576: true; the input reads as it did. -/
def hierBuildsUptoRow : OpenClaim := { program := "ytpgchjhfhndaaaagreatdoor", sum := "3acae56db4f19dd49b759ed1e1abfe6ecfc33c7aa5691d968133f41da264942c", func := "skirmish/skirmishlaw16.HierBuilds", spec := "hierBuilds", unfollowed := true, recurses := true, named := ["skirmish/grid.displacements", "skirmish/terrain.passages"], plainKeys := false, apart := false, laid := [("skirmish/grid.displacements", laid_skirmish_grid_displacements), ("skirmish/terrain.passages", laid_skirmish_terrain_passages)], narrowed := true }
def HierBuildsUptoSaid : Prop := hierBuildsUptoRow.holds Tryz.pinned (OpenSpec.upto hierBuildsSpec)

/-- 'skirmishlaw16.HierUpdates', WHERE WHAT IT READS IS OF BULK AT MOST 1048576: true; the input reads as it did. -/
def hierUpdatesUptoRow : OpenClaim := { program := "ytpgchjhfhndaaaagreatdoor", sum := "3acae56db4f19dd49b759ed1e1abfe6ecfc33c7aa5691d968133f41da264942c", func := "skirmish/skirmishlaw16.HierUpdates", spec := "hierUpdates", unfollowed := true, recurses := true, named := ["skirmish/grid.displacements", "skirmish/terrain.passages"], plainKeys := false, apart := false, laid := [("skirmish/grid.displacements", laid_skirmish_grid_displacements), ("skirmish/terrain.passages", laid_skirmish_terrain_passages)], narrowed := true }
def HierUpdatesUptoSaid : Prop := hierUpdatesUptoRow.holds Tryz.pinned (OpenSpec.upto hierUpdatesSpec)

/-- 'skirmishlaw16.HierPaths', WHERE WHAT IT READS IS OF BULK AT MOST 1048576: true; the input reads as it did. -/
def hierPathsUptoRow : OpenClaim := { program := "ytpgchjhfhndaaaagreatdoor", sum := "3acae56db4f19dd49b759ed1e1abfe6ecfc33c7aa5691d968133f41da264942c", func := "skirmish/skirmishlaw16.HierPaths", spec := "hierPaths", unfollowed := true, recurses := true, named := ["skirmish/grid.displacements", "skirmish/terrain.passages"], plainKeys := false, apart := false, laid := [("skirmish/grid.displacements", laid_skirmish_grid_displacements), ("skirmish/terrain.passages", laid_skirmish_terrain_passages)], narrowed := true }
def HierPathsUptoSaid : Prop := hierPathsUptoRow.holds Tryz.pinned (OpenSpec.upto hierPathsSpec)

/-- 'skirmishlaw16.HierComplete', WHERE WHAT IT READS IS OF BULK AT MOST 1048576: true; the input reads as it did. -/
def hierCompleteUptoRow : OpenClaim := { program := "ytpgchjhfhndaaaagreatdoor", sum := "3acae56db4f19dd49b759ed1e1abfe6ecfc33c7aa5691d968133f41da264942c", func := "skirmish/skirmishlaw16.HierComplete", spec := "hierComplete", unfollowed := true, recurses := true, named := ["skirmish/grid.displacements", "skirmish/terrain.passages"], plainKeys := false, apart := false, laid := [("skirmish/grid.displacements", laid_skirmish_grid_displacements), ("skirmish/terrain.passages", laid_skirmish_terrain_passages)], narrowed := true }
def HierCompleteUptoSaid : Prop := hierCompleteUptoRow.holds Tryz.pinned (OpenSpec.upto hierCompleteSpec)

/-- 'skirmishlaw16.HierPoints', WHERE WHAT IT READS IS OF BULK AT MOST 1048576: true; the input reads as it did. -/
def hierPointsUptoRow : OpenClaim := { program := "ytpgchjhfhndaaaagreatdoor", sum := "3acae56db4f19dd49b759ed1e1abfe6ecfc33c7aa5691d968133f41da264942c", func := "skirmish/skirmishlaw16.HierPoints", spec := "hierPoints", unfollowed := true, recurses := true, named := ["skirmish/grid.displacements", "skirmish/terrain.passages"], plainKeys := false, apart := false, laid := [("skirmish/grid.displacements", laid_skirmish_grid_displacements), ("skirmish/terrain.passages", laid_skirmish_terrain_passages)], narrowed := true }
def HierPointsUptoSaid : Prop := hierPointsUptoRow.holds Tryz.pinned (OpenSpec.upto hierPointsSpec)

/-- 'skirmishlaw16.HierSame', WHERE WHAT IT READS IS OF BULK AT MOST 1048576: true; the input reads as it did. -/
def hierSameUptoRow : OpenClaim := { program := "ytpgchjhfhndaaaagreatdoor", sum := "3acae56db4f19dd49b759ed1e1abfe6ecfc33c7aa5691d968133f41da264942c", func := "skirmish/skirmishlaw16.HierSame", spec := "hierSame", unfollowed := true, recurses := true, named := ["skirmish/grid.displacements", "skirmish/terrain.passages"], plainKeys := false, apart := false, laid := [("skirmish/grid.displacements", laid_skirmish_grid_displacements), ("skirmish/terrain.passages", laid_skirmish_terrain_passages)], narrowed := true }
def HierSameUptoSaid : Prop := hierSameUptoRow.holds Tryz.pinned (OpenSpec.upto hierSameSpec)

end Rows
end Go.Proofs.YtpgchjhfhndaaaaGreatDoor
