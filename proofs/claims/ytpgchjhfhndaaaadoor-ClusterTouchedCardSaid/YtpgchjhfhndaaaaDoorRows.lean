/-
  NARROWER THAN 'FOR EVERY INPUT', by the rows' own cells (each row's printed sentence says how): ClusterAreas: laid · ClusterEntrances: laid · ClusterTouched: laid · ClusterEntrancesJoin: laid · ClusterParts: laid.
  DERIVED. THE GIVEN ROWS OF THIS SEAT. 5 by the template 'for every input the law returns true; each argument reads behind the call as it read before'; 0 by the template 'total and deterministic' (their statements: YtpgchjhfhndaaaaDoorTotals.lean).
  GIVEN WITH THE SEED: the statements are not yours to turn. If you find one false, say at which input.
  Laid BY PROGRAM, IN A SANDBOX (cutbox-rows.mjs): the forced cells as the released guide's own fill.sh prints them over the translation 249bea873e9b527f… (all of the seat's roots in one cut). By AI agents, Wed Nov 11 2026. No macro, syntax, notation, axiom, sorry.
-/
import Derived.Test.YtpgchjhfhndaaaaDoorChecked
import GoSem.Claim
import GoSem.ClaimJoined
import GoSem.ClaimMapViews
import Derived.JoinedTies
import Derived.KernelRfl
namespace Go.Proofs.YtpgchjhfhndaaaaDoor
/- THE CELL 'sum', in the pinned program and in every row, IS THE sha256 OF THE DUMP (.gsa) THAT YtpgchjhfhndaaaaDoorProg.lean LOADS. Nothing in Lean hashes anything: it is a label: what it is worth is what the hold of that sum in a sandbox is worth. -/
noncomputable def Tryd.pinned : Pinned := { name := "ytpgchjhfhndaaaadoor", sum := "249bea873e9b527fdaa62f789538f97fa04677c196c5b6c465201af98f7d3422", checked := Tryd.checked }
namespace Rows
def none {H : Type} : Left H := { results := [], args := [] }

/- WHAT THE LISTED PACKAGE-LEVEL VARIABLES READ AS WHEN THE CALL BEGINS. Each datum BY PROGRAM (the guide's laid-datum.mjs) off the statement by which the dump's own 'gosem.cut.vars' lays the variable. In a bare row this is a premise. The card (YtpgchjhfhndaaaaDoorCards.lean) ties it to the program's text. -/
def laid_skirmish_grid_displacements {H : Type} : DataW H := .agg [.agg [.lit (.int .i64 1), .lit (.int .i64 0)], .agg [.lit (.int .i64 1), .lit (.int .i64 1)], .agg [.lit (.int .i64 0), .lit (.int .i64 1)], .agg [.lit (.int .i64 (-1)), .lit (.int .i64 1)], .agg [.lit (.int .i64 (-1)), .lit (.int .i64 0)], .agg [.lit (.int .i64 (-1)), .lit (.int .i64 (-1))], .agg [.lit (.int .i64 0), .lit (.int .i64 (-1))], .agg [.lit (.int .i64 1), .lit (.int .i64 (-1))]]
def laid_skirmish_terrain_passages {H : Type} : DataW H := .agg [.agg [.lit (.bool false), .lit (.bool false), .lit (.bool true)], .agg [.lit (.bool true), .lit (.bool true), .lit (.bool true)], .agg [.lit (.bool false), .lit (.bool true), .lit (.bool true)], .agg [.lit (.bool false), .lit (.bool false), .lit (.bool false)], .agg [.lit (.bool false), .lit (.bool false), .lit (.bool false)], .agg [.lit (.bool true), .lit (.bool true), .lit (.bool true)]]

/-- 'skirmishlaw15.ClusterAreas': WHATEVER THE INPUT: true; the input reads as it did. -/
def clusterAreasSpec : ChangeSpec := { name := "clusterAreas", fn := fun _ => fun
  | [d1, d2, d3] => { results := [.lit (.bool true)], args := [d1, d2, d3] }
  | _ => none }
def clusterAreasRow : OpenClaim := { program := "ytpgchjhfhndaaaadoor", sum := "249bea873e9b527fdaa62f789538f97fa04677c196c5b6c465201af98f7d3422", func := "skirmish/skirmishlaw15.ClusterAreas", spec := "clusterAreas", unfollowed := true, recurses := true, named := ["skirmish/grid.displacements", "skirmish/terrain.passages"], apart := false, laid := [("skirmish/grid.displacements", laid_skirmish_grid_displacements), ("skirmish/terrain.passages", laid_skirmish_terrain_passages)] }
def ClusterAreasSaid : Prop := clusterAreasRow.holds Tryd.pinned (OpenSpec.ofChange clusterAreasSpec)

/-- ITS FALSE NEIGHBOUR: 'it returns false'. Refute it at one input. -/
def clusterAreasWrong : ChangeSpec := { name := "clusterAreas", fn := fun _ => fun
  | [d1, d2, d3] => { results := [.lit (.bool false)], args := [d1, d2, d3] }
  | _ => none }
def ClusterAreasWrongFalsely : Prop := clusterAreasRow.holds Tryd.pinned (OpenSpec.ofChange clusterAreasWrong)

/-- 'skirmishlaw15.ClusterEntrances': WHATEVER THE INPUT: true; the input reads as it did. -/
def clusterEntrancesSpec : ChangeSpec := { name := "clusterEntrances", fn := fun _ => fun
  | [d1, d2, d3] => { results := [.lit (.bool true)], args := [d1, d2, d3] }
  | _ => none }
def clusterEntrancesRow : OpenClaim := { program := "ytpgchjhfhndaaaadoor", sum := "249bea873e9b527fdaa62f789538f97fa04677c196c5b6c465201af98f7d3422", func := "skirmish/skirmishlaw15.ClusterEntrances", spec := "clusterEntrances", unfollowed := true, recurses := true, named := ["skirmish/grid.displacements", "skirmish/terrain.passages"], apart := false, laid := [("skirmish/grid.displacements", laid_skirmish_grid_displacements), ("skirmish/terrain.passages", laid_skirmish_terrain_passages)] }
def ClusterEntrancesSaid : Prop := clusterEntrancesRow.holds Tryd.pinned (OpenSpec.ofChange clusterEntrancesSpec)

/-- ITS FALSE NEIGHBOUR: 'it returns false'. Refute it at one input. -/
def clusterEntrancesWrong : ChangeSpec := { name := "clusterEntrances", fn := fun _ => fun
  | [d1, d2, d3] => { results := [.lit (.bool false)], args := [d1, d2, d3] }
  | _ => none }
def ClusterEntrancesWrongFalsely : Prop := clusterEntrancesRow.holds Tryd.pinned (OpenSpec.ofChange clusterEntrancesWrong)

/-- 'skirmishlaw15.ClusterTouched': WHATEVER THE INPUT: true; the input reads as it did. -/
def clusterTouchedSpec : ChangeSpec := { name := "clusterTouched", fn := fun _ => fun
  | [d1, d2] => { results := [.lit (.bool true)], args := [d1, d2] }
  | _ => none }
def clusterTouchedRow : OpenClaim := { program := "ytpgchjhfhndaaaadoor", sum := "249bea873e9b527fdaa62f789538f97fa04677c196c5b6c465201af98f7d3422", func := "skirmish/skirmishlaw15.ClusterTouched", spec := "clusterTouched", unfollowed := true, recurses := true, named := ["skirmish/grid.displacements", "skirmish/terrain.passages"], apart := false, laid := [("skirmish/grid.displacements", laid_skirmish_grid_displacements), ("skirmish/terrain.passages", laid_skirmish_terrain_passages)] }
def ClusterTouchedSaid : Prop := clusterTouchedRow.holds Tryd.pinned (OpenSpec.ofChange clusterTouchedSpec)

/-- ITS FALSE NEIGHBOUR: 'it returns false'. Refute it at one input. -/
def clusterTouchedWrong : ChangeSpec := { name := "clusterTouched", fn := fun _ => fun
  | [d1, d2] => { results := [.lit (.bool false)], args := [d1, d2] }
  | _ => none }
def ClusterTouchedWrongFalsely : Prop := clusterTouchedRow.holds Tryd.pinned (OpenSpec.ofChange clusterTouchedWrong)

/-- 'skirmishlaw15.ClusterEntrancesJoin': WHATEVER THE INPUT: true; the input reads as it did. -/
def clusterEntrancesJoinSpec : ChangeSpec := { name := "clusterEntrancesJoin", fn := fun _ => fun
  | [d1, d2, d3] => { results := [.lit (.bool true)], args := [d1, d2, d3] }
  | _ => none }
def clusterEntrancesJoinRow : OpenClaim := { program := "ytpgchjhfhndaaaadoor", sum := "249bea873e9b527fdaa62f789538f97fa04677c196c5b6c465201af98f7d3422", func := "skirmish/skirmishlaw15.ClusterEntrancesJoin", spec := "clusterEntrancesJoin", unfollowed := true, recurses := true, named := ["skirmish/grid.displacements", "skirmish/terrain.passages"], apart := false, laid := [("skirmish/grid.displacements", laid_skirmish_grid_displacements), ("skirmish/terrain.passages", laid_skirmish_terrain_passages)] }
def ClusterEntrancesJoinSaid : Prop := clusterEntrancesJoinRow.holds Tryd.pinned (OpenSpec.ofChange clusterEntrancesJoinSpec)

/-- ITS FALSE NEIGHBOUR: 'it returns false'. Refute it at one input. -/
def clusterEntrancesJoinWrong : ChangeSpec := { name := "clusterEntrancesJoin", fn := fun _ => fun
  | [d1, d2, d3] => { results := [.lit (.bool false)], args := [d1, d2, d3] }
  | _ => none }
def ClusterEntrancesJoinWrongFalsely : Prop := clusterEntrancesJoinRow.holds Tryd.pinned (OpenSpec.ofChange clusterEntrancesJoinWrong)

/-- 'skirmishlaw15.ClusterParts': WHATEVER THE INPUT: true; the input reads as it did. -/
def clusterPartsSpec : ChangeSpec := { name := "clusterParts", fn := fun _ => fun
  | [d1, d2] => { results := [.lit (.bool true)], args := [d1, d2] }
  | _ => none }
def clusterPartsRow : OpenClaim := { program := "ytpgchjhfhndaaaadoor", sum := "249bea873e9b527fdaa62f789538f97fa04677c196c5b6c465201af98f7d3422", func := "skirmish/skirmishlaw15.ClusterParts", spec := "clusterParts", unfollowed := true, recurses := true, named := ["skirmish/grid.displacements", "skirmish/terrain.passages"], apart := false, laid := [("skirmish/grid.displacements", laid_skirmish_grid_displacements), ("skirmish/terrain.passages", laid_skirmish_terrain_passages)] }
def ClusterPartsSaid : Prop := clusterPartsRow.holds Tryd.pinned (OpenSpec.ofChange clusterPartsSpec)

/-- ITS FALSE NEIGHBOUR: 'it returns false'. Refute it at one input. -/
def clusterPartsWrong : ChangeSpec := { name := "clusterParts", fn := fun _ => fun
  | [d1, d2] => { results := [.lit (.bool false)], args := [d1, d2] }
  | _ => none }
def ClusterPartsWrongFalsely : Prop := clusterPartsRow.holds Tryd.pinned (OpenSpec.ofChange clusterPartsWrong)

/- THE SECOND FORM. 'bulk': how many values and letters a reading holds, each counted each time it is reached (what is shared counts as often as it is met; a slice's spare places count too). A statement '..UptoSaid' is the law's where the arguments, and the package variables that the reading takes, are together of bulk at most 1048576: NARROWER than '..Said'. Prove '..Said' where nothing that the law and all that it calls make is longer than what came in: it says more and counts as full. Else prove '..UptoSaid'. A law counts once. -/
mutual
def uptoBulk {H : Type} : DataW H → Nat
  | .lit (.string bytes) => bytes.length + 1
  | .lit _ => 1
  | .nil => 1
  | .ptr d => uptoBulk d + 1
  | .slice elems spare => uptoBulkAll elems + uptoBulkAll spare + 1
  | .agg parts => uptoBulkAll parts + 1
  | .iface _ d => uptoBulk d + 1
  | .map entries => uptoBulkEntries entries + 1
  | .held _ => 1
def uptoBulkAll {H : Type} : List (DataW H) → Nat
  | [] => 0
  | d :: r => uptoBulk d + uptoBulkAll r
def uptoBulkEntries {H : Type} : List (Lit × DataW H) → Nat
  | [] => 0
  | x :: r => uptoBulkEntry x + uptoBulkEntries r
def uptoBulkEntry {H : Type} : Lit × DataW H → Nat
  | (.string bytes, d) => bytes.length + uptoBulk d + 1
  | (_, d) => uptoBulk d + 1
 end
def uptoSmall : (H : Type) → List (DataW H) → Bool := fun _ ds => decide (uptoBulkAll ds ≤ 1048576)
def OpenSpec.upto (s : _root_.Go.ChangeSpec) : _root_.Go.OpenSpec := { _root_.Go.OpenSpec.ofChange s with cond := some uptoSmall }

/-- 'skirmishlaw15.ClusterAreas', WHERE WHAT IT READS IS OF BULK AT MOST 1048576: true; the input reads as it did. -/
def clusterAreasUptoRow : OpenClaim := { program := "ytpgchjhfhndaaaadoor", sum := "249bea873e9b527fdaa62f789538f97fa04677c196c5b6c465201af98f7d3422", func := "skirmish/skirmishlaw15.ClusterAreas", spec := "clusterAreas", unfollowed := true, recurses := true, named := ["skirmish/grid.displacements", "skirmish/terrain.passages"], apart := false, laid := [("skirmish/grid.displacements", laid_skirmish_grid_displacements), ("skirmish/terrain.passages", laid_skirmish_terrain_passages)], narrowed := true }
def ClusterAreasUptoSaid : Prop := clusterAreasUptoRow.holds Tryd.pinned (OpenSpec.upto clusterAreasSpec)

/-- 'skirmishlaw15.ClusterEntrances', WHERE WHAT IT READS IS OF BULK AT MOST 1048576: true; the input reads as it did. -/
def clusterEntrancesUptoRow : OpenClaim := { program := "ytpgchjhfhndaaaadoor", sum := "249bea873e9b527fdaa62f789538f97fa04677c196c5b6c465201af98f7d3422", func := "skirmish/skirmishlaw15.ClusterEntrances", spec := "clusterEntrances", unfollowed := true, recurses := true, named := ["skirmish/grid.displacements", "skirmish/terrain.passages"], apart := false, laid := [("skirmish/grid.displacements", laid_skirmish_grid_displacements), ("skirmish/terrain.passages", laid_skirmish_terrain_passages)], narrowed := true }
def ClusterEntrancesUptoSaid : Prop := clusterEntrancesUptoRow.holds Tryd.pinned (OpenSpec.upto clusterEntrancesSpec)

/-- 'skirmishlaw15.ClusterTouched', WHERE WHAT IT READS IS OF BULK AT MOST 1048576: true; the input reads as it did. -/
def clusterTouchedUptoRow : OpenClaim := { program := "ytpgchjhfhndaaaadoor", sum := "249bea873e9b527fdaa62f789538f97fa04677c196c5b6c465201af98f7d3422", func := "skirmish/skirmishlaw15.ClusterTouched", spec := "clusterTouched", unfollowed := true, recurses := true, named := ["skirmish/grid.displacements", "skirmish/terrain.passages"], apart := false, laid := [("skirmish/grid.displacements", laid_skirmish_grid_displacements), ("skirmish/terrain.passages", laid_skirmish_terrain_passages)], narrowed := true }
def ClusterTouchedUptoSaid : Prop := clusterTouchedUptoRow.holds Tryd.pinned (OpenSpec.upto clusterTouchedSpec)

/-- 'skirmishlaw15.ClusterEntrancesJoin', WHERE WHAT IT READS IS OF BULK AT MOST 1048576: true; the input reads as it did. -/
def clusterEntrancesJoinUptoRow : OpenClaim := { program := "ytpgchjhfhndaaaadoor", sum := "249bea873e9b527fdaa62f789538f97fa04677c196c5b6c465201af98f7d3422", func := "skirmish/skirmishlaw15.ClusterEntrancesJoin", spec := "clusterEntrancesJoin", unfollowed := true, recurses := true, named := ["skirmish/grid.displacements", "skirmish/terrain.passages"], apart := false, laid := [("skirmish/grid.displacements", laid_skirmish_grid_displacements), ("skirmish/terrain.passages", laid_skirmish_terrain_passages)], narrowed := true }
def ClusterEntrancesJoinUptoSaid : Prop := clusterEntrancesJoinUptoRow.holds Tryd.pinned (OpenSpec.upto clusterEntrancesJoinSpec)

/-- 'skirmishlaw15.ClusterParts', WHERE WHAT IT READS IS OF BULK AT MOST 1048576: true; the input reads as it did. -/
def clusterPartsUptoRow : OpenClaim := { program := "ytpgchjhfhndaaaadoor", sum := "249bea873e9b527fdaa62f789538f97fa04677c196c5b6c465201af98f7d3422", func := "skirmish/skirmishlaw15.ClusterParts", spec := "clusterParts", unfollowed := true, recurses := true, named := ["skirmish/grid.displacements", "skirmish/terrain.passages"], apart := false, laid := [("skirmish/grid.displacements", laid_skirmish_grid_displacements), ("skirmish/terrain.passages", laid_skirmish_terrain_passages)], narrowed := true }
def ClusterPartsUptoSaid : Prop := clusterPartsUptoRow.holds Tryd.pinned (OpenSpec.upto clusterPartsSpec)

end Rows
end Go.Proofs.YtpgchjhfhndaaaaDoor
