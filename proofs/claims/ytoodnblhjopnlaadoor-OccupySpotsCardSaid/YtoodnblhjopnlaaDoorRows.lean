/-
  NARROWER THAN 'FOR EVERY INPUT', by the rows' own cells (each row's printed sentence says how): OccupyBlocked: laid · OccupyFree: laid · OccupyFits: laid · OccupyFewer: laid · OccupyRing: laid · OccupySpots: laid.
  DERIVED. THE GIVEN ROWS OF THIS SEAT. 6 by the template 'for every input the law returns true; each argument reads behind the call as it read before'; 0 by the template 'total and deterministic' (their statements: YtoodnblhjopnlaaDoorTotals.lean).
  GIVEN WITH THE SEED: the statements are not yours to turn. If you find one false, say at which input.
  Laid BY PROGRAM, IN A SANDBOX (cutbox-rows.mjs): the forced cells as the released guide's own fill.sh prints them over the translation 30a3e74b82ff0df8… (all of the seat's roots in one cut). By AI agents, Wed Nov 11 2026. No macro, syntax, notation, axiom, sorry.
-/
import Derived.Test.YtoodnblhjopnlaaDoorChecked
import GoSem.Claim
import GoSem.ClaimJoined
import GoSem.ClaimMapViews
import Derived.JoinedTies
import Derived.KernelRfl
namespace Go.Proofs.YtoodnblhjopnlaaDoor
/- THE CELL 'sum', in the pinned program and in every row, IS THE sha256 OF THE DUMP (.gsa) THAT YtoodnblhjopnlaaDoorProg.lean LOADS. Nothing in Lean hashes anything: it is a label: what it is worth is what the hold of that sum in a sandbox is worth. -/
noncomputable def Tryd.pinned : Pinned := { name := "ytoodnblhjopnlaadoor", sum := "30a3e74b82ff0df8e7cfdadc9783127045a15523570621f60113ed7506195c34", checked := Tryd.checked }
namespace Rows
def none {H : Type} : Left H := { results := [], args := [] }

/- WHAT THE LISTED PACKAGE-LEVEL VARIABLES READ AS WHEN THE CALL BEGINS. Each datum BY PROGRAM (the guide's laid-datum.mjs) off the statement by which the dump's own 'gosem.cut.vars' lays the variable. In a bare row this is a premise. The card (YtoodnblhjopnlaaDoorCards.lean) ties it to the program's text. -/
def laid_skirmish_grid_displacements {H : Type} : DataW H := .agg [.agg [.lit (.int .i64 1), .lit (.int .i64 0)], .agg [.lit (.int .i64 1), .lit (.int .i64 1)], .agg [.lit (.int .i64 0), .lit (.int .i64 1)], .agg [.lit (.int .i64 (-1)), .lit (.int .i64 1)], .agg [.lit (.int .i64 (-1)), .lit (.int .i64 0)], .agg [.lit (.int .i64 (-1)), .lit (.int .i64 (-1))], .agg [.lit (.int .i64 0), .lit (.int .i64 (-1))], .agg [.lit (.int .i64 1), .lit (.int .i64 (-1))]]
def laid_skirmish_terrain_passages {H : Type} : DataW H := .agg [.agg [.lit (.bool false), .lit (.bool false), .lit (.bool true)], .agg [.lit (.bool true), .lit (.bool true), .lit (.bool true)], .agg [.lit (.bool false), .lit (.bool true), .lit (.bool true)], .agg [.lit (.bool false), .lit (.bool false), .lit (.bool false)], .agg [.lit (.bool false), .lit (.bool false), .lit (.bool false)], .agg [.lit (.bool true), .lit (.bool true), .lit (.bool true)]]

/-- 'skirmishlaw13.OccupyBlocked': WHATEVER THE INPUT: true; the input reads as it did. -/
def occupyBlockedSpec : ChangeSpec := { name := "occupyBlocked", fn := fun _ => fun
  | [d1, d2] => { results := [.lit (.bool true)], args := [d1, d2] }
  | _ => none }
def occupyBlockedRow : OpenClaim := { program := "ytoodnblhjopnlaadoor", sum := "30a3e74b82ff0df8e7cfdadc9783127045a15523570621f60113ed7506195c34", func := "skirmish/skirmishlaw13.OccupyBlocked", spec := "occupyBlocked", unfollowed := true, recurses := true, named := ["skirmish/grid.displacements", "skirmish/terrain.passages"], apart := false, laid := [("skirmish/grid.displacements", laid_skirmish_grid_displacements), ("skirmish/terrain.passages", laid_skirmish_terrain_passages)] }
def OccupyBlockedSaid : Prop := occupyBlockedRow.holds Tryd.pinned (OpenSpec.ofChange occupyBlockedSpec)

/-- ITS FALSE NEIGHBOUR: 'it returns false'. Refute it at one input. -/
def occupyBlockedWrong : ChangeSpec := { name := "occupyBlocked", fn := fun _ => fun
  | [d1, d2] => { results := [.lit (.bool false)], args := [d1, d2] }
  | _ => none }
def OccupyBlockedWrongFalsely : Prop := occupyBlockedRow.holds Tryd.pinned (OpenSpec.ofChange occupyBlockedWrong)

/-- 'skirmishlaw13.OccupyFree': WHATEVER THE INPUT: true; the input reads as it did. -/
def occupyFreeSpec : ChangeSpec := { name := "occupyFree", fn := fun _ => fun
  | [d1, d2, d3] => { results := [.lit (.bool true)], args := [d1, d2, d3] }
  | _ => none }
def occupyFreeRow : OpenClaim := { program := "ytoodnblhjopnlaadoor", sum := "30a3e74b82ff0df8e7cfdadc9783127045a15523570621f60113ed7506195c34", func := "skirmish/skirmishlaw13.OccupyFree", spec := "occupyFree", unfollowed := true, recurses := true, named := ["skirmish/grid.displacements", "skirmish/terrain.passages"], apart := false, laid := [("skirmish/grid.displacements", laid_skirmish_grid_displacements), ("skirmish/terrain.passages", laid_skirmish_terrain_passages)] }
def OccupyFreeSaid : Prop := occupyFreeRow.holds Tryd.pinned (OpenSpec.ofChange occupyFreeSpec)

/-- ITS FALSE NEIGHBOUR: 'it returns false'. Refute it at one input. -/
def occupyFreeWrong : ChangeSpec := { name := "occupyFree", fn := fun _ => fun
  | [d1, d2, d3] => { results := [.lit (.bool false)], args := [d1, d2, d3] }
  | _ => none }
def OccupyFreeWrongFalsely : Prop := occupyFreeRow.holds Tryd.pinned (OpenSpec.ofChange occupyFreeWrong)

/-- 'skirmishlaw13.OccupyFits': WHATEVER THE INPUT: true; the input reads as it did. -/
def occupyFitsSpec : ChangeSpec := { name := "occupyFits", fn := fun _ => fun
  | [d1, d2, d3] => { results := [.lit (.bool true)], args := [d1, d2, d3] }
  | _ => none }
def occupyFitsRow : OpenClaim := { program := "ytoodnblhjopnlaadoor", sum := "30a3e74b82ff0df8e7cfdadc9783127045a15523570621f60113ed7506195c34", func := "skirmish/skirmishlaw13.OccupyFits", spec := "occupyFits", unfollowed := true, recurses := true, named := ["skirmish/grid.displacements", "skirmish/terrain.passages"], apart := false, laid := [("skirmish/grid.displacements", laid_skirmish_grid_displacements), ("skirmish/terrain.passages", laid_skirmish_terrain_passages)] }
def OccupyFitsSaid : Prop := occupyFitsRow.holds Tryd.pinned (OpenSpec.ofChange occupyFitsSpec)

/-- ITS FALSE NEIGHBOUR: 'it returns false'. Refute it at one input. -/
def occupyFitsWrong : ChangeSpec := { name := "occupyFits", fn := fun _ => fun
  | [d1, d2, d3] => { results := [.lit (.bool false)], args := [d1, d2, d3] }
  | _ => none }
def OccupyFitsWrongFalsely : Prop := occupyFitsRow.holds Tryd.pinned (OpenSpec.ofChange occupyFitsWrong)

/-- 'skirmishlaw13.OccupyFewer': WHATEVER THE INPUT: true; the input reads as it did. -/
def occupyFewerSpec : ChangeSpec := { name := "occupyFewer", fn := fun _ => fun
  | [d1, d2, d3] => { results := [.lit (.bool true)], args := [d1, d2, d3] }
  | _ => none }
def occupyFewerRow : OpenClaim := { program := "ytoodnblhjopnlaadoor", sum := "30a3e74b82ff0df8e7cfdadc9783127045a15523570621f60113ed7506195c34", func := "skirmish/skirmishlaw13.OccupyFewer", spec := "occupyFewer", unfollowed := true, recurses := true, named := ["skirmish/grid.displacements", "skirmish/terrain.passages"], apart := false, laid := [("skirmish/grid.displacements", laid_skirmish_grid_displacements), ("skirmish/terrain.passages", laid_skirmish_terrain_passages)] }
def OccupyFewerSaid : Prop := occupyFewerRow.holds Tryd.pinned (OpenSpec.ofChange occupyFewerSpec)

/-- ITS FALSE NEIGHBOUR: 'it returns false'. Refute it at one input. -/
def occupyFewerWrong : ChangeSpec := { name := "occupyFewer", fn := fun _ => fun
  | [d1, d2, d3] => { results := [.lit (.bool false)], args := [d1, d2, d3] }
  | _ => none }
def OccupyFewerWrongFalsely : Prop := occupyFewerRow.holds Tryd.pinned (OpenSpec.ofChange occupyFewerWrong)

/-- 'skirmishlaw13.OccupyRing': WHATEVER THE INPUT: true; the input reads as it did. -/
def occupyRingSpec : ChangeSpec := { name := "occupyRing", fn := fun _ => fun
  | [d1, d2] => { results := [.lit (.bool true)], args := [d1, d2] }
  | _ => none }
def occupyRingRow : OpenClaim := { program := "ytoodnblhjopnlaadoor", sum := "30a3e74b82ff0df8e7cfdadc9783127045a15523570621f60113ed7506195c34", func := "skirmish/skirmishlaw13.OccupyRing", spec := "occupyRing", unfollowed := true, recurses := true, named := ["skirmish/grid.displacements", "skirmish/terrain.passages"], apart := false, laid := [("skirmish/grid.displacements", laid_skirmish_grid_displacements), ("skirmish/terrain.passages", laid_skirmish_terrain_passages)] }
def OccupyRingSaid : Prop := occupyRingRow.holds Tryd.pinned (OpenSpec.ofChange occupyRingSpec)

/-- ITS FALSE NEIGHBOUR: 'it returns false'. Refute it at one input. -/
def occupyRingWrong : ChangeSpec := { name := "occupyRing", fn := fun _ => fun
  | [d1, d2] => { results := [.lit (.bool false)], args := [d1, d2] }
  | _ => none }
def OccupyRingWrongFalsely : Prop := occupyRingRow.holds Tryd.pinned (OpenSpec.ofChange occupyRingWrong)

/-- 'skirmishlaw13.OccupySpots': WHATEVER THE INPUT: true; the input reads as it did. -/
def occupySpotsSpec : ChangeSpec := { name := "occupySpots", fn := fun _ => fun
  | [d1, d2, d3] => { results := [.lit (.bool true)], args := [d1, d2, d3] }
  | _ => none }
def occupySpotsRow : OpenClaim := { program := "ytoodnblhjopnlaadoor", sum := "30a3e74b82ff0df8e7cfdadc9783127045a15523570621f60113ed7506195c34", func := "skirmish/skirmishlaw13.OccupySpots", spec := "occupySpots", unfollowed := true, recurses := true, named := ["skirmish/grid.displacements", "skirmish/terrain.passages"], apart := false, laid := [("skirmish/grid.displacements", laid_skirmish_grid_displacements), ("skirmish/terrain.passages", laid_skirmish_terrain_passages)] }
def OccupySpotsSaid : Prop := occupySpotsRow.holds Tryd.pinned (OpenSpec.ofChange occupySpotsSpec)

/-- ITS FALSE NEIGHBOUR: 'it returns false'. Refute it at one input. -/
def occupySpotsWrong : ChangeSpec := { name := "occupySpots", fn := fun _ => fun
  | [d1, d2, d3] => { results := [.lit (.bool false)], args := [d1, d2, d3] }
  | _ => none }
def OccupySpotsWrongFalsely : Prop := occupySpotsRow.holds Tryd.pinned (OpenSpec.ofChange occupySpotsWrong)

/- THE SECOND FORM. 'bulk': how many values and letters a reading holds, each counted each time it is reached (what is shared counts as often as it is met; a slice's spare places count too). A statement '..UptoSaid' is the law's where the arguments, and the package variables that the reading takes, are together of bulk at most 1048576: NARROWER than '..Said'. Prove '..Said' where nothing that the law and all that it calls make is longer than what came in: it says more and counts as full. Else prove '..UptoSaid'. A law counts once. -/
mutual
def uptoBulk {H : Type} : DataW H → Nat
  | .lit (.string bytes) => bytes.length + 1
  | .lit _ => 1
  | .nil => 1
  | .ptr d => uptoBulk d + 1
  | .slice elems spare => uptoBulkAll elems + uptoBulkAll spare + 1
  | .agg parts => uptoBulkAll parts + 1
  | .iface _ d => uptoBulk d + 1
  | .map entries => uptoBulkEntries entries + 1
  | .held _ => 1
def uptoBulkAll {H : Type} : List (DataW H) → Nat
  | [] => 0
  | d :: r => uptoBulk d + uptoBulkAll r
def uptoBulkEntries {H : Type} : List (Lit × DataW H) → Nat
  | [] => 0
  | x :: r => uptoBulkEntry x + uptoBulkEntries r
def uptoBulkEntry {H : Type} : Lit × DataW H → Nat
  | (.string bytes, d) => bytes.length + uptoBulk d + 1
  | (_, d) => uptoBulk d + 1
 end
def uptoSmall : (H : Type) → List (DataW H) → Bool := fun _ ds => decide (uptoBulkAll ds ≤ 1048576)
def OpenSpec.upto (s : _root_.Go.ChangeSpec) : _root_.Go.OpenSpec := { _root_.Go.OpenSpec.ofChange s with cond := some uptoSmall }

/-- 'skirmishlaw13.OccupyBlocked', WHERE WHAT IT READS IS OF BULK AT MOST 1048576: true; the input reads as it did. -/
def occupyBlockedUptoRow : OpenClaim := { program := "ytoodnblhjopnlaadoor", sum := "30a3e74b82ff0df8e7cfdadc9783127045a15523570621f60113ed7506195c34", func := "skirmish/skirmishlaw13.OccupyBlocked", spec := "occupyBlocked", unfollowed := true, recurses := true, named := ["skirmish/grid.displacements", "skirmish/terrain.passages"], apart := false, laid := [("skirmish/grid.displacements", laid_skirmish_grid_displacements), ("skirmish/terrain.passages", laid_skirmish_terrain_passages)], narrowed := true }
def OccupyBlockedUptoSaid : Prop := occupyBlockedUptoRow.holds Tryd.pinned (OpenSpec.upto occupyBlockedSpec)

/-- 'skirmishlaw13.OccupyFree', WHERE WHAT IT READS IS OF BULK AT MOST 1048576: true; the input reads as it did. -/
def occupyFreeUptoRow : OpenClaim := { program := "ytoodnblhjopnlaadoor", sum := "30a3e74b82ff0df8e7cfdadc9783127045a15523570621f60113ed7506195c34", func := "skirmish/skirmishlaw13.OccupyFree", spec := "occupyFree", unfollowed := true, recurses := true, named := ["skirmish/grid.displacements", "skirmish/terrain.passages"], apart := false, laid := [("skirmish/grid.displacements", laid_skirmish_grid_displacements), ("skirmish/terrain.passages", laid_skirmish_terrain_passages)], narrowed := true }
def OccupyFreeUptoSaid : Prop := occupyFreeUptoRow.holds Tryd.pinned (OpenSpec.upto occupyFreeSpec)

/-- 'skirmishlaw13.OccupyFits', WHERE WHAT IT READS IS OF BULK AT MOST 1048576: true; the input reads as it did. -/
def occupyFitsUptoRow : OpenClaim := { program := "ytoodnblhjopnlaadoor", sum := "30a3e74b82ff0df8e7cfdadc9783127045a15523570621f60113ed7506195c34", func := "skirmish/skirmishlaw13.OccupyFits", spec := "occupyFits", unfollowed := true, recurses := true, named := ["skirmish/grid.displacements", "skirmish/terrain.passages"], apart := false, laid := [("skirmish/grid.displacements", laid_skirmish_grid_displacements), ("skirmish/terrain.passages", laid_skirmish_terrain_passages)], narrowed := true }
def OccupyFitsUptoSaid : Prop := occupyFitsUptoRow.holds Tryd.pinned (OpenSpec.upto occupyFitsSpec)

/-- 'skirmishlaw13.OccupyFewer', WHERE WHAT IT READS IS OF BULK AT MOST 1048576: true; the input reads as it did. -/
def occupyFewerUptoRow : OpenClaim := { program := "ytoodnblhjopnlaadoor", sum := "30a3e74b82ff0df8e7cfdadc9783127045a15523570621f60113ed7506195c34", func := "skirmish/skirmishlaw13.OccupyFewer", spec := "occupyFewer", unfollowed := true, recurses := true, named := ["skirmish/grid.displacements", "skirmish/terrain.passages"], apart := false, laid := [("skirmish/grid.displacements", laid_skirmish_grid_displacements), ("skirmish/terrain.passages", laid_skirmish_terrain_passages)], narrowed := true }
def OccupyFewerUptoSaid : Prop := occupyFewerUptoRow.holds Tryd.pinned (OpenSpec.upto occupyFewerSpec)

/-- 'skirmishlaw13.OccupyRing', WHERE WHAT IT READS IS OF BULK AT MOST 1048576: true; the input reads as it did. -/
def occupyRingUptoRow : OpenClaim := { program := "ytoodnblhjopnlaadoor", sum := "30a3e74b82ff0df8e7cfdadc9783127045a15523570621f60113ed7506195c34", func := "skirmish/skirmishlaw13.OccupyRing", spec := "occupyRing", unfollowed := true, recurses := true, named := ["skirmish/grid.displacements", "skirmish/terrain.passages"], apart := false, laid := [("skirmish/grid.displacements", laid_skirmish_grid_displacements), ("skirmish/terrain.passages", laid_skirmish_terrain_passages)], narrowed := true }
def OccupyRingUptoSaid : Prop := occupyRingUptoRow.holds Tryd.pinned (OpenSpec.upto occupyRingSpec)

/-- 'skirmishlaw13.OccupySpots', WHERE WHAT IT READS IS OF BULK AT MOST 1048576: true; the input reads as it did. -/
def occupySpotsUptoRow : OpenClaim := { program := "ytoodnblhjopnlaadoor", sum := "30a3e74b82ff0df8e7cfdadc9783127045a15523570621f60113ed7506195c34", func := "skirmish/skirmishlaw13.OccupySpots", spec := "occupySpots", unfollowed := true, recurses := true, named := ["skirmish/grid.displacements", "skirmish/terrain.passages"], apart := false, laid := [("skirmish/grid.displacements", laid_skirmish_grid_displacements), ("skirmish/terrain.passages", laid_skirmish_terrain_passages)], narrowed := true }
def OccupySpotsUptoSaid : Prop := occupySpotsUptoRow.holds Tryd.pinned (OpenSpec.upto occupySpotsSpec)

end Rows
end Go.Proofs.YtoodnblhjopnlaaDoor
