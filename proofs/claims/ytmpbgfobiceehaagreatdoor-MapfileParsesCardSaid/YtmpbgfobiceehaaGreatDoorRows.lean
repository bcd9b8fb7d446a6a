/-
  NARROWER THAN 'FOR EVERY INPUT', by the rows' own cells (each row's printed sentence says how): MapfileValid: laid · MapfileParses: laid · MapfileLong: laid · MapfileMirrors: laid · MapfileRoundTrips: laid · MapfileAccepts: laid · MapfileSymmetry: laid.
  DERIVED. THE GIVEN ROWS OF THIS SEAT. 7 by the template 'for every input the law returns true; each argument reads behind the call as it read before'; 0 by the template 'total and deterministic' (their statements: YtmpbgfobiceehaaGreatDoorTotals.lean).
  GIVEN WITH THE SEED: the statements are not yours to turn. If you find one false, say at which input.
  Laid BY PROGRAM, IN A SANDBOX (cutbox-rows.mjs): the forced cells as the released guide's own fill.sh prints them over the translation 30b4695755b4fefb… (all of the seat's roots in one cut). By AI agents, Wed Nov 11 2026. No macro, syntax, notation, axiom, sorry.
-/
import Derived.Test.YtmpbgfobiceehaaGreatDoorChecked
import GoSem.Claim
import GoSem.ClaimJoined
import GoSem.ClaimMapViews
import Derived.JoinedTies
import Derived.KernelRfl
namespace Go.Proofs.YtmpbgfobiceehaaGreatDoor
/- THE CELL 'sum', in the pinned program and in every row, IS THE sha256 OF THE DUMP (.gsa) THAT YtmpbgfobiceehaaGreatDoorProg.lean LOADS. Nothing in Lean hashes anything: it is a label: what it is worth is what the hold of that sum in a sandbox is worth. -/
noncomputable def Tryz.pinned : Pinned := { name := "ytmpbgfobiceehaagreatdoor", sum := "30b4695755b4fefb2f30204625a65d2c1ed5a151247a167d166ff28edd031158", checked := Tryz.checked }
namespace Rows
def none {H : Type} : Left H := { results := [], args := [] }

/- WHAT THE LISTED PACKAGE-LEVEL VARIABLES READ AS WHEN THE CALL BEGINS. Each datum BY PROGRAM (the guide's laid-datum.mjs) off the statement by which the dump's own 'gosem.cut.vars' lays the variable. In a bare row this is a premise. The card (YtmpbgfobiceehaaGreatDoorCards.lean) ties it to the program's text. -/
def laid_math_bits_deBruijn32tab {H : Type} : DataW H := .agg [.lit (.int .u8 0), .lit (.int .u8 1), .lit (.int .u8 28), .lit (.int .u8 2), .lit (.int .u8 29), .lit (.int .u8 14), .lit (.int .u8 24), .lit (.int .u8 3), .lit (.int .u8 30), .lit (.int .u8 22), .lit (.int .u8 20), .lit (.int .u8 15), .lit (.int .u8 25), .lit (.int .u8 17), .lit (.int .u8 4), .lit (.int .u8 8), .lit (.int .u8 31), .lit (.int .u8 27), .lit (.int .u8 13), .lit (.int .u8 23), .lit (.int .u8 21), .lit (.int .u8 19), .lit (.int .u8 16), .lit (.int .u8 7), .lit (.int .u8 26), .lit (.int .u8 12), .lit (.int .u8 18), .lit (.int .u8 6), .lit (.int .u8 11), .lit (.int .u8 5), .lit (.int .u8 10), .lit (.int .u8 9)]
def laid_math_bits_deBruijn64tab {H : Type} : DataW H := .agg [.lit (.int .u8 0), .lit (.int .u8 1), .lit (.int .u8 56), .lit (.int .u8 2), .lit (.int .u8 57), .lit (.int .u8 49), .lit (.int .u8 28), .lit (.int .u8 3), .lit (.int .u8 61), .lit (.int .u8 58), .lit (.int .u8 42), .lit (.int .u8 50), .lit (.int .u8 38), .lit (.int .u8 29), .lit (.int .u8 17), .lit (.int .u8 4), .lit (.int .u8 62), .lit (.int .u8 47), .lit (.int .u8 59), .lit (.int .u8 36), .lit (.int .u8 45), .lit (.int .u8 43), .lit (.int .u8 51), .lit (.int .u8 22), .lit (.int .u8 53), .lit (.int .u8 39), .lit (.int .u8 33), .lit (.int .u8 30), .lit (.int .u8 24), .lit (.int .u8 18), .lit (.int .u8 12), .lit (.int .u8 5), .lit (.int .u8 63), .lit (.int .u8 55), .lit (.int .u8 48), .lit (.int .u8 27), .lit (.int .u8 60), .lit (.int .u8 41), .lit (.int .u8 37), .lit (.int .u8 16), .lit (.int .u8 46), .lit (.int .u8 35), .lit (.int .u8 44), .lit (.int .u8 21), .lit (.int .u8 52), .lit (.int .u8 32), .lit (.int .u8 23), .lit (.int .u8 11), .lit (.int .u8 54), .lit (.int .u8 26), .lit (.int .u8 40), .lit (.int .u8 15), .lit (.int .u8 34), .lit (.int .u8 20), .lit (.int .u8 31), .lit (.int .u8 10), .lit (.int .u8 25), .lit (.int .u8 14), .lit (.int .u8 19), .lit (.int .u8 9), .lit (.int .u8 13), .lit (.int .u8 8), .lit (.int .u8 7), .lit (.int .u8 6)]
def laid_internal_strconv_uint64pow10 {H : Type} : DataW H := .agg [.lit (.int .u64 1), .lit (.int .u64 10), .lit (.int .u64 100), .lit (.int .u64 1000), .lit (.int .u64 10000), .lit (.int .u64 100000), .lit (.int .u64 1000000), .lit (.int .u64 10000000), .lit (.int .u64 100000000), .lit (.int .u64 1000000000), .lit (.int .u64 10000000000), .lit (.int .u64 100000000000), .lit (.int .u64 1000000000000), .lit (.int .u64 10000000000000), .lit (.int .u64 100000000000000), .lit (.int .u64 1000000000000000), .lit (.int .u64 10000000000000000), .lit (.int .u64 100000000000000000), .lit (.int .u64 1000000000000000000), .lit (.int .u64 10000000000000000000)]
def laid_strconv_ErrRange {H : Type} : DataW H := .iface "*errors.errorString" (.ptr (.agg [.lit (.string [118, 97, 108, 117, 101, 32, 111, 117, 116, 32, 111, 102, 32, 114, 97, 110, 103, 101])]))
def laid_strconv_ErrSyntax {H : Type} : DataW H := .iface "*errors.errorString" (.ptr (.agg [.lit (.string [105, 110, 118, 97, 108, 105, 100, 32, 115, 121, 110, 116, 97, 120])]))
def laid_skirmish_terrain_passages {H : Type} : DataW H := .agg [.agg [.lit (.bool false), .lit (.bool false), .lit (.bool true)], .agg [.lit (.bool true), .lit (.bool true), .lit (.bool true)], .agg [.lit (.bool false), .lit (.bool true), .lit (.bool true)], .agg [.lit (.bool false), .lit (.bool false), .lit (.bool false)], .agg [.lit (.bool false), .lit (.bool false), .lit (.bool false)], .agg [.lit (.bool true), .lit (.bool true), .lit (.bool true)]]

/-- 'skirmishlaw08.MapfileValid': WHATEVER THE INPUT: true; the input reads as it did. -/
def mapfileValidSpec : ChangeSpec := { name := "mapfileValid", fn := fun _ => fun
  | [d] => { results := [.lit (.bool true)], args := [d] }
  | _ => none }
def mapfileValidRow : OpenClaim := { program := "ytmpbgfobiceehaagreatdoor", sum := "30b4695755b4fefb2f30204625a65d2c1ed5a151247a167d166ff28edd031158", func := "skirmish/skirmishlaw08.MapfileValid", spec := "mapfileValid", inPlace := ["internal/bytealg.IndexByteString", "internal/bytealg.IndexString", "internal/abi.NoEscape"], unfollowed := true, recurses := true, named := ["internal/bytealg.MaxLen", "strconv.ErrSyntax", "strconv.ErrRange", "internal/strconv.uint64pow10", "math/bits.deBruijn32tab", "math/bits.deBruijn64tab", "skirmish/terrain.passages"], apart := false, laid := [("math/bits.deBruijn32tab", laid_math_bits_deBruijn32tab), ("math/bits.deBruijn64tab", laid_math_bits_deBruijn64tab), ("internal/strconv.uint64pow10", laid_internal_strconv_uint64pow10), ("strconv.ErrRange", laid_strconv_ErrRange), ("strconv.ErrSyntax", laid_strconv_ErrSyntax), ("skirmish/terrain.passages", laid_skirmish_terrain_passages)] }
def MapfileValidSaid : Prop := mapfileValidRow.holds Tryz.pinned (OpenSpec.ofChange mapfileValidSpec)

/-- ITS FALSE NEIGHBOUR: 'it returns false'. Refute it at one input. -/
def mapfileValidWrong : ChangeSpec := { name := "mapfileValid", fn := fun _ => fun
  | [d] => { results := [.lit (.bool false)], args := [d] }
  | _ => none }
def MapfileValidWrongFalsely : Prop := mapfileValidRow.holds Tryz.pinned (OpenSpec.ofChange mapfileValidWrong)

/-- 'skirmishlaw08.MapfileParses': WHATEVER THE INPUT: true; the input reads as it did. -/
def mapfileParsesSpec : ChangeSpec := { name := "mapfileParses", fn := fun _ => fun
  | [d] => { results := [.lit (.bool true)], args := [d] }
  | _ => none }
def mapfileParsesRow : OpenClaim := { program := "ytmpbgfobiceehaagreatdoor", sum := "30b4695755b4fefb2f30204625a65d2c1ed5a151247a167d166ff28edd031158", func := "skirmish/skirmishlaw08.MapfileParses", spec := "mapfileParses", inPlace := ["internal/bytealg.IndexByteString", "internal/bytealg.IndexString", "internal/abi.NoEscape"], unfollowed := true, recurses := true, named := ["internal/bytealg.MaxLen", "strconv.ErrSyntax", "strconv.ErrRange", "internal/strconv.uint64pow10", "math/bits.deBruijn32tab", "math/bits.deBruijn64tab", "skirmish/terrain.passages"], apart := false, laid := [("math/bits.deBruijn32tab", laid_math_bits_deBruijn32tab), ("math/bits.deBruijn64tab", laid_math_bits_deBruijn64tab), ("internal/strconv.uint64pow10", laid_internal_strconv_uint64pow10), ("strconv.ErrRange", laid_strconv_ErrRange), ("strconv.ErrSyntax", laid_strconv_ErrSyntax), ("skirmish/terrain.passages", laid_skirmish_terrain_passages)] }
def MapfileParsesSaid : Prop := mapfileParsesRow.holds Tryz.pinned (OpenSpec.ofChange mapfileParsesSpec)

/-- ITS FALSE NEIGHBOUR: 'it returns false'. Refute it at one input. -/
def mapfileParsesWrong : ChangeSpec := { name := "mapfileParses", fn := fun _ => fun
  | [d] => { results := [.lit (.bool false)], args := [d] }
  | _ => none }
def MapfileParsesWrongFalsely : Prop := mapfileParsesRow.holds Tryz.pinned (OpenSpec.ofChange mapfileParsesWrong)

/-- 'skirmishlaw08.MapfileLong': WHATEVER THE INPUT: true; the input reads as it did. -/
def mapfileLongSpec : ChangeSpec := { name := "mapfileLong", fn := fun _ => fun
  | [d] => { results := [.lit (.bool true)], args := [d] }
  | _ => none }
def mapfileLongRow : OpenClaim := { program := "ytmpbgfobiceehaagreatdoor", sum := "30b4695755b4fefb2f30204625a65d2c1ed5a151247a167d166ff28edd031158", func := "skirmish/skirmishlaw08.MapfileLong", spec := "mapfileLong", inPlace := ["internal/bytealg.IndexByteString", "internal/bytealg.IndexString", "internal/abi.NoEscape"], unfollowed := true, recurses := true, named := ["internal/bytealg.MaxLen", "strconv.ErrSyntax", "strconv.ErrRange", "internal/strconv.uint64pow10", "math/bits.deBruijn32tab", "math/bits.deBruijn64tab", "skirmish/terrain.passages"], apart := false, laid := [("math/bits.deBruijn32tab", laid_math_bits_deBruijn32tab), ("math/bits.deBruijn64tab", laid_math_bits_deBruijn64tab), ("internal/strconv.uint64pow10", laid_internal_strconv_uint64pow10), ("strconv.ErrRange", laid_strconv_ErrRange), ("strconv.ErrSyntax", laid_strconv_ErrSyntax), ("skirmish/terrain.passages", laid_skirmish_terrain_passages)] }
def MapfileLongSaid : Prop := mapfileLongRow.holds Tryz.pinned (OpenSpec.ofChange mapfileLongSpec)

/-- ITS FALSE NEIGHBOUR: 'it returns false'. Refute it at one input. -/
def mapfileLongWrong : ChangeSpec := { name := "mapfileLong", fn := fun _ => fun
  | [d] => { results := [.lit (.bool false)], args := [d] }
  | _ => none }
def MapfileLongWrongFalsely : Prop := mapfileLongRow.holds Tryz.pinned (OpenSpec.ofChange mapfileLongWrong)

/-- 'skirmishlaw08.MapfileMirrors': WHATEVER THE INPUT: true; the input reads as it did. -/
def mapfileMirrorsSpec : ChangeSpec := { name := "mapfileMirrors", fn := fun _ => fun
  | [d] => { results := [.lit (.bool true)], args := [d] }
  | _ => none }
def mapfileMirrorsRow : OpenClaim := { program := "ytmpbgfobiceehaagreatdoor", sum := "30b4695755b4fefb2f30204625a65d2c1ed5a151247a167d166ff28edd031158", func := "skirmish/skirmishlaw08.MapfileMirrors", spec := "mapfileMirrors", inPlace := ["internal/bytealg.IndexByteString", "internal/bytealg.IndexString", "internal/abi.NoEscape"], unfollowed := true, recurses := true, named := ["internal/bytealg.MaxLen", "strconv.ErrSyntax", "strconv.ErrRange", "internal/strconv.uint64pow10", "math/bits.deBruijn32tab", "math/bits.deBruijn64tab", "skirmish/terrain.passages"], apart := false, laid := [("math/bits.deBruijn32tab", laid_math_bits_deBruijn32tab), ("math/bits.deBruijn64tab", laid_math_bits_deBruijn64tab), ("internal/strconv.uint64pow10", laid_internal_strconv_uint64pow10), ("strconv.ErrRange", laid_strconv_ErrRange), ("strconv.ErrSyntax", laid_strconv_ErrSyntax), ("skirmish/terrain.passages", laid_skirmish_terrain_passages)] }
def MapfileMirrorsSaid : Prop := mapfileMirrorsRow.holds Tryz.pinned (OpenSpec.ofChange mapfileMirrorsSpec)

/-- ITS FALSE NEIGHBOUR: 'it returns false'. Refute it at one input. -/
def mapfileMirrorsWrong : ChangeSpec := { name := "mapfileMirrors", fn := fun _ => fun
  | [d] => { results := [.lit (.bool false)], args := [d] }
  | _ => none }
def MapfileMirrorsWrongFalsely : Prop := mapfileMirrorsRow.holds Tryz.pinned (OpenSpec.ofChange mapfileMirrorsWrong)

/-- 'skirmishlaw08.MapfileRoundTrips': WHATEVER THE INPUT: true; the input reads as it did. -/
def mapfileRoundTripsSpec : ChangeSpec := { name := "mapfileRoundTrips", fn := fun _ => fun
  | [d] => { results := [.lit (.bool true)], args := [d] }
  | _ => none }
def mapfileRoundTripsRow : OpenClaim := { program := "ytmpbgfobiceehaagreatdoor", sum := "30b4695755b4fefb2f30204625a65d2c1ed5a151247a167d166ff28edd031158", func := "skirmish/skirmishlaw08.MapfileRoundTrips", spec := "mapfileRoundTrips", inPlace := ["internal/bytealg.IndexByteString", "internal/bytealg.IndexString", "internal/abi.NoEscape"], unfollowed := true, recurses := true, named := ["internal/bytealg.MaxLen", "strconv.ErrSyntax", "strconv.ErrRange", "internal/strconv.uint64pow10", "math/bits.deBruijn32tab", "math/bits.deBruijn64tab", "skirmish/terrain.passages"], apart := false, laid := [("math/bits.deBruijn32tab", laid_math_bits_deBruijn32tab), ("math/bits.deBruijn64tab", laid_math_bits_deBruijn64tab), ("internal/strconv.uint64pow10", laid_internal_strconv_uint64pow10), ("strconv.ErrRange", laid_strconv_ErrRange), ("strconv.ErrSyntax", laid_strconv_ErrSyntax), ("skirmish/terrain.passages", laid_skirmish_terrain_passages)] }
def MapfileRoundTripsSaid : Prop := mapfileRoundTripsRow.holds Tryz.pinned (OpenSpec.ofChange mapfileRoundTripsSpec)

/-- ITS FALSE NEIGHBOUR: 'it returns false'. Refute it at one input. -/
def mapfileRoundTripsWrong : ChangeSpec := { name := "mapfileRoundTrips", fn := fun _ => fun
  | [d] => { results := [.lit (.bool false)], args := [d] }
  | _ => none }
def MapfileRoundTripsWrongFalsely : Prop := mapfileRoundTripsRow.holds Tryz.pinned (OpenSpec.ofChange mapfileRoundTripsWrong)

/-- 'skirmishlaw08.MapfileAccepts': WHATEVER THE INPUT: true; the input reads as it did. -/
def mapfileAcceptsSpec : ChangeSpec := { name := "mapfileAccepts", fn := fun _ => fun
  | [d] => { results := [.lit (.bool true)], args := [d] }
  | _ => none }
def mapfileAcceptsRow : OpenClaim := { program := "ytmpbgfobiceehaagreatdoor", sum := "30b4695755b4fefb2f30204625a65d2c1ed5a151247a167d166ff28edd031158", func := "skirmish/skirmishlaw08.MapfileAccepts", spec := "mapfileAccepts", inPlace := ["internal/bytealg.IndexByteString", "internal/bytealg.IndexString", "internal/abi.NoEscape"], unfollowed := true, recurses := true, named := ["internal/bytealg.MaxLen", "strconv.ErrSyntax", "strconv.ErrRange", "internal/strconv.uint64pow10", "math/bits.deBruijn32tab", "math/bits.deBruijn64tab", "skirmish/terrain.passages"], apart := false, laid := [("math/bits.deBruijn32tab", laid_math_bits_deBruijn32tab), ("math/bits.deBruijn64tab", laid_math_bits_deBruijn64tab), ("internal/strconv.uint64pow10", laid_internal_strconv_uint64pow10), ("strconv.ErrRange", laid_strconv_ErrRange), ("strconv.ErrSyntax", laid_strconv_ErrSyntax), ("skirmish/terrain.passages", laid_skirmish_terrain_passages)] }
def MapfileAcceptsSaid : Prop := mapfileAcceptsRow.holds Tryz.pinned (OpenSpec.ofChange mapfileAcceptsSpec)

/-- ITS FALSE NEIGHBOUR: 'it returns false'. Refute it at one input. -/
def mapfileAcceptsWrong : ChangeSpec := { name := "mapfileAccepts", fn := fun _ => fun
  | [d] => { results := [.lit (.bool false)], args := [d] }
  | _ => none }
def MapfileAcceptsWrongFalsely : Prop := mapfileAcceptsRow.holds Tryz.pinned (OpenSpec.ofChange mapfileAcceptsWrong)

/-- 'skirmishlaw08.MapfileSymmetry': WHATEVER THE INPUT: true; the input reads as it did. -/
def mapfileSymmetrySpec : ChangeSpec := { name := "mapfileSymmetry", fn := fun _ => fun
  | [d] => { results := [.lit (.bool true)], args := [d] }
  | _ => none }
def mapfileSymmetryRow : OpenClaim := { program := "ytmpbgfobiceehaagreatdoor", sum := "30b4695755b4fefb2f30204625a65d2c1ed5a151247a167d166ff28edd031158", func := "skirmish/skirmishlaw08.MapfileSymmetry", spec := "mapfileSymmetry", inPlace := ["internal/bytealg.IndexByteString", "internal/bytealg.IndexString", "internal/abi.NoEscape"], unfollowed := true, recurses := true, named := ["internal/bytealg.MaxLen", "strconv.ErrSyntax", "strconv.ErrRange", "internal/strconv.uint64pow10", "math/bits.deBruijn32tab", "math/bits.deBruijn64tab", "skirmish/terrain.passages"], apart := false, laid := [("math/bits.deBruijn32tab", laid_math_bits_deBruijn32tab), ("math/bits.deBruijn64tab", laid_math_bits_deBruijn64tab), ("internal/strconv.uint64pow10", laid_internal_strconv_uint64pow10), ("strconv.ErrRange", laid_strconv_ErrRange), ("strconv.ErrSyntax", laid_strconv_ErrSyntax), ("skirmish/terrain.passages", laid_skirmish_terrain_passages)] }
def MapfileSymmetrySaid : Prop := mapfileSymmetryRow.holds Tryz.pinned (OpenSpec.ofChange mapfileSymmetrySpec)

/-- ITS FALSE NEIGHBOUR: 'it returns false'. Refute it at one input. -/
def mapfileSymmetryWrong : ChangeSpec := { name := "mapfileSymmetry", fn := fun _ => fun
  | [d] => { results := [.lit (.bool false)], args := [d] }
  | _ => none }
def MapfileSymmetryWrongFalsely : Prop := mapfileSymmetryRow.holds Tryz.pinned (OpenSpec.ofChange mapfileSymmetryWrong)

/- THE SECOND FORM. 'bulk': how many values and letters a reading holds, each counted each time it is reached (what is shared counts as often as it is met; a slice's spare places count too). A statement '..UptoSaid' is the law's where the arguments, and the package variables that the reading takes, are together of bulk at most 1048576: NARROWER than '..Said'. Prove '..Said' where nothing that the law and all that it calls make is longer than what came in: it says more and counts as full. Else prove '..UptoSaid'. A law counts once. -/
mutual
def uptoBulk {H : Type} : DataW H → Nat
  | .lit (.string bytes) => bytes.length + 1
  | .lit _ => 1
  | .nil => 1
  | .ptr d => uptoBulk d + 1
  | .slice elems spare => uptoBulkAll elems + uptoBulkAll spare + 1
  | .agg parts => uptoBulkAll parts + 1
  | .iface _ d => uptoBulk d + 1
  | .map entries => uptoBulkEntries entries + 1
  | .held _ => 1
def uptoBulkAll {H : Type} : List (DataW H) → Nat
  | [] => 0
  | d :: r => uptoBulk d + uptoBulkAll r
def uptoBulkEntries {H : Type} : List (Lit × DataW H) → Nat
  | [] => 0
  | x :: r => uptoBulkEntry x + uptoBulkEntries r
def uptoBulkEntry {H : Type} : Lit × DataW H → Nat
  | (.string bytes, d) => bytes.length + uptoBulk d + 1
  | (_, d) => uptoBulk d + 1
 end
def uptoSmall : (H : Type) → List (DataW H) → Bool := fun _ ds => decide (uptoBulkAll ds ≤ 1048576)
def OpenSpec.upto (s : _root_.Go.ChangeSpec) : _root_.Go.OpenSpec := { _root_.Go.OpenSpec.ofChange s with cond := some uptoSmall }

/-- 'skirmishlaw08.MapfileValid', WHERE WHAT IT READS IS OF BULK AT MOST 1048576: true; the input reads as it did. -/
def mapfileValidUptoRow : OpenClaim := { program := "ytmpbgfobiceehaagreatdoor", sum := "30b4695755b4fefb2f30204625a65d2c1ed5a151247a167d166ff28edd031158", func := "skirmish/skirmishlaw08.MapfileValid", spec := "mapfileValid", inPlace := ["internal/bytealg.IndexByteString", "internal/bytealg.IndexString", "internal/abi.NoEscape"], unfollowed := true, recurses := true, named := ["internal/bytealg.MaxLen", "strconv.ErrSyntax", "strconv.ErrRange", "internal/strconv.uint64pow10", "math/bits.deBruijn32tab", "math/bits.deBruijn64tab", "skirmish/terrain.passages"], apart := false, laid := [("math/bits.deBruijn32tab", laid_math_bits_deBruijn32tab), ("math/bits.deBruijn64tab", laid_math_bits_deBruijn64tab), ("internal/strconv.uint64pow10", laid_internal_strconv_uint64pow10), ("strconv.ErrRange", laid_strconv_ErrRange), ("strconv.ErrSyntax", laid_strconv_ErrSyntax), ("skirmish/terrain.passages", laid_skirmish_terrain_passages)], narrowed := true }
def MapfileValidUptoSaid : Prop := mapfileValidUptoRow.holds Tryz.pinned (OpenSpec.upto mapfileValidSpec)

/-- 'skirmishlaw08.MapfileParses', WHERE WHAT IT READS IS OF BULK AT MOST 1048576: true; the input reads as it did. -/
def mapfileParsesUptoRow : OpenClaim := { program := "ytmpbgfobiceehaagreatdoor", sum := "30b4695755b4fefb2f30204625a65d2c1ed5a151247a167d166ff28edd031158", func := "skirmish/skirmishlaw08.MapfileParses", spec := "mapfileParses", inPlace := ["internal/bytealg.IndexByteString", "internal/bytealg.IndexString", "internal/abi.NoEscape"], unfollowed := true, recurses := true, named := ["internal/bytealg.MaxLen", "strconv.ErrSyntax", "strconv.ErrRange", "internal/strconv.uint64pow10", "math/bits.deBruijn32tab", "math/bits.deBruijn64tab", "skirmish/terrain.passages"], apart := false, laid := [("math/bits.deBruijn32tab", laid_math_bits_deBruijn32tab), ("math/bits.deBruijn64tab", laid_math_bits_deBruijn64tab), ("internal/strconv.uint64pow10", laid_internal_strconv_uint64pow10), ("strconv.ErrRange", laid_strconv_ErrRange), ("strconv.ErrSyntax", laid_strconv_ErrSyntax), ("skirmish/terrain.passages", laid_skirmish_terrain_passages)], narrowed := true }
def MapfileParsesUptoSaid : Prop := mapfileParsesUptoRow.holds Tryz.pinned (OpenSpec.upto mapfileParsesSpec)

/-- 'skirmishlaw08.MapfileLong', WHERE WHAT IT READS IS OF BULK AT MOST 1048576: true; the input reads as it did. -/
def mapfileLongUptoRow : OpenClaim := { program := "ytmpbgfobiceehaagreatdoor", sum := "30b4695755b4fefb2f30204625a65d2c1ed5a151247a167d166ff28edd031158", func := "skirmish/skirmishlaw08.MapfileLong", spec := "mapfileLong", inPlace := ["internal/bytealg.IndexByteString", "internal/bytealg.IndexString", "internal/abi.NoEscape"], unfollowed := true, recurses := true, named := ["internal/bytealg.MaxLen", "strconv.ErrSyntax", "strconv.ErrRange", "internal/strconv.uint64pow10", "math/bits.deBruijn32tab", "math/bits.deBruijn64tab", "skirmish/terrain.passages"], apart := false, laid := [("math/bits.deBruijn32tab", laid_math_bits_deBruijn32tab), ("math/bits.deBruijn64tab", laid_math_bits_deBruijn64tab), ("internal/strconv.uint64pow10", laid_internal_strconv_uint64pow10), ("strconv.ErrRange", laid_strconv_ErrRange), ("strconv.ErrSyntax", laid_strconv_ErrSyntax), ("skirmish/terrain.passages", laid_skirmish_terrain_passages)], narrowed := true }
def MapfileLongUptoSaid : Prop := mapfileLongUptoRow.holds Tryz.pinned (OpenSpec.upto mapfileLongSpec)

/-- 'skirmishlaw08.MapfileMirrors', WHERE WHAT IT READS IS OF BULK AT MOST 1048576: true; the input reads as it did. -/
def mapfileMirrorsUptoRow : OpenClaim := { program := "ytmpbgfobiceehaagreatdoor", sum := "30b4695755b4fefb2f30204625a65d2c1ed5a151247a167d166ff28edd031158", func := "skirmish/skirmishlaw08.MapfileMirrors", spec := "mapfileMirrors", inPlace := ["internal/bytealg.IndexByteString", "internal/bytealg.IndexString", "internal/abi.NoEscape"], unfollowed := true, recurses := true, named := ["internal/bytealg.MaxLen", "strconv.ErrSyntax", "strconv.ErrRange", "internal/strconv.uint64pow10", "math/bits.deBruijn32tab", "math/bits.deBruijn64tab", "skirmish/terrain.passages"], apart := false, laid := [("math/bits.deBruijn32tab", laid_math_bits_deBruijn32tab), ("math/bits.deBruijn64tab", laid_math_bits_deBruijn64tab), ("internal/strconv.uint64pow10", laid_internal_strconv_uint64pow10), ("strconv.ErrRange", laid_strconv_ErrRange), ("strconv.ErrSyntax", laid_strconv_ErrSyntax), ("skirmish/terrain.passages", laid_skirmish_terrain_passages)], narrowed := true }
def MapfileMirrorsUptoSaid : Prop := mapfileMirrorsUptoRow.holds Tryz.pinned (OpenSpec.upto mapfileMirrorsSpec)

/-- 'skirmishlaw08.MapfileRoundTrips', WHERE WHAT IT READS IS OF BULK AT MOST 1048576: true; the input reads as it did. -/
def mapfileRoundTripsUptoRow : OpenClaim := { program := "ytmpbgfobiceehaagreatdoor", sum := "30b4695755b4fefb2f30204625a65d2c1ed5a151247a167d166ff28edd031158", func := "skirmish/skirmishlaw08.MapfileRoundTrips", spec := "mapfileRoundTrips", inPlace := ["internal/bytealg.IndexByteString", "internal/bytealg.IndexString", "internal/abi.NoEscape"], unfollowed := true, recurses := true, named := ["internal/bytealg.MaxLen", "strconv.ErrSyntax", "strconv.ErrRange", "internal/strconv.uint64pow10", "math/bits.deBruijn32tab", "math/bits.deBruijn64tab", "skirmish/terrain.passages"], apart := false, laid := [("math/bits.deBruijn32tab", laid_math_bits_deBruijn32tab), ("math/bits.deBruijn64tab", laid_math_bits_deBruijn64tab), ("internal/strconv.uint64pow10", laid_internal_strconv_uint64pow10), ("strconv.ErrRange", laid_strconv_ErrRange), ("strconv.ErrSyntax", laid_strconv_ErrSyntax), ("skirmish/terrain.passages", laid_skirmish_terrain_passages)], narrowed := true }
def MapfileRoundTripsUptoSaid : Prop := mapfileRoundTripsUptoRow.holds Tryz.pinned (OpenSpec.upto mapfileRoundTripsSpec)

/-- 'skirmishlaw08.MapfileAccepts', WHERE WHAT IT READS IS OF BULK AT MOST 1048576: true; the input reads as it did. -/
def mapfileAcceptsUptoRow : OpenClaim := { program := "ytmpbgfobiceehaagreatdoor", sum := "30b4695755b4fefb2f30204625a65d2c1ed5a151247a167d166ff28edd031158", func := "skirmish/skirmishlaw08.MapfileAccepts", spec := "mapfileAccepts", inPlace := ["internal/bytealg.IndexByteString", "internal/bytealg.IndexString", "internal/abi.NoEscape"], unfollowed := true, recurses := true, named := ["internal/bytealg.MaxLen", "strconv.ErrSyntax", "strconv.ErrRange", "internal/strconv.uint64pow10", "math/bits.deBruijn32tab", "math/bits.deBruijn64tab", "skirmish/terrain.passages"], apart := false, laid := [("math/bits.deBruijn32tab", laid_math_bits_deBruijn32tab), ("math/bits.deBruijn64tab", laid_math_bits_deBruijn64tab), ("internal/strconv.uint64pow10", laid_internal_strconv_uint64pow10), ("strconv.ErrRange", laid_strconv_ErrRange), ("strconv.ErrSyntax", laid_strconv_ErrSyntax), ("skirmish/terrain.passages", laid_skirmish_terrain_passages)], narrowed := true }
def MapfileAcceptsUptoSaid : Prop := mapfileAcceptsUptoRow.holds Tryz.pinned (OpenSpec.upto mapfileAcceptsSpec)

/-- 'skirmishlaw08.MapfileSymmetry', WHERE WHAT IT READS IS OF BULK AT MOST 1048576: true; the input reads as it did. -/
def mapfileSymmetryUptoRow : OpenClaim := { program := "ytmpbgfobiceehaagreatdoor", sum := "30b4695755b4fefb2f30204625a65d2c1ed5a151247a167d166ff28edd031158", func := "skirmish/skirmishlaw08.MapfileSymmetry", spec := "mapfileSymmetry", inPlace := ["internal/bytealg.IndexByteString", "internal/bytealg.IndexString", "internal/abi.NoEscape"], unfollowed := true, recurses := true, named := ["internal/bytealg.MaxLen", "strconv.ErrSyntax", "strconv.ErrRange", "internal/strconv.uint64pow10", "math/bits.deBruijn32tab", "math/bits.deBruijn64tab", "skirmish/terrain.passages"], apart := false, laid := [("math/bits.deBruijn32tab", laid_math_bits_deBruijn32tab), ("math/bits.deBruijn64tab", laid_math_bits_deBruijn64tab), ("internal/strconv.uint64pow10", laid_internal_strconv_uint64pow10), ("strconv.ErrRange", laid_strconv_ErrRange), ("strconv.ErrSyntax", laid_strconv_ErrSyntax), ("skirmish/terrain.passages", laid_skirmish_terrain_passages)], narrowed := true }
def MapfileSymmetryUptoSaid : Prop := mapfileSymmetryUptoRow.holds Tryz.pinned (OpenSpec.upto mapfileSymmetrySpec)

end Rows
end Go.Proofs.YtmpbgfobiceehaaGreatDoor
