/-
  No cell of these rows narrows 'for every input' (looked for: loops, veiled, ifaces, maps, wideKeys, modest, calm, conditions, laid).
  DERIVED. THE GIVEN ROWS OF THIS SEAT. 7 by the template 'for every input the law returns true; each argument reads behind the call as it read before'; 0 by the template 'total and deterministic' (their statements: YtaefioikflllcaaGreatTotals.lean).
  GIVEN WITH THE SEED: the statements are not yours to turn. If you find one false, say at which input.
  Laid BY PROGRAM, IN A SANDBOX (cutbox-rows.mjs): the forced cells as the released guide's own fill.sh prints them over the translation 67d52c2ba5c94938… (all of the seat's roots in one cut). By AI agents, Wed Nov 11 2026. No macro, syntax, notation, axiom, sorry.
-/
import Derived.Test.YtaefioikflllcaaGreatChecked
import GoSem.Claim
import GoSem.ClaimJoined
import GoSem.ClaimMapViews
import Derived.JoinedTies
import Derived.KernelRfl
namespace Go.Proofs.YtaefioikflllcaaGreat
/- THE CELL 'sum', in the pinned program and in every row, IS THE sha256 OF THE DUMP (.gsa) THAT YtaefioikflllcaaGreatProg.lean LOADS. Nothing in Lean hashes anything: it is a label: what it is worth is what the hold of that sum in a sandbox is worth. -/
noncomputable def Tryz.pinned : Pinned := { name := "ytaefioikflllcaagreat", sum := "67d52c2ba5c94938d8aa996446b70a57bd6d02fe7f67e2473cc7b5a1ea55ab77", checked := Tryz.checked }
namespace Rows
def none {H : Type} : Left H := { results := [], args := [] }

/-- 'skirmishlaw09.RulesNames': WHATEVER THE INPUT: true; the input reads as it did. -/
def rulesNamesSpec : ChangeSpec := { name := "rulesNames", fn := fun _ => fun
  | [d] => { results := [.lit (.bool true)], args := [d] }
  | _ => none }
def rulesNamesRow : OpenClaim := { program := "ytaefioikflllcaagreat", sum := "67d52c2ba5c94938d8aa996446b70a57bd6d02fe7f67e2473cc7b5a1ea55ab77", func := "skirmish/skirmishlaw09.RulesNames", spec := "rulesNames", inPlace := ["internal/bytealg.abigen_runtime_cmpstring"], unfollowed := true, recurses := true, apart := false }
def RulesNamesSaid : Prop := rulesNamesRow.holds Tryz.pinned (OpenSpec.ofChange rulesNamesSpec)

/-- ITS FALSE NEIGHBOUR: 'it returns false'. Refute it at one input. -/
def rulesNamesWrong : ChangeSpec := { name := "rulesNames", fn := fun _ => fun
  | [d] => { results := [.lit (.bool false)], args := [d] }
  | _ => none }
def RulesNamesWrongFalsely : Prop := rulesNamesRow.holds Tryz.pinned (OpenSpec.ofChange rulesNamesWrong)

/-- 'skirmishlaw09.RulesValidate': WHATEVER THE INPUT: true; the input reads as it did. -/
def rulesValidateSpec : ChangeSpec := { name := "rulesValidate", fn := fun _ => fun
  | [d] => { results := [.lit (.bool true)], args := [d] }
  | _ => none }
def rulesValidateRow : OpenClaim := { program := "ytaefioikflllcaagreat", sum := "67d52c2ba5c94938d8aa996446b70a57bd6d02fe7f67e2473cc7b5a1ea55ab77", func := "skirmish/skirmishlaw09.RulesValidate", spec := "rulesValidate", inPlace := ["internal/bytealg.abigen_runtime_cmpstring"], unfollowed := true, recurses := true, apart := false }
def RulesValidateSaid : Prop := rulesValidateRow.holds Tryz.pinned (OpenSpec.ofChange rulesValidateSpec)

/-- ITS FALSE NEIGHBOUR: 'it returns false'. Refute it at one input. -/
def rulesValidateWrong : ChangeSpec := { name := "rulesValidate", fn := fun _ => fun
  | [d] => { results := [.lit (.bool false)], args := [d] }
  | _ => none }
def RulesValidateWrongFalsely : Prop := rulesValidateRow.holds Tryz.pinned (OpenSpec.ofChange rulesValidateWrong)

/-- 'skirmishlaw09.RulesFinds': WHATEVER THE INPUT: true; the input reads as it did. -/
def rulesFindsSpec : ChangeSpec := { name := "rulesFinds", fn := fun _ => fun
  | [d1, d2] => { results := [.lit (.bool true)], args := [d1, d2] }
  | _ => none }
def rulesFindsRow : OpenClaim := { program := "ytaefioikflllcaagreat", sum := "67d52c2ba5c94938d8aa996446b70a57bd6d02fe7f67e2473cc7b5a1ea55ab77", func := "skirmish/skirmishlaw09.RulesFinds", spec := "rulesFinds", inPlace := ["internal/bytealg.abigen_runtime_cmpstring"], unfollowed := true, recurses := true, apart := false }
def RulesFindsSaid : Prop := rulesFindsRow.holds Tryz.pinned (OpenSpec.ofChange rulesFindsSpec)

/-- ITS FALSE NEIGHBOUR: 'it returns false'. Refute it at one input. -/
def rulesFindsWrong : ChangeSpec := { name := "rulesFinds", fn := fun _ => fun
  | [d1, d2] => { results := [.lit (.bool false)], args := [d1, d2] }
  | _ => none }
def RulesFindsWrongFalsely : Prop := rulesFindsRow.holds Tryz.pinned (OpenSpec.ofChange rulesFindsWrong)

/-- 'skirmishlaw09.RulesSequence': WHATEVER THE INPUT: true; the input reads as it did. -/
def rulesSequenceSpec : ChangeSpec := { name := "rulesSequence", fn := fun _ => fun
  | [d] => { results := [.lit (.bool true)], args := [d] }
  | _ => none }
def rulesSequenceRow : OpenClaim := { program := "ytaefioikflllcaagreat", sum := "67d52c2ba5c94938d8aa996446b70a57bd6d02fe7f67e2473cc7b5a1ea55ab77", func := "skirmish/skirmishlaw09.RulesSequence", spec := "rulesSequence", inPlace := ["internal/bytealg.abigen_runtime_cmpstring"], unfollowed := true, recurses := true, apart := false }
def RulesSequenceSaid : Prop := rulesSequenceRow.holds Tryz.pinned (OpenSpec.ofChange rulesSequenceSpec)

/-- ITS FALSE NEIGHBOUR: 'it returns false'. Refute it at one input. -/
def rulesSequenceWrong : ChangeSpec := { name := "rulesSequence", fn := fun _ => fun
  | [d] => { results := [.lit (.bool false)], args := [d] }
  | _ => none }
def RulesSequenceWrongFalsely : Prop := rulesSequenceRow.holds Tryz.pinned (OpenSpec.ofChange rulesSequenceWrong)

/-- 'skirmishlaw09.RulesOrdered': WHATEVER THE INPUT: true; the input reads as it did. -/
def rulesOrderedSpec : ChangeSpec := { name := "rulesOrdered", fn := fun _ => fun
  | [d] => { results := [.lit (.bool true)], args := [d] }
  | _ => none }
def rulesOrderedRow : OpenClaim := { program := "ytaefioikflllcaagreat", sum := "67d52c2ba5c94938d8aa996446b70a57bd6d02fe7f67e2473cc7b5a1ea55ab77", func := "skirmish/skirmishlaw09.RulesOrdered", spec := "rulesOrdered", inPlace := ["internal/bytealg.abigen_runtime_cmpstring"], unfollowed := true, recurses := true, apart := false }
def RulesOrderedSaid : Prop := rulesOrderedRow.holds Tryz.pinned (OpenSpec.ofChange rulesOrderedSpec)

/-- ITS FALSE NEIGHBOUR: 'it returns false'. Refute it at one input. -/
def rulesOrderedWrong : ChangeSpec := { name := "rulesOrdered", fn := fun _ => fun
  | [d] => { results := [.lit (.bool false)], args := [d] }
  | _ => none }
def RulesOrderedWrongFalsely : Prop := rulesOrderedRow.holds Tryz.pinned (OpenSpec.ofChange rulesOrderedWrong)

/-- 'skirmishlaw09.RulesSame': WHATEVER THE INPUT: true; the input reads as it did. -/
def rulesSameSpec : ChangeSpec := { name := "rulesSame", fn := fun _ => fun
  | [d1, d2] => { results := [.lit (.bool true)], args := [d1, d2] }
  | _ => none }
def rulesSameRow : OpenClaim := { program := "ytaefioikflllcaagreat", sum := "67d52c2ba5c94938d8aa996446b70a57bd6d02fe7f67e2473cc7b5a1ea55ab77", func := "skirmish/skirmishlaw09.RulesSame", spec := "rulesSame", inPlace := ["internal/bytealg.abigen_runtime_cmpstring"], unfollowed := true, recurses := true, apart := false }
def RulesSameSaid : Prop := rulesSameRow.holds Tryz.pinned (OpenSpec.ofChange rulesSameSpec)

/-- ITS FALSE NEIGHBOUR: 'it returns false'. Refute it at one input. -/
def rulesSameWrong : ChangeSpec := { name := "rulesSame", fn := fun _ => fun
  | [d1, d2] => { results := [.lit (.bool false)], args := [d1, d2] }
  | _ => none }
def RulesSameWrongFalsely : Prop := rulesSameRow.holds Tryz.pinned (OpenSpec.ofChange rulesSameWrong)

/-- 'skirmishlaw09.RulesFewer': WHATEVER THE INPUT: true; the input reads as it did. -/
def rulesFewerSpec : ChangeSpec := { name := "rulesFewer", fn := fun _ => fun
  | [d] => { results := [.lit (.bool true)], args := [d] }
  | _ => none }
def rulesFewerRow : OpenClaim := { program := "ytaefioikflllcaagreat", sum := "67d52c2ba5c94938d8aa996446b70a57bd6d02fe7f67e2473cc7b5a1ea55ab77", func := "skirmish/skirmishlaw09.RulesFewer", spec := "rulesFewer", inPlace := ["internal/bytealg.abigen_runtime_cmpstring"], unfollowed := true, recurses := true, apart := false }
def RulesFewerSaid : Prop := rulesFewerRow.holds Tryz.pinned (OpenSpec.ofChange rulesFewerSpec)

/-- ITS FALSE NEIGHBOUR: 'it returns false'. Refute it at one input. -/
def rulesFewerWrong : ChangeSpec := { name := "rulesFewer", fn := fun _ => fun
  | [d] => { results := [.lit (.bool false)], args := [d] }
  | _ => none }
def RulesFewerWrongFalsely : Prop := rulesFewerRow.holds Tryz.pinned (OpenSpec.ofChange rulesFewerWrong)

/- THE SECOND FORM. 'bulk': how many values and letters a reading holds, each counted each time it is reached (what is shared counts as often as it is met; a slice's spare places count too). A statement '..UptoSaid' is the law's where the arguments, and the package variables that the reading takes, are together of bulk at most 1048576: NARROWER than '..Said'. Prove '..Said' where nothing that the law and all that it calls make is longer than what came in: it says more and counts as full. Else prove '..UptoSaid'. A law counts once. -/
mutual
def uptoBulk {H : Type} : DataW H → Nat
  | .lit (.string bytes) => bytes.length + 1
  | .lit _ => 1
  | .nil => 1
  | .ptr d => uptoBulk d + 1
  | .slice elems spare => uptoBulkAll elems + uptoBulkAll spare + 1
  | .agg parts => uptoBulkAll parts + 1
  | .iface _ d => uptoBulk d + 1
  | .map entries => uptoBulkEntries entries + 1
  | .held _ => 1
def uptoBulkAll {H : Type} : List (DataW H) → Nat
  | [] => 0
  | d :: r => uptoBulk d + uptoBulkAll r
def uptoBulkEntries {H : Type} : List (Lit × DataW H) → Nat
  | [] => 0
  | x :: r => uptoBulkEntry x + uptoBulkEntries r
def uptoBulkEntry {H : Type} : Lit × DataW H → Nat
  | (.string bytes, d) => bytes.length + uptoBulk d + 1
  | (_, d) => uptoBulk d + 1
 end
def uptoSmall : (H : Type) → List (DataW H) → Bool := fun _ ds => decide (uptoBulkAll ds ≤ 1048576)
def OpenSpec.upto (s : _root_.Go.ChangeSpec) : _root_.Go.OpenSpec := { _root_.Go.OpenSpec.ofChange s with cond := some uptoSmall }

/-- 'skirmishlaw09.RulesNames', WHERE WHAT IT READS IS OF BULK AT MOST 1048576: true; the input reads as it did. -/
def rulesNamesUptoRow : OpenClaim := { program := "ytaefioikflllcaagreat", sum := "67d52c2ba5c94938d8aa996446b70a57bd6d02fe7f67e2473cc7b5a1ea55ab77", func := "skirmish/skirmishlaw09.RulesNames", spec := "rulesNames", inPlace := ["internal/bytealg.abigen_runtime_cmpstring"], unfollowed := true, recurses := true, apart := false, narrowed := true }
def RulesNamesUptoSaid : Prop := rulesNamesUptoRow.holds Tryz.pinned (OpenSpec.upto rulesNamesSpec)

/-- 'skirmishlaw09.RulesValidate', WHERE WHAT IT READS IS OF BULK AT MOST 1048576: true; the input reads as it did. -/
def rulesValidateUptoRow : OpenClaim := { program := "ytaefioikflllcaagreat", sum := "67d52c2ba5c94938d8aa996446b70a57bd6d02fe7f67e2473cc7b5a1ea55ab77", func := "skirmish/skirmishlaw09.RulesValidate", spec := "rulesValidate", inPlace := ["internal/bytealg.abigen_runtime_cmpstring"], unfollowed := true, recurses := true, apart := false, narrowed := true }
def RulesValidateUptoSaid : Prop := rulesValidateUptoRow.holds Tryz.pinned (OpenSpec.upto rulesValidateSpec)

/-- 'skirmishlaw09.RulesFinds', WHERE WHAT IT READS IS OF BULK AT MOST 1048576: true; the input reads as it did. -/
def rulesFindsUptoRow : OpenClaim := { program := "ytaefioikflllcaagreat", sum := "67d52c2ba5c94938d8aa996446b70a57bd6d02fe7f67e2473cc7b5a1ea55ab77", func := "skirmish/skirmishlaw09.RulesFinds", spec := "rulesFinds", inPlace := ["internal/bytealg.abigen_runtime_cmpstring"], unfollowed := true, recurses := true, apart := false, narrowed := true }
def RulesFindsUptoSaid : Prop := rulesFindsUptoRow.holds Tryz.pinned (OpenSpec.upto rulesFindsSpec)

/-- 'skirmishlaw09.RulesSequence', WHERE WHAT IT READS IS OF BULK AT MOST 1048576: true; the input reads as it did. -/
def rulesSequenceUptoRow : OpenClaim := { program := "ytaefioikflllcaagreat", sum := "67d52c2ba5c94938d8aa996446b70a57bd6d02fe7f67e2473cc7b5a1ea55ab77", func := "skirmish/skirmishlaw09.RulesSequence", spec := "rulesSequence", inPlace := ["internal/bytealg.abigen_runtime_cmpstring"], unfollowed := true, recurses := true, apart := false, narrowed := true }
def RulesSequenceUptoSaid : Prop := rulesSequenceUptoRow.holds Tryz.pinned (OpenSpec.upto rulesSequenceSpec)

/-- 'skirmishlaw09.RulesOrdered', WHERE WHAT IT READS IS OF BULK AT MOST 1048576: true; the input reads as it did. -/
def rulesOrderedUptoRow : OpenClaim := { program := "ytaefioikflllcaagreat", sum := "67d52c2ba5c94938d8aa996446b70a57bd6d02fe7f67e2473cc7b5a1ea55ab77", func := "skirmish/skirmishlaw09.RulesOrdered", spec := "rulesOrdered", inPlace := ["internal/bytealg.abigen_runtime_cmpstring"], unfollowed := true, recurses := true, apart := false, narrowed := true }
def RulesOrderedUptoSaid : Prop := rulesOrderedUptoRow.holds Tryz.pinned (OpenSpec.upto rulesOrderedSpec)

/-- 'skirmishlaw09.RulesSame', WHERE WHAT IT READS IS OF BULK AT MOST 1048576: true; the input reads as it did. -/
def rulesSameUptoRow : OpenClaim := { program := "ytaefioikflllcaagreat", sum := "67d52c2ba5c94938d8aa996446b70a57bd6d02fe7f67e2473cc7b5a1ea55ab77", func := "skirmish/skirmishlaw09.RulesSame", spec := "rulesSame", inPlace := ["internal/bytealg.abigen_runtime_cmpstring"], unfollowed := true, recurses := true, apart := false, narrowed := true }
def RulesSameUptoSaid : Prop := rulesSameUptoRow.holds Tryz.pinned (OpenSpec.upto rulesSameSpec)

/-- 'skirmishlaw09.RulesFewer', WHERE WHAT IT READS IS OF BULK AT MOST 1048576: true; the input reads as it did. -/
def rulesFewerUptoRow : OpenClaim := { program := "ytaefioikflllcaagreat", sum := "67d52c2ba5c94938d8aa996446b70a57bd6d02fe7f67e2473cc7b5a1ea55ab77", func := "skirmish/skirmishlaw09.RulesFewer", spec := "rulesFewer", inPlace := ["internal/bytealg.abigen_runtime_cmpstring"], unfollowed := true, recurses := true, apart := false, narrowed := true }
def RulesFewerUptoSaid : Prop := rulesFewerUptoRow.holds Tryz.pinned (OpenSpec.upto rulesFewerSpec)

end Rows
end Go.Proofs.YtaefioikflllcaaGreat
