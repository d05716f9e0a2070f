/-
  No cell of these rows narrows 'for every input' (looked for: loops, veiled, ifaces, maps, wideKeys, modest, calm, conditions, laid).
  DERIVED. THE GIVEN ROWS OF THIS SEAT. 11 by the template 'for every input the law returns true; each argument reads behind the call as it read before'; 0 by the template 'total and deterministic' (their statements: YtdjmeeknahdbbaaTotals.lean).
  GIVEN WITH THE SEED: the statements are not yours to turn. If you find one false, say at which input.
  Laid BY PROGRAM, IN A SANDBOX (cutbox-rows.mjs): the forced cells as the released guide's own fill.sh prints them over the translation bd74115cd2c98369… (all of the seat's roots in one cut). By AI agents, Wed Nov 11 2026. No macro, syntax, notation, axiom, sorry.
-/
import Derived.Test.YtdjmeeknahdbbaaChecked
import GoSem.Claim
import GoSem.ClaimJoined
import GoSem.ClaimMapViews
import Derived.JoinedTies
import Derived.KernelRfl
namespace Go.Proofs.Ytdjmeeknahdbbaa
/- THE CELL 'sum', in the pinned program and in every row, IS THE sha256 OF THE DUMP (.gsa) THAT YtdjmeeknahdbbaaProg.lean LOADS. Nothing in Lean hashes anything: it is a label: what it is worth is what the hold of that sum in a sandbox is worth. -/
noncomputable def Try.pinned : Pinned := { name := "ytdjmeeknahdbbaa", sum := "bd74115cd2c98369bf231053081f03c199d3d5b192fadd2b3f566e09899a719b", checked := Try.checked }
namespace Rows
def none {H : Type} : Left H := { results := [], args := [] }

/-- 'laws.FnCutMoved': WHATEVER THE INPUT: true; the input reads as it did. -/
def fnCutMovedSpec : ChangeSpec := { name := "fnCutMoved", fn := fun _ => fun
  | [d] => { results := [.lit (.bool true)], args := [d] }
  | _ => none }
def fnCutMovedRow : OpenClaim := { program := "ytdjmeeknahdbbaa", sum := "bd74115cd2c98369bf231053081f03c199d3d5b192fadd2b3f566e09899a719b", func := "loop.example/wholelight/laws.FnCutMoved", spec := "fnCutMoved", apart := false }
def FnCutMovedSaid : Prop := fnCutMovedRow.holds Try.pinned (OpenSpec.ofChange fnCutMovedSpec)

/-- ITS FALSE NEIGHBOUR: 'it returns false'. Refute it at one input. -/
def fnCutMovedWrong : ChangeSpec := { name := "fnCutMoved", fn := fun _ => fun
  | [d] => { results := [.lit (.bool false)], args := [d] }
  | _ => none }
def FnCutMovedWrongFalsely : Prop := fnCutMovedRow.holds Try.pinned (OpenSpec.ofChange fnCutMovedWrong)

/-- 'laws.FnBallCut': WHATEVER THE INPUT: true; the input reads as it did. -/
def fnBallCutSpec : ChangeSpec := { name := "fnBallCut", fn := fun _ => fun
  | [d] => { results := [.lit (.bool true)], args := [d] }
  | _ => none }
def fnBallCutRow : OpenClaim := { program := "ytdjmeeknahdbbaa", sum := "bd74115cd2c98369bf231053081f03c199d3d5b192fadd2b3f566e09899a719b", func := "loop.example/wholelight/laws.FnBallCut", spec := "fnBallCut", apart := false }
def FnBallCutSaid : Prop := fnBallCutRow.holds Try.pinned (OpenSpec.ofChange fnBallCutSpec)

/-- ITS FALSE NEIGHBOUR: 'it returns false'. Refute it at one input. -/
def fnBallCutWrong : ChangeSpec := { name := "fnBallCut", fn := fun _ => fun
  | [d] => { results := [.lit (.bool false)], args := [d] }
  | _ => none }
def FnBallCutWrongFalsely : Prop := fnBallCutRow.holds Try.pinned (OpenSpec.ofChange fnBallCutWrong)

/-- 'laws.FnSpans': WHATEVER THE INPUT: true; the input reads as it did. -/
def fnSpansSpec : ChangeSpec := { name := "fnSpans", fn := fun _ => fun
  | [d] => { results := [.lit (.bool true)], args := [d] }
  | _ => none }
def fnSpansRow : OpenClaim := { program := "ytdjmeeknahdbbaa", sum := "bd74115cd2c98369bf231053081f03c199d3d5b192fadd2b3f566e09899a719b", func := "loop.example/wholelight/laws.FnSpans", spec := "fnSpans", unfollowed := true, recurses := true, apart := false }
def FnSpansSaid : Prop := fnSpansRow.holds Try.pinned (OpenSpec.ofChange fnSpansSpec)

/-- ITS FALSE NEIGHBOUR: 'it returns false'. Refute it at one input. -/
def fnSpansWrong : ChangeSpec := { name := "fnSpans", fn := fun _ => fun
  | [d] => { results := [.lit (.bool false)], args := [d] }
  | _ => none }
def FnSpansWrongFalsely : Prop := fnSpansRow.holds Try.pinned (OpenSpec.ofChange fnSpansWrong)

/-- 'laws.FnSpansRules': WHATEVER THE INPUT: true; the input reads as it did. -/
def fnSpansRulesSpec : ChangeSpec := { name := "fnSpansRules", fn := fun _ => fun
  | [d] => { results := [.lit (.bool true)], args := [d] }
  | _ => none }
def fnSpansRulesRow : OpenClaim := { program := "ytdjmeeknahdbbaa", sum := "bd74115cd2c98369bf231053081f03c199d3d5b192fadd2b3f566e09899a719b", func := "loop.example/wholelight/laws.FnSpansRules", spec := "fnSpansRules", unfollowed := true, recurses := true, apart := false }
def FnSpansRulesSaid : Prop := fnSpansRulesRow.holds Try.pinned (OpenSpec.ofChange fnSpansRulesSpec)

/-- ITS FALSE NEIGHBOUR: 'it returns false'. Refute it at one input. -/
def fnSpansRulesWrong : ChangeSpec := { name := "fnSpansRules", fn := fun _ => fun
  | [d] => { results := [.lit (.bool false)], args := [d] }
  | _ => none }
def FnSpansRulesWrongFalsely : Prop := fnSpansRulesRow.holds Try.pinned (OpenSpec.ofChange fnSpansRulesWrong)

/-- 'laws.FnExactSpansOk': WHATEVER THE INPUT: true; the input reads as it did. -/
def fnExactSpansOkSpec : ChangeSpec := { name := "fnExactSpansOk", fn := fun _ => fun
  | [d] => { results := [.lit (.bool true)], args := [d] }
  | _ => none }
def fnExactSpansOkRow : OpenClaim := { program := "ytdjmeeknahdbbaa", sum := "bd74115cd2c98369bf231053081f03c199d3d5b192fadd2b3f566e09899a719b", func := "loop.example/wholelight/laws.FnExactSpansOk", spec := "fnExactSpansOk", apart := false }
def FnExactSpansOkSaid : Prop := fnExactSpansOkRow.holds Try.pinned (OpenSpec.ofChange fnExactSpansOkSpec)

/-- ITS FALSE NEIGHBOUR: 'it returns false'. Refute it at one input. -/
def fnExactSpansOkWrong : ChangeSpec := { name := "fnExactSpansOk", fn := fun _ => fun
  | [d] => { results := [.lit (.bool false)], args := [d] }
  | _ => none }
def FnExactSpansOkWrongFalsely : Prop := fnExactSpansOkRow.holds Try.pinned (OpenSpec.ofChange fnExactSpansOkWrong)

/-- 'laws.FnExactSpansBoth': WHATEVER THE INPUT: true; the input reads as it did. -/
def fnExactSpansBothSpec : ChangeSpec := { name := "fnExactSpansBoth", fn := fun _ => fun
  | [d1, d2] => { results := [.lit (.bool true)], args := [d1, d2] }
  | _ => none }
def fnExactSpansBothRow : OpenClaim := { program := "ytdjmeeknahdbbaa", sum := "bd74115cd2c98369bf231053081f03c199d3d5b192fadd2b3f566e09899a719b", func := "loop.example/wholelight/laws.FnExactSpansBoth", spec := "fnExactSpansBoth", unfollowed := true, recurses := true, apart := false }
def FnExactSpansBothSaid : Prop := fnExactSpansBothRow.holds Try.pinned (OpenSpec.ofChange fnExactSpansBothSpec)

/-- ITS FALSE NEIGHBOUR: 'it returns false'. Refute it at one input. -/
def fnExactSpansBothWrong : ChangeSpec := { name := "fnExactSpansBoth", fn := fun _ => fun
  | [d1, d2] => { results := [.lit (.bool false)], args := [d1, d2] }
  | _ => none }
def FnExactSpansBothWrongFalsely : Prop := fnExactSpansBothRow.holds Try.pinned (OpenSpec.ofChange fnExactSpansBothWrong)

/-- 'laws.FnExactSpansEither': WHATEVER THE INPUT: true; the input reads as it did. -/
def fnExactSpansEitherSpec : ChangeSpec := { name := "fnExactSpansEither", fn := fun _ => fun
  | [d1, d2] => { results := [.lit (.bool true)], args := [d1, d2] }
  | _ => none }
def fnExactSpansEitherRow : OpenClaim := { program := "ytdjmeeknahdbbaa", sum := "bd74115cd2c98369bf231053081f03c199d3d5b192fadd2b3f566e09899a719b", func := "loop.example/wholelight/laws.FnExactSpansEither", spec := "fnExactSpansEither", unfollowed := true, recurses := true, apart := false }
def FnExactSpansEitherSaid : Prop := fnExactSpansEitherRow.holds Try.pinned (OpenSpec.ofChange fnExactSpansEitherSpec)

/-- ITS FALSE NEIGHBOUR: 'it returns false'. Refute it at one input. -/
def fnExactSpansEitherWrong : ChangeSpec := { name := "fnExactSpansEither", fn := fun _ => fun
  | [d1, d2] => { results := [.lit (.bool false)], args := [d1, d2] }
  | _ => none }
def FnExactSpansEitherWrongFalsely : Prop := fnExactSpansEitherRow.holds Try.pinned (OpenSpec.ofChange fnExactSpansEitherWrong)

/-- 'laws.FnExactSpansLess': WHATEVER THE INPUT: true; the input reads as it did. -/
def fnExactSpansLessSpec : ChangeSpec := { name := "fnExactSpansLess", fn := fun _ => fun
  | [d1, d2] => { results := [.lit (.bool true)], args := [d1, d2] }
  | _ => none }
def fnExactSpansLessRow : OpenClaim := { program := "ytdjmeeknahdbbaa", sum := "bd74115cd2c98369bf231053081f03c199d3d5b192fadd2b3f566e09899a719b", func := "loop.example/wholelight/laws.FnExactSpansLess", spec := "fnExactSpansLess", unfollowed := true, recurses := true, apart := false }
def FnExactSpansLessSaid : Prop := fnExactSpansLessRow.holds Try.pinned (OpenSpec.ofChange fnExactSpansLessSpec)

/-- ITS FALSE NEIGHBOUR: 'it returns false'. Refute it at one input. -/
def fnExactSpansLessWrong : ChangeSpec := { name := "fnExactSpansLess", fn := fun _ => fun
  | [d1, d2] => { results := [.lit (.bool false)], args := [d1, d2] }
  | _ => none }
def FnExactSpansLessWrongFalsely : Prop := fnExactSpansLessRow.holds Try.pinned (OpenSpec.ofChange fnExactSpansLessWrong)

/-- 'laws.FnExactSpansAt': WHATEVER THE INPUT: true; the input reads as it did. -/
def fnExactSpansAtSpec : ChangeSpec := { name := "fnExactSpansAt", fn := fun _ => fun
  | [d1, d2] => { results := [.lit (.bool true)], args := [d1, d2] }
  | _ => none }
def fnExactSpansAtRow : OpenClaim := { program := "ytdjmeeknahdbbaa", sum := "bd74115cd2c98369bf231053081f03c199d3d5b192fadd2b3f566e09899a719b", func := "loop.example/wholelight/laws.FnExactSpansAt", spec := "fnExactSpansAt", apart := false }
def FnExactSpansAtSaid : Prop := fnExactSpansAtRow.holds Try.pinned (OpenSpec.ofChange fnExactSpansAtSpec)

/-- ITS FALSE NEIGHBOUR: 'it returns false'. Refute it at one input. -/
def fnExactSpansAtWrong : ChangeSpec := { name := "fnExactSpansAt", fn := fun _ => fun
  | [d1, d2] => { results := [.lit (.bool false)], args := [d1, d2] }
  | _ => none }
def FnExactSpansAtWrongFalsely : Prop := fnExactSpansAtRow.holds Try.pinned (OpenSpec.ofChange fnExactSpansAtWrong)

/-- 'laws.FnExactSpansLong': WHATEVER THE INPUT: true; the input reads as it did. -/
def fnExactSpansLongSpec : ChangeSpec := { name := "fnExactSpansLong", fn := fun _ => fun
  | [d] => { results := [.lit (.bool true)], args := [d] }
  | _ => none }
def fnExactSpansLongRow : OpenClaim := { program := "ytdjmeeknahdbbaa", sum := "bd74115cd2c98369bf231053081f03c199d3d5b192fadd2b3f566e09899a719b", func := "loop.example/wholelight/laws.FnExactSpansLong", spec := "fnExactSpansLong", apart := false }
def FnExactSpansLongSaid : Prop := fnExactSpansLongRow.holds Try.pinned (OpenSpec.ofChange fnExactSpansLongSpec)

/-- ITS FALSE NEIGHBOUR: 'it returns false'. Refute it at one input. -/
def fnExactSpansLongWrong : ChangeSpec := { name := "fnExactSpansLong", fn := fun _ => fun
  | [d] => { results := [.lit (.bool false)], args := [d] }
  | _ => none }
def FnExactSpansLongWrongFalsely : Prop := fnExactSpansLongRow.holds Try.pinned (OpenSpec.ofChange fnExactSpansLongWrong)

/-- 'laws.FnExactSpansWithin': WHATEVER THE INPUT: true; the input reads as it did. -/
def fnExactSpansWithinSpec : ChangeSpec := { name := "fnExactSpansWithin", fn := fun _ => fun
  | [d1, d2, d3] => { results := [.lit (.bool true)], args := [d1, d2, d3] }
  | _ => none }
def fnExactSpansWithinRow : OpenClaim := { program := "ytdjmeeknahdbbaa", sum := "bd74115cd2c98369bf231053081f03c199d3d5b192fadd2b3f566e09899a719b", func := "loop.example/wholelight/laws.FnExactSpansWithin", spec := "fnExactSpansWithin", apart := false }
def FnExactSpansWithinSaid : Prop := fnExactSpansWithinRow.holds Try.pinned (OpenSpec.ofChange fnExactSpansWithinSpec)

/-- ITS FALSE NEIGHBOUR: 'it returns false'. Refute it at one input. -/
def fnExactSpansWithinWrong : ChangeSpec := { name := "fnExactSpansWithin", fn := fun _ => fun
  | [d1, d2, d3] => { results := [.lit (.bool false)], args := [d1, d2, d3] }
  | _ => none }
def FnExactSpansWithinWrongFalsely : Prop := fnExactSpansWithinRow.holds Try.pinned (OpenSpec.ofChange fnExactSpansWithinWrong)

/- THE SECOND FORM. 'bulk': how many values and letters a reading holds, each counted each time it is reached (what is shared counts as often as it is met; a slice's spare places count too). A statement '..UptoSaid' is the law's where the arguments, and the package variables that the reading takes, are together of bulk at most 1048576: NARROWER than '..Said'. Prove '..Said' where nothing that the law and all that it calls make is longer than what came in: it says more and counts as full. Else prove '..UptoSaid'. A law counts once. -/
mutual
def uptoBulk {H : Type} : DataW H → Nat
  | .lit (.string bytes) => bytes.length + 1
  | .lit _ => 1
  | .nil => 1
  | .ptr d => uptoBulk d + 1
  | .slice elems spare => uptoBulkAll elems + uptoBulkAll spare + 1
  | .agg parts => uptoBulkAll parts + 1
  | .iface _ d => uptoBulk d + 1
  | .map entries => uptoBulkEntries entries + 1
  | .held _ => 1
def uptoBulkAll {H : Type} : List (DataW H) → Nat
  | [] => 0
  | d :: r => uptoBulk d + uptoBulkAll r
def uptoBulkEntries {H : Type} : List (Lit × DataW H) → Nat
  | [] => 0
  | x :: r => uptoBulkEntry x + uptoBulkEntries r
def uptoBulkEntry {H : Type} : Lit × DataW H → Nat
  | (.string bytes, d) => bytes.length + uptoBulk d + 1
  | (_, d) => uptoBulk d + 1
 end
def uptoSmall : (H : Type) → List (DataW H) → Bool := fun _ ds => decide (uptoBulkAll ds ≤ 1048576)
def OpenSpec.upto (s : _root_.Go.ChangeSpec) : _root_.Go.OpenSpec := { _root_.Go.OpenSpec.ofChange s with cond := some uptoSmall }

/-- 'laws.FnCutMoved', WHERE WHAT IT READS IS OF BULK AT MOST 1048576: true; the input reads as it did. -/
def fnCutMovedUptoRow : OpenClaim := { program := "ytdjmeeknahdbbaa", sum := "bd74115cd2c98369bf231053081f03c199d3d5b192fadd2b3f566e09899a719b", func := "loop.example/wholelight/laws.FnCutMoved", spec := "fnCutMoved", apart := false, narrowed := true }
def FnCutMovedUptoSaid : Prop := fnCutMovedUptoRow.holds Try.pinned (OpenSpec.upto fnCutMovedSpec)

/-- 'laws.FnBallCut', WHERE WHAT IT READS IS OF BULK AT MOST 1048576: true; the input reads as it did. -/
def fnBallCutUptoRow : OpenClaim := { program := "ytdjmeeknahdbbaa", sum := "bd74115cd2c98369bf231053081f03c199d3d5b192fadd2b3f566e09899a719b", func := "loop.example/wholelight/laws.FnBallCut", spec := "fnBallCut", apart := false, narrowed := true }
def FnBallCutUptoSaid : Prop := fnBallCutUptoRow.holds Try.pinned (OpenSpec.upto fnBallCutSpec)

/-- 'laws.FnSpans', WHERE WHAT IT READS IS OF BULK AT MOST 1048576: true; the input reads as it did. -/
def fnSpansUptoRow : OpenClaim := { program := "ytdjmeeknahdbbaa", sum := "bd74115cd2c98369bf231053081f03c199d3d5b192fadd2b3f566e09899a719b", func := "loop.example/wholelight/laws.FnSpans", spec := "fnSpans", unfollowed := true, recurses := true, apart := false, narrowed := true }
def FnSpansUptoSaid : Prop := fnSpansUptoRow.holds Try.pinned (OpenSpec.upto fnSpansSpec)

/-- 'laws.FnSpansRules', WHERE WHAT IT READS IS OF BULK AT MOST 1048576: true; the input reads as it did. -/
def fnSpansRulesUptoRow : OpenClaim := { program := "ytdjmeeknahdbbaa", sum := "bd74115cd2c98369bf231053081f03c199d3d5b192fadd2b3f566e09899a719b", func := "loop.example/wholelight/laws.FnSpansRules", spec := "fnSpansRules", unfollowed := true, recurses := true, apart := false, narrowed := true }
def FnSpansRulesUptoSaid : Prop := fnSpansRulesUptoRow.holds Try.pinned (OpenSpec.upto fnSpansRulesSpec)

/-- 'laws.FnExactSpansOk', WHERE WHAT IT READS IS OF BULK AT MOST 1048576: true; the input reads as it did. -/
def fnExactSpansOkUptoRow : OpenClaim := { program := "ytdjmeeknahdbbaa", sum := "bd74115cd2c98369bf231053081f03c199d3d5b192fadd2b3f566e09899a719b", func := "loop.example/wholelight/laws.FnExactSpansOk", spec := "fnExactSpansOk", apart := false, narrowed := true }
def FnExactSpansOkUptoSaid : Prop := fnExactSpansOkUptoRow.holds Try.pinned (OpenSpec.upto fnExactSpansOkSpec)

/-- 'laws.FnExactSpansBoth', WHERE WHAT IT READS IS OF BULK AT MOST 1048576: true; the input reads as it did. -/
def fnExactSpansBothUptoRow : OpenClaim := { program := "ytdjmeeknahdbbaa", sum := "bd74115cd2c98369bf231053081f03c199d3d5b192fadd2b3f566e09899a719b", func := "loop.example/wholelight/laws.FnExactSpansBoth", spec := "fnExactSpansBoth", unfollowed := true, recurses := true, apart := false, narrowed := true }
def FnExactSpansBothUptoSaid : Prop := fnExactSpansBothUptoRow.holds Try.pinned (OpenSpec.upto fnExactSpansBothSpec)

/-- 'laws.FnExactSpansEither', WHERE WHAT IT READS IS OF BULK AT MOST 1048576: true; the input reads as it did. -/
def fnExactSpansEitherUptoRow : OpenClaim := { program := "ytdjmeeknahdbbaa", sum := "bd74115cd2c98369bf231053081f03c199d3d5b192fadd2b3f566e09899a719b", func := "loop.example/wholelight/laws.FnExactSpansEither", spec := "fnExactSpansEither", unfollowed := true, recurses := true, apart := false, narrowed := true }
def FnExactSpansEitherUptoSaid : Prop := fnExactSpansEitherUptoRow.holds Try.pinned (OpenSpec.upto fnExactSpansEitherSpec)

/-- 'laws.FnExactSpansLess', WHERE WHAT IT READS IS OF BULK AT MOST 1048576: true; the input reads as it did. -/
def fnExactSpansLessUptoRow : OpenClaim := { program := "ytdjmeeknahdbbaa", sum := "bd74115cd2c98369bf231053081f03c199d3d5b192fadd2b3f566e09899a719b", func := "loop.example/wholelight/laws.FnExactSpansLess", spec := "fnExactSpansLess", unfollowed := true, recurses := true, apart := false, narrowed := true }
def FnExactSpansLessUptoSaid : Prop := fnExactSpansLessUptoRow.holds Try.pinned (OpenSpec.upto fnExactSpansLessSpec)

/-- 'laws.FnExactSpansAt', WHERE WHAT IT READS IS OF BULK AT MOST 1048576: true; the input reads as it did. -/
def fnExactSpansAtUptoRow : OpenClaim := { program := "ytdjmeeknahdbbaa", sum := "bd74115cd2c98369bf231053081f03c199d3d5b192fadd2b3f566e09899a719b", func := "loop.example/wholelight/laws.FnExactSpansAt", spec := "fnExactSpansAt", apart := false, narrowed := true }
def FnExactSpansAtUptoSaid : Prop := fnExactSpansAtUptoRow.holds Try.pinned (OpenSpec.upto fnExactSpansAtSpec)

/-- 'laws.FnExactSpansLong', WHERE WHAT IT READS IS OF BULK AT MOST 1048576: true; the input reads as it did. -/
def fnExactSpansLongUptoRow : OpenClaim := { program := "ytdjmeeknahdbbaa", sum := "bd74115cd2c98369bf231053081f03c199d3d5b192fadd2b3f566e09899a719b", func := "loop.example/wholelight/laws.FnExactSpansLong", spec := "fnExactSpansLong", apart := false, narrowed := true }
def FnExactSpansLongUptoSaid : Prop := fnExactSpansLongUptoRow.holds Try.pinned (OpenSpec.upto fnExactSpansLongSpec)

/-- 'laws.FnExactSpansWithin', WHERE WHAT IT READS IS OF BULK AT MOST 1048576: true; the input reads as it did. -/
def fnExactSpansWithinUptoRow : OpenClaim := { program := "ytdjmeeknahdbbaa", sum := "bd74115cd2c98369bf231053081f03c199d3d5b192fadd2b3f566e09899a719b", func := "loop.example/wholelight/laws.FnExactSpansWithin", spec := "fnExactSpansWithin", apart := false, narrowed := true }
def FnExactSpansWithinUptoSaid : Prop := fnExactSpansWithinUptoRow.holds Try.pinned (OpenSpec.upto fnExactSpansWithinSpec)

end Rows
end Go.Proofs.Ytdjmeeknahdbbaa
