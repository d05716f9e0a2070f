/-
  No cell of these rows narrows 'for every input' (looked for: loops, veiled, ifaces, maps, wideKeys, modest, calm, conditions, laid).
  DERIVED. THE GIVEN ROWS OF THIS SEAT. 10 by the template 'for every input the law returns true; each argument reads behind the call as it read before'; 0 by the template 'total and deterministic' (their statements: YtgnnkldabmmdkaaTotals.lean).
  GIVEN WITH THE SEED: the statements are not yours to turn. If you find one false, say at which input.
  Laid BY PROGRAM, IN A SANDBOX (cutbox-rows.mjs): the forced cells as the released guide's own fill.sh prints them over the translation 4067a8232d05b8ef… (all of the seat's roots in one cut). By AI agents, Wed Nov 11 2026. No macro, syntax, notation, axiom, sorry.
-/
import Derived.Test.YtgnnkldabmmdkaaChecked
import GoSem.Claim
import GoSem.ClaimJoined
import GoSem.ClaimMapViews
import Derived.JoinedTies
import Derived.KernelRfl
namespace Go.Proofs.Ytgnnkldabmmdkaa
/- THE CELL 'sum', in the pinned program and in every row, IS THE sha256 OF THE DUMP (.gsa) THAT YtgnnkldabmmdkaaProg.lean LOADS. Nothing in Lean hashes anything: it is a label: what it is worth is what the hold of that sum in a sandbox is worth. -/
noncomputable def Try.pinned : Pinned := { name := "ytgnnkldabmmdkaa", sum := "4067a8232d05b8ef3dd38168b66ce4ba399ddfdc8113cd0f1663995e4a32a801", checked := Try.checked }
namespace Rows
def none {H : Type} : Left H := { results := [], args := [] }

/-- 'laws.FnExactVecOk': WHATEVER THE INPUT: true; the input reads as it did. -/
def fnExactVecOkSpec : ChangeSpec := { name := "fnExactVecOk", fn := fun _ => fun
  | [d1, d2] => { results := [.lit (.bool true)], args := [d1, d2] }
  | _ => none }
def fnExactVecOkRow : OpenClaim := { program := "ytgnnkldabmmdkaa", sum := "4067a8232d05b8ef3dd38168b66ce4ba399ddfdc8113cd0f1663995e4a32a801", func := "loop.example/wholelight/laws.FnExactVecOk", spec := "fnExactVecOk", apart := false }
def FnExactVecOkSaid : Prop := fnExactVecOkRow.holds Try.pinned (OpenSpec.ofChange fnExactVecOkSpec)

/-- ITS FALSE NEIGHBOUR: 'it returns false'. Refute it at one input. -/
def fnExactVecOkWrong : ChangeSpec := { name := "fnExactVecOk", fn := fun _ => fun
  | [d1, d2] => { results := [.lit (.bool false)], args := [d1, d2] }
  | _ => none }
def FnExactVecOkWrongFalsely : Prop := fnExactVecOkRow.holds Try.pinned (OpenSpec.ofChange fnExactVecOkWrong)

/-- 'laws.FnExactPlus': WHATEVER THE INPUT: true; the input reads as it did. -/
def fnExactPlusSpec : ChangeSpec := { name := "fnExactPlus", fn := fun _ => fun
  | [d1, d2] => { results := [.lit (.bool true)], args := [d1, d2] }
  | _ => none }
def fnExactPlusRow : OpenClaim := { program := "ytgnnkldabmmdkaa", sum := "4067a8232d05b8ef3dd38168b66ce4ba399ddfdc8113cd0f1663995e4a32a801", func := "loop.example/wholelight/laws.FnExactPlus", spec := "fnExactPlus", apart := false }
def FnExactPlusSaid : Prop := fnExactPlusRow.holds Try.pinned (OpenSpec.ofChange fnExactPlusSpec)

/-- ITS FALSE NEIGHBOUR: 'it returns false'. Refute it at one input. -/
def fnExactPlusWrong : ChangeSpec := { name := "fnExactPlus", fn := fun _ => fun
  | [d1, d2] => { results := [.lit (.bool false)], args := [d1, d2] }
  | _ => none }
def FnExactPlusWrongFalsely : Prop := fnExactPlusRow.holds Try.pinned (OpenSpec.ofChange fnExactPlusWrong)

/-- 'laws.FnExactMinus': WHATEVER THE INPUT: true; the input reads as it did. -/
def fnExactMinusSpec : ChangeSpec := { name := "fnExactMinus", fn := fun _ => fun
  | [d1, d2] => { results := [.lit (.bool true)], args := [d1, d2] }
  | _ => none }
def fnExactMinusRow : OpenClaim := { program := "ytgnnkldabmmdkaa", sum := "4067a8232d05b8ef3dd38168b66ce4ba399ddfdc8113cd0f1663995e4a32a801", func := "loop.example/wholelight/laws.FnExactMinus", spec := "fnExactMinus", apart := false }
def FnExactMinusSaid : Prop := fnExactMinusRow.holds Try.pinned (OpenSpec.ofChange fnExactMinusSpec)

/-- ITS FALSE NEIGHBOUR: 'it returns false'. Refute it at one input. -/
def fnExactMinusWrong : ChangeSpec := { name := "fnExactMinus", fn := fun _ => fun
  | [d1, d2] => { results := [.lit (.bool false)], args := [d1, d2] }
  | _ => none }
def FnExactMinusWrongFalsely : Prop := fnExactMinusRow.holds Try.pinned (OpenSpec.ofChange fnExactMinusWrong)

/-- 'laws.FnExactTimes': WHATEVER THE INPUT: true; the input reads as it did. -/
def fnExactTimesSpec : ChangeSpec := { name := "fnExactTimes", fn := fun _ => fun
  | [d1, d2] => { results := [.lit (.bool true)], args := [d1, d2] }
  | _ => none }
def fnExactTimesRow : OpenClaim := { program := "ytgnnkldabmmdkaa", sum := "4067a8232d05b8ef3dd38168b66ce4ba399ddfdc8113cd0f1663995e4a32a801", func := "loop.example/wholelight/laws.FnExactTimes", spec := "fnExactTimes", apart := false }
def FnExactTimesSaid : Prop := fnExactTimesRow.holds Try.pinned (OpenSpec.ofChange fnExactTimesSpec)

/-- ITS FALSE NEIGHBOUR: 'it returns false'. Refute it at one input. -/
def fnExactTimesWrong : ChangeSpec := { name := "fnExactTimes", fn := fun _ => fun
  | [d1, d2] => { results := [.lit (.bool false)], args := [d1, d2] }
  | _ => none }
def FnExactTimesWrongFalsely : Prop := fnExactTimesRow.holds Try.pinned (OpenSpec.ofChange fnExactTimesWrong)

/-- 'laws.FnExactDot': WHATEVER THE INPUT: true; the input reads as it did. -/
def fnExactDotSpec : ChangeSpec := { name := "fnExactDot", fn := fun _ => fun
  | [d1, d2] => { results := [.lit (.bool true)], args := [d1, d2] }
  | _ => none }
def fnExactDotRow : OpenClaim := { program := "ytgnnkldabmmdkaa", sum := "4067a8232d05b8ef3dd38168b66ce4ba399ddfdc8113cd0f1663995e4a32a801", func := "loop.example/wholelight/laws.FnExactDot", spec := "fnExactDot", apart := false }
def FnExactDotSaid : Prop := fnExactDotRow.holds Try.pinned (OpenSpec.ofChange fnExactDotSpec)

/-- ITS FALSE NEIGHBOUR: 'it returns false'. Refute it at one input. -/
def fnExactDotWrong : ChangeSpec := { name := "fnExactDot", fn := fun _ => fun
  | [d1, d2] => { results := [.lit (.bool false)], args := [d1, d2] }
  | _ => none }
def FnExactDotWrongFalsely : Prop := fnExactDotRow.holds Try.pinned (OpenSpec.ofChange fnExactDotWrong)

/-- 'laws.FnExactCross': WHATEVER THE INPUT: true; the input reads as it did. -/
def fnExactCrossSpec : ChangeSpec := { name := "fnExactCross", fn := fun _ => fun
  | [d1, d2] => { results := [.lit (.bool true)], args := [d1, d2] }
  | _ => none }
def fnExactCrossRow : OpenClaim := { program := "ytgnnkldabmmdkaa", sum := "4067a8232d05b8ef3dd38168b66ce4ba399ddfdc8113cd0f1663995e4a32a801", func := "loop.example/wholelight/laws.FnExactCross", spec := "fnExactCross", apart := false }
def FnExactCrossSaid : Prop := fnExactCrossRow.holds Try.pinned (OpenSpec.ofChange fnExactCrossSpec)

/-- ITS FALSE NEIGHBOUR: 'it returns false'. Refute it at one input. -/
def fnExactCrossWrong : ChangeSpec := { name := "fnExactCross", fn := fun _ => fun
  | [d1, d2] => { results := [.lit (.bool false)], args := [d1, d2] }
  | _ => none }
def FnExactCrossWrongFalsely : Prop := fnExactCrossRow.holds Try.pinned (OpenSpec.ofChange fnExactCrossWrong)

/-- 'laws.FnExactLong': WHATEVER THE INPUT: true; the input reads as it did. -/
def fnExactLongSpec : ChangeSpec := { name := "fnExactLong", fn := fun _ => fun
  | [d] => { results := [.lit (.bool true)], args := [d] }
  | _ => none }
def fnExactLongRow : OpenClaim := { program := "ytgnnkldabmmdkaa", sum := "4067a8232d05b8ef3dd38168b66ce4ba399ddfdc8113cd0f1663995e4a32a801", func := "loop.example/wholelight/laws.FnExactLong", spec := "fnExactLong", apart := false }
def FnExactLongSaid : Prop := fnExactLongRow.holds Try.pinned (OpenSpec.ofChange fnExactLongSpec)

/-- ITS FALSE NEIGHBOUR: 'it returns false'. Refute it at one input. -/
def fnExactLongWrong : ChangeSpec := { name := "fnExactLong", fn := fun _ => fun
  | [d] => { results := [.lit (.bool false)], args := [d] }
  | _ => none }
def FnExactLongWrongFalsely : Prop := fnExactLongRow.holds Try.pinned (OpenSpec.ofChange fnExactLongWrong)

/-- 'laws.FnExactShort': WHATEVER THE INPUT: true; the input reads as it did. -/
def fnExactShortSpec : ChangeSpec := { name := "fnExactShort", fn := fun _ => fun
  | [d] => { results := [.lit (.bool true)], args := [d] }
  | _ => none }
def fnExactShortRow : OpenClaim := { program := "ytgnnkldabmmdkaa", sum := "4067a8232d05b8ef3dd38168b66ce4ba399ddfdc8113cd0f1663995e4a32a801", func := "loop.example/wholelight/laws.FnExactShort", spec := "fnExactShort", apart := false }
def FnExactShortSaid : Prop := fnExactShortRow.holds Try.pinned (OpenSpec.ofChange fnExactShortSpec)

/-- ITS FALSE NEIGHBOUR: 'it returns false'. Refute it at one input. -/
def fnExactShortWrong : ChangeSpec := { name := "fnExactShort", fn := fun _ => fun
  | [d] => { results := [.lit (.bool false)], args := [d] }
  | _ => none }
def FnExactShortWrongFalsely : Prop := fnExactShortRow.holds Try.pinned (OpenSpec.ofChange fnExactShortWrong)

/-- 'laws.FnExactThrown': WHATEVER THE INPUT: true; the input reads as it did. -/
def fnExactThrownSpec : ChangeSpec := { name := "fnExactThrown", fn := fun _ => fun
  | [d1, d2] => { results := [.lit (.bool true)], args := [d1, d2] }
  | _ => none }
def fnExactThrownRow : OpenClaim := { program := "ytgnnkldabmmdkaa", sum := "4067a8232d05b8ef3dd38168b66ce4ba399ddfdc8113cd0f1663995e4a32a801", func := "loop.example/wholelight/laws.FnExactThrown", spec := "fnExactThrown", apart := false }
def FnExactThrownSaid : Prop := fnExactThrownRow.holds Try.pinned (OpenSpec.ofChange fnExactThrownSpec)

/-- ITS FALSE NEIGHBOUR: 'it returns false'. Refute it at one input. -/
def fnExactThrownWrong : ChangeSpec := { name := "fnExactThrown", fn := fun _ => fun
  | [d1, d2] => { results := [.lit (.bool false)], args := [d1, d2] }
  | _ => none }
def FnExactThrownWrongFalsely : Prop := fnExactThrownRow.holds Try.pinned (OpenSpec.ofChange fnExactThrownWrong)

/-- 'laws.FnExactSlope': WHATEVER THE INPUT: true; the input reads as it did. -/
def fnExactSlopeSpec : ChangeSpec := { name := "fnExactSlope", fn := fun _ => fun
  | [d1, d2] => { results := [.lit (.bool true)], args := [d1, d2] }
  | _ => none }
def fnExactSlopeRow : OpenClaim := { program := "ytgnnkldabmmdkaa", sum := "4067a8232d05b8ef3dd38168b66ce4ba399ddfdc8113cd0f1663995e4a32a801", func := "loop.example/wholelight/laws.FnExactSlope", spec := "fnExactSlope", apart := false }
def FnExactSlopeSaid : Prop := fnExactSlopeRow.holds Try.pinned (OpenSpec.ofChange fnExactSlopeSpec)

/-- ITS FALSE NEIGHBOUR: 'it returns false'. Refute it at one input. -/
def fnExactSlopeWrong : ChangeSpec := { name := "fnExactSlope", fn := fun _ => fun
  | [d1, d2] => { results := [.lit (.bool false)], args := [d1, d2] }
  | _ => none }
def FnExactSlopeWrongFalsely : Prop := fnExactSlopeRow.holds Try.pinned (OpenSpec.ofChange fnExactSlopeWrong)

/- THE SECOND FORM. 'bulk': how many values and letters a reading holds, each counted each time it is reached (what is shared counts as often as it is met; a slice's spare places count too). A statement '..UptoSaid' is the law's where the arguments, and the package variables that the reading takes, are together of bulk at most 1048576: NARROWER than '..Said'. Prove '..Said' where nothing that the law and all that it calls make is longer than what came in: it says more and counts as full. Else prove '..UptoSaid'. A law counts once. -/
mutual
def uptoBulk {H : Type} : DataW H → Nat
  | .lit (.string bytes) => bytes.length + 1
  | .lit _ => 1
  | .nil => 1
  | .ptr d => uptoBulk d + 1
  | .slice elems spare => uptoBulkAll elems + uptoBulkAll spare + 1
  | .agg parts => uptoBulkAll parts + 1
  | .iface _ d => uptoBulk d + 1
  | .map entries => uptoBulkEntries entries + 1
  | .held _ => 1
def uptoBulkAll {H : Type} : List (DataW H) → Nat
  | [] => 0
  | d :: r => uptoBulk d + uptoBulkAll r
def uptoBulkEntries {H : Type} : List (Lit × DataW H) → Nat
  | [] => 0
  | x :: r => uptoBulkEntry x + uptoBulkEntries r
def uptoBulkEntry {H : Type} : Lit × DataW H → Nat
  | (.string bytes, d) => bytes.length + uptoBulk d + 1
  | (_, d) => uptoBulk d + 1
 end
def uptoSmall : (H : Type) → List (DataW H) → Bool := fun _ ds => decide (uptoBulkAll ds ≤ 1048576)
def OpenSpec.upto (s : _root_.Go.ChangeSpec) : _root_.Go.OpenSpec := { _root_.Go.OpenSpec.ofChange s with cond := some uptoSmall }

/-- 'laws.FnExactVecOk', WHERE WHAT IT READS IS OF BULK AT MOST 1048576: true; the input reads as it did. -/
def fnExactVecOkUptoRow : OpenClaim := { program := "ytgnnkldabmmdkaa", sum := "4067a8232d05b8ef3dd38168b66ce4ba399ddfdc8113cd0f1663995e4a32a801", func := "loop.example/wholelight/laws.FnExactVecOk", spec := "fnExactVecOk", apart := false, narrowed := true }
def FnExactVecOkUptoSaid : Prop := fnExactVecOkUptoRow.holds Try.pinned (OpenSpec.upto fnExactVecOkSpec)

/-- 'laws.FnExactPlus', WHERE WHAT IT READS IS OF BULK AT MOST 1048576: true; the input reads as it did. -/
def fnExactPlusUptoRow : OpenClaim := { program := "ytgnnkldabmmdkaa", sum := "4067a8232d05b8ef3dd38168b66ce4ba399ddfdc8113cd0f1663995e4a32a801", func := "loop.example/wholelight/laws.FnExactPlus", spec := "fnExactPlus", apart := false, narrowed := true }
def FnExactPlusUptoSaid : Prop := fnExactPlusUptoRow.holds Try.pinned (OpenSpec.upto fnExactPlusSpec)

/-- 'laws.FnExactMinus', WHERE WHAT IT READS IS OF BULK AT MOST 1048576: true; the input reads as it did. -/
def fnExactMinusUptoRow : OpenClaim := { program := "ytgnnkldabmmdkaa", sum := "4067a8232d05b8ef3dd38168b66ce4ba399ddfdc8113cd0f1663995e4a32a801", func := "loop.example/wholelight/laws.FnExactMinus", spec := "fnExactMinus", apart := false, narrowed := true }
def FnExactMinusUptoSaid : Prop := fnExactMinusUptoRow.holds Try.pinned (OpenSpec.upto fnExactMinusSpec)

/-- 'laws.FnExactTimes', WHERE WHAT IT READS IS OF BULK AT MOST 1048576: true; the input reads as it did. -/
def fnExactTimesUptoRow : OpenClaim := { program := "ytgnnkldabmmdkaa", sum := "4067a8232d05b8ef3dd38168b66ce4ba399ddfdc8113cd0f1663995e4a32a801", func := "loop.example/wholelight/laws.FnExactTimes", spec := "fnExactTimes", apart := false, narrowed := true }
def FnExactTimesUptoSaid : Prop := fnExactTimesUptoRow.holds Try.pinned (OpenSpec.upto fnExactTimesSpec)

/-- 'laws.FnExactDot', WHERE WHAT IT READS IS OF BULK AT MOST 1048576: true; the input reads as it did. -/
def fnExactDotUptoRow : OpenClaim := { program := "ytgnnkldabmmdkaa", sum := "4067a8232d05b8ef3dd38168b66ce4ba399ddfdc8113cd0f1663995e4a32a801", func := "loop.example/wholelight/laws.FnExactDot", spec := "fnExactDot", apart := false, narrowed := true }
def FnExactDotUptoSaid : Prop := fnExactDotUptoRow.holds Try.pinned (OpenSpec.upto fnExactDotSpec)

/-- 'laws.FnExactCross', WHERE WHAT IT READS IS OF BULK AT MOST 1048576: true; the input reads as it did. -/
def fnExactCrossUptoRow : OpenClaim := { program := "ytgnnkldabmmdkaa", sum := "4067a8232d05b8ef3dd38168b66ce4ba399ddfdc8113cd0f1663995e4a32a801", func := "loop.example/wholelight/laws.FnExactCross", spec := "fnExactCross", apart := false, narrowed := true }
def FnExactCrossUptoSaid : Prop := fnExactCrossUptoRow.holds Try.pinned (OpenSpec.upto fnExactCrossSpec)

/-- 'laws.FnExactLong', WHERE WHAT IT READS IS OF BULK AT MOST 1048576: true; the input reads as it did. -/
def fnExactLongUptoRow : OpenClaim := { program := "ytgnnkldabmmdkaa", sum := "4067a8232d05b8ef3dd38168b66ce4ba399ddfdc8113cd0f1663995e4a32a801", func := "loop.example/wholelight/laws.FnExactLong", spec := "fnExactLong", apart := false, narrowed := true }
def FnExactLongUptoSaid : Prop := fnExactLongUptoRow.holds Try.pinned (OpenSpec.upto fnExactLongSpec)

/-- 'laws.FnExactShort', WHERE WHAT IT READS IS OF BULK AT MOST 1048576: true; the input reads as it did. -/
def fnExactShortUptoRow : OpenClaim := { program := "ytgnnkldabmmdkaa", sum := "4067a8232d05b8ef3dd38168b66ce4ba399ddfdc8113cd0f1663995e4a32a801", func := "loop.example/wholelight/laws.FnExactShort", spec := "fnExactShort", apart := false, narrowed := true }
def FnExactShortUptoSaid : Prop := fnExactShortUptoRow.holds Try.pinned (OpenSpec.upto fnExactShortSpec)

/-- 'laws.FnExactThrown', WHERE WHAT IT READS IS OF BULK AT MOST 1048576: true; the input reads as it did. -/
def fnExactThrownUptoRow : OpenClaim := { program := "ytgnnkldabmmdkaa", sum := "4067a8232d05b8ef3dd38168b66ce4ba399ddfdc8113cd0f1663995e4a32a801", func := "loop.example/wholelight/laws.FnExactThrown", spec := "fnExactThrown", apart := false, narrowed := true }
def FnExactThrownUptoSaid : Prop := fnExactThrownUptoRow.holds Try.pinned (OpenSpec.upto fnExactThrownSpec)

/-- 'laws.FnExactSlope', WHERE WHAT IT READS IS OF BULK AT MOST 1048576: true; the input reads as it did. -/
def fnExactSlopeUptoRow : OpenClaim := { program := "ytgnnkldabmmdkaa", sum := "4067a8232d05b8ef3dd38168b66ce4ba399ddfdc8113cd0f1663995e4a32a801", func := "loop.example/wholelight/laws.FnExactSlope", spec := "fnExactSlope", apart := false, narrowed := true }
def FnExactSlopeUptoSaid : Prop := fnExactSlopeUptoRow.holds Try.pinned (OpenSpec.upto fnExactSlopeSpec)

end Rows
end Go.Proofs.Ytgnnkldabmmdkaa
