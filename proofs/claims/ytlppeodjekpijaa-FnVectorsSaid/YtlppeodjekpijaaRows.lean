/-
  No cell of these rows narrows 'for every input' (looked for: loops, veiled, ifaces, maps, wideKeys, modest, calm, conditions, laid).
  DERIVED. THE GIVEN ROWS OF THIS SEAT. 9 by the template 'for every input the law returns true; each argument reads behind the call as it read before'; 0 by the template 'total and deterministic' (their statements: YtlppeodjekpijaaTotals.lean).
  GIVEN WITH THE SEED: the statements are not yours to turn. If you find one false, say at which input.
  Laid BY PROGRAM, IN A SANDBOX (cutbox-rows.mjs): the forced cells as the released guide's own fill.sh prints them over the translation 70b26b9ab320e8b6… (all of the seat's roots in one cut). By AI agents, Wed Nov 11 2026. No macro, syntax, notation, axiom, sorry.
-/
import Derived.Test.YtlppeodjekpijaaChecked
import GoSem.Claim
import GoSem.ClaimJoined
import GoSem.ClaimMapViews
import Derived.JoinedTies
import Derived.KernelRfl
namespace Go.Proofs.Ytlppeodjekpijaa
/- THE CELL 'sum', in the pinned program and in every row, IS THE sha256 OF THE DUMP (.gsa) THAT YtlppeodjekpijaaProg.lean LOADS. Nothing in Lean hashes anything: it is a label: what it is worth is what the hold of that sum in a sandbox is worth. -/
noncomputable def Try.pinned : Pinned := { name := "ytlppeodjekpijaa", sum := "70b26b9ab320e8b616aabc493cc5abf59ca7cab5e2f5b3398f00ff5bc866df5e", checked := Try.checked }
namespace Rows
def none {H : Type} : Left H := { results := [], args := [] }

/-- 'laws.FnVectors': WHATEVER THE INPUT: true; the input reads as it did. -/
def fnVectorsSpec : ChangeSpec := { name := "fnVectors", fn := fun _ => fun
  | [d] => { results := [.lit (.bool true)], args := [d] }
  | _ => none }
def fnVectorsRow : OpenClaim := { program := "ytlppeodjekpijaa", sum := "70b26b9ab320e8b616aabc493cc5abf59ca7cab5e2f5b3398f00ff5bc866df5e", func := "loop.example/wholelight/laws.FnVectors", spec := "fnVectors", apart := false }
def FnVectorsSaid : Prop := fnVectorsRow.holds Try.pinned (OpenSpec.ofChange fnVectorsSpec)

/-- ITS FALSE NEIGHBOUR: 'it returns false'. Refute it at one input. -/
def fnVectorsWrong : ChangeSpec := { name := "fnVectors", fn := fun _ => fun
  | [d] => { results := [.lit (.bool false)], args := [d] }
  | _ => none }
def FnVectorsWrongFalsely : Prop := fnVectorsRow.holds Try.pinned (OpenSpec.ofChange fnVectorsWrong)

/-- 'laws.FnShort': WHATEVER THE INPUT: true; the input reads as it did. -/
def fnShortSpec : ChangeSpec := { name := "fnShort", fn := fun _ => fun
  | [d] => { results := [.lit (.bool true)], args := [d] }
  | _ => none }
def fnShortRow : OpenClaim := { program := "ytlppeodjekpijaa", sum := "70b26b9ab320e8b616aabc493cc5abf59ca7cab5e2f5b3398f00ff5bc866df5e", func := "loop.example/wholelight/laws.FnShort", spec := "fnShort", apart := false }
def FnShortSaid : Prop := fnShortRow.holds Try.pinned (OpenSpec.ofChange fnShortSpec)

/-- ITS FALSE NEIGHBOUR: 'it returns false'. Refute it at one input. -/
def fnShortWrong : ChangeSpec := { name := "fnShort", fn := fun _ => fun
  | [d] => { results := [.lit (.bool false)], args := [d] }
  | _ => none }
def FnShortWrongFalsely : Prop := fnShortRow.holds Try.pinned (OpenSpec.ofChange fnShortWrong)

/-- 'laws.FnSlope': WHATEVER THE INPUT: true; the input reads as it did. -/
def fnSlopeSpec : ChangeSpec := { name := "fnSlope", fn := fun _ => fun
  | [d] => { results := [.lit (.bool true)], args := [d] }
  | _ => none }
def fnSlopeRow : OpenClaim := { program := "ytlppeodjekpijaa", sum := "70b26b9ab320e8b616aabc493cc5abf59ca7cab5e2f5b3398f00ff5bc866df5e", func := "loop.example/wholelight/laws.FnSlope", spec := "fnSlope", apart := false }
def FnSlopeSaid : Prop := fnSlopeRow.holds Try.pinned (OpenSpec.ofChange fnSlopeSpec)

/-- ITS FALSE NEIGHBOUR: 'it returns false'. Refute it at one input. -/
def fnSlopeWrong : ChangeSpec := { name := "fnSlope", fn := fun _ => fun
  | [d] => { results := [.lit (.bool false)], args := [d] }
  | _ => none }
def FnSlopeWrongFalsely : Prop := fnSlopeRow.holds Try.pinned (OpenSpec.ofChange fnSlopeWrong)

/-- 'laws.FnThrown': WHATEVER THE INPUT: true; the input reads as it did. -/
def fnThrownSpec : ChangeSpec := { name := "fnThrown", fn := fun _ => fun
  | [d] => { results := [.lit (.bool true)], args := [d] }
  | _ => none }
def fnThrownRow : OpenClaim := { program := "ytlppeodjekpijaa", sum := "70b26b9ab320e8b616aabc493cc5abf59ca7cab5e2f5b3398f00ff5bc866df5e", func := "loop.example/wholelight/laws.FnThrown", spec := "fnThrown", apart := false }
def FnThrownSaid : Prop := fnThrownRow.holds Try.pinned (OpenSpec.ofChange fnThrownSpec)

/-- ITS FALSE NEIGHBOUR: 'it returns false'. Refute it at one input. -/
def fnThrownWrong : ChangeSpec := { name := "fnThrown", fn := fun _ => fun
  | [d] => { results := [.lit (.bool false)], args := [d] }
  | _ => none }
def FnThrownWrongFalsely : Prop := fnThrownRow.holds Try.pinned (OpenSpec.ofChange fnThrownWrong)

/-- 'laws.FnTurned': WHATEVER THE INPUT: true; the input reads as it did. -/
def fnTurnedSpec : ChangeSpec := { name := "fnTurned", fn := fun _ => fun
  | [d] => { results := [.lit (.bool true)], args := [d] }
  | _ => none }
def fnTurnedRow : OpenClaim := { program := "ytlppeodjekpijaa", sum := "70b26b9ab320e8b616aabc493cc5abf59ca7cab5e2f5b3398f00ff5bc866df5e", func := "loop.example/wholelight/laws.FnTurned", spec := "fnTurned", apart := false }
def FnTurnedSaid : Prop := fnTurnedRow.holds Try.pinned (OpenSpec.ofChange fnTurnedSpec)

/-- ITS FALSE NEIGHBOUR: 'it returns false'. Refute it at one input. -/
def fnTurnedWrong : ChangeSpec := { name := "fnTurned", fn := fun _ => fun
  | [d] => { results := [.lit (.bool false)], args := [d] }
  | _ => none }
def FnTurnedWrongFalsely : Prop := fnTurnedRow.holds Try.pinned (OpenSpec.ofChange fnTurnedWrong)

/-- 'laws.FnCutMoved': WHATEVER THE INPUT: true; the input reads as it did. -/
def fnCutMovedSpec : ChangeSpec := { name := "fnCutMoved", fn := fun _ => fun
  | [d] => { results := [.lit (.bool true)], args := [d] }
  | _ => none }
def fnCutMovedRow : OpenClaim := { program := "ytlppeodjekpijaa", sum := "70b26b9ab320e8b616aabc493cc5abf59ca7cab5e2f5b3398f00ff5bc866df5e", func := "loop.example/wholelight/laws.FnCutMoved", spec := "fnCutMoved", apart := false }
def FnCutMovedSaid : Prop := fnCutMovedRow.holds Try.pinned (OpenSpec.ofChange fnCutMovedSpec)

/-- ITS FALSE NEIGHBOUR: 'it returns false'. Refute it at one input. -/
def fnCutMovedWrong : ChangeSpec := { name := "fnCutMoved", fn := fun _ => fun
  | [d] => { results := [.lit (.bool false)], args := [d] }
  | _ => none }
def FnCutMovedWrongFalsely : Prop := fnCutMovedRow.holds Try.pinned (OpenSpec.ofChange fnCutMovedWrong)

/-- 'laws.FnHalfCut': WHATEVER THE INPUT: true; the input reads as it did. -/
def fnHalfCutSpec : ChangeSpec := { name := "fnHalfCut", fn := fun _ => fun
  | [d] => { results := [.lit (.bool true)], args := [d] }
  | _ => none }
def fnHalfCutRow : OpenClaim := { program := "ytlppeodjekpijaa", sum := "70b26b9ab320e8b616aabc493cc5abf59ca7cab5e2f5b3398f00ff5bc866df5e", func := "loop.example/wholelight/laws.FnHalfCut", spec := "fnHalfCut", apart := false }
def FnHalfCutSaid : Prop := fnHalfCutRow.holds Try.pinned (OpenSpec.ofChange fnHalfCutSpec)

/-- ITS FALSE NEIGHBOUR: 'it returns false'. Refute it at one input. -/
def fnHalfCutWrong : ChangeSpec := { name := "fnHalfCut", fn := fun _ => fun
  | [d] => { results := [.lit (.bool false)], args := [d] }
  | _ => none }
def FnHalfCutWrongFalsely : Prop := fnHalfCutRow.holds Try.pinned (OpenSpec.ofChange fnHalfCutWrong)

/-- 'laws.FnBallCut': WHATEVER THE INPUT: true; the input reads as it did. -/
def fnBallCutSpec : ChangeSpec := { name := "fnBallCut", fn := fun _ => fun
  | [d] => { results := [.lit (.bool true)], args := [d] }
  | _ => none }
def fnBallCutRow : OpenClaim := { program := "ytlppeodjekpijaa", sum := "70b26b9ab320e8b616aabc493cc5abf59ca7cab5e2f5b3398f00ff5bc866df5e", func := "loop.example/wholelight/laws.FnBallCut", spec := "fnBallCut", apart := false }
def FnBallCutSaid : Prop := fnBallCutRow.holds Try.pinned (OpenSpec.ofChange fnBallCutSpec)

/-- ITS FALSE NEIGHBOUR: 'it returns false'. Refute it at one input. -/
def fnBallCutWrong : ChangeSpec := { name := "fnBallCut", fn := fun _ => fun
  | [d] => { results := [.lit (.bool false)], args := [d] }
  | _ => none }
def FnBallCutWrongFalsely : Prop := fnBallCutRow.holds Try.pinned (OpenSpec.ofChange fnBallCutWrong)

/-- 'laws.FnRayAt': WHATEVER THE INPUT: true; the input reads as it did. -/
def fnRayAtSpec : ChangeSpec := { name := "fnRayAt", fn := fun _ => fun
  | [d] => { results := [.lit (.bool true)], args := [d] }
  | _ => none }
def fnRayAtRow : OpenClaim := { program := "ytlppeodjekpijaa", sum := "70b26b9ab320e8b616aabc493cc5abf59ca7cab5e2f5b3398f00ff5bc866df5e", func := "loop.example/wholelight/laws.FnRayAt", spec := "fnRayAt", apart := false }
def FnRayAtSaid : Prop := fnRayAtRow.holds Try.pinned (OpenSpec.ofChange fnRayAtSpec)

/-- ITS FALSE NEIGHBOUR: 'it returns false'. Refute it at one input. -/
def fnRayAtWrong : ChangeSpec := { name := "fnRayAt", fn := fun _ => fun
  | [d] => { results := [.lit (.bool false)], args := [d] }
  | _ => none }
def FnRayAtWrongFalsely : Prop := fnRayAtRow.holds Try.pinned (OpenSpec.ofChange fnRayAtWrong)

/- THE SECOND FORM. 'bulk': how many values and letters a reading holds, each counted each time it is reached (what is shared counts as often as it is met; a slice's spare places count too). A statement '..UptoSaid' is the law's where the arguments, and the package variables that the reading takes, are together of bulk at most 1048576: NARROWER than '..Said'. Prove '..Said' where nothing that the law and all that it calls make is longer than what came in: it says more and counts as full. Else prove '..UptoSaid'. A law counts once. -/
mutual
def uptoBulk {H : Type} : DataW H → Nat
  | .lit (.string bytes) => bytes.length + 1
  | .lit _ => 1
  | .nil => 1
  | .ptr d => uptoBulk d + 1
  | .slice elems spare => uptoBulkAll elems + uptoBulkAll spare + 1
  | .agg parts => uptoBulkAll parts + 1
  | .iface _ d => uptoBulk d + 1
  | .map entries => uptoBulkEntries entries + 1
  | .held _ => 1
def uptoBulkAll {H : Type} : List (DataW H) → Nat
  | [] => 0
  | d :: r => uptoBulk d + uptoBulkAll r
def uptoBulkEntries {H : Type} : List (Lit × DataW H) → Nat
  | [] => 0
  | x :: r => uptoBulkEntry x + uptoBulkEntries r
def uptoBulkEntry {H : Type} : Lit × DataW H → Nat
  | (.string bytes, d) => bytes.length + uptoBulk d + 1
  | (_, d) => uptoBulk d + 1
 end
def uptoSmall : (H : Type) → List (DataW H) → Bool := fun _ ds => decide (uptoBulkAll ds ≤ 1048576)
def OpenSpec.upto (s : _root_.Go.ChangeSpec) : _root_.Go.OpenSpec := { _root_.Go.OpenSpec.ofChange s with cond := some uptoSmall }

/-- 'laws.FnVectors', WHERE WHAT IT READS IS OF BULK AT MOST 1048576: true; the input reads as it did. -/
def fnVectorsUptoRow : OpenClaim := { program := "ytlppeodjekpijaa", sum := "70b26b9ab320e8b616aabc493cc5abf59ca7cab5e2f5b3398f00ff5bc866df5e", func := "loop.example/wholelight/laws.FnVectors", spec := "fnVectors", apart := false, narrowed := true }
def FnVectorsUptoSaid : Prop := fnVectorsUptoRow.holds Try.pinned (OpenSpec.upto fnVectorsSpec)

/-- 'laws.FnShort', WHERE WHAT IT READS IS OF BULK AT MOST 1048576: true; the input reads as it did. -/
def fnShortUptoRow : OpenClaim := { program := "ytlppeodjekpijaa", sum := "70b26b9ab320e8b616aabc493cc5abf59ca7cab5e2f5b3398f00ff5bc866df5e", func := "loop.example/wholelight/laws.FnShort", spec := "fnShort", apart := false, narrowed := true }
def FnShortUptoSaid : Prop := fnShortUptoRow.holds Try.pinned (OpenSpec.upto fnShortSpec)

/-- 'laws.FnSlope', WHERE WHAT IT READS IS OF BULK AT MOST 1048576: true; the input reads as it did. -/
def fnSlopeUptoRow : OpenClaim := { program := "ytlppeodjekpijaa", sum := "70b26b9ab320e8b616aabc493cc5abf59ca7cab5e2f5b3398f00ff5bc866df5e", func := "loop.example/wholelight/laws.FnSlope", spec := "fnSlope", apart := false, narrowed := true }
def FnSlopeUptoSaid : Prop := fnSlopeUptoRow.holds Try.pinned (OpenSpec.upto fnSlopeSpec)

/-- 'laws.FnThrown', WHERE WHAT IT READS IS OF BULK AT MOST 1048576: true; the input reads as it did. -/
def fnThrownUptoRow : OpenClaim := { program := "ytlppeodjekpijaa", sum := "70b26b9ab320e8b616aabc493cc5abf59ca7cab5e2f5b3398f00ff5bc866df5e", func := "loop.example/wholelight/laws.FnThrown", spec := "fnThrown", apart := false, narrowed := true }
def FnThrownUptoSaid : Prop := fnThrownUptoRow.holds Try.pinned (OpenSpec.upto fnThrownSpec)

/-- 'laws.FnTurned', WHERE WHAT IT READS IS OF BULK AT MOST 1048576: true; the input reads as it did. -/
def fnTurnedUptoRow : OpenClaim := { program := "ytlppeodjekpijaa", sum := "70b26b9ab320e8b616aabc493cc5abf59ca7cab5e2f5b3398f00ff5bc866df5e", func := "loop.example/wholelight/laws.FnTurned", spec := "fnTurned", apart := false, narrowed := true }
def FnTurnedUptoSaid : Prop := fnTurnedUptoRow.holds Try.pinned (OpenSpec.upto fnTurnedSpec)

/-- 'laws.FnCutMoved', WHERE WHAT IT READS IS OF BULK AT MOST 1048576: true; the input reads as it did. -/
def fnCutMovedUptoRow : OpenClaim := { program := "ytlppeodjekpijaa", sum := "70b26b9ab320e8b616aabc493cc5abf59ca7cab5e2f5b3398f00ff5bc866df5e", func := "loop.example/wholelight/laws.FnCutMoved", spec := "fnCutMoved", apart := false, narrowed := true }
def FnCutMovedUptoSaid : Prop := fnCutMovedUptoRow.holds Try.pinned (OpenSpec.upto fnCutMovedSpec)

/-- 'laws.FnHalfCut', WHERE WHAT IT READS IS OF BULK AT MOST 1048576: true; the input reads as it did. -/
def fnHalfCutUptoRow : OpenClaim := { program := "ytlppeodjekpijaa", sum := "70b26b9ab320e8b616aabc493cc5abf59ca7cab5e2f5b3398f00ff5bc866df5e", func := "loop.example/wholelight/laws.FnHalfCut", spec := "fnHalfCut", apart := false, narrowed := true }
def FnHalfCutUptoSaid : Prop := fnHalfCutUptoRow.holds Try.pinned (OpenSpec.upto fnHalfCutSpec)

/-- 'laws.FnBallCut', WHERE WHAT IT READS IS OF BULK AT MOST 1048576: true; the input reads as it did. -/
def fnBallCutUptoRow : OpenClaim := { program := "ytlppeodjekpijaa", sum := "70b26b9ab320e8b616aabc493cc5abf59ca7cab5e2f5b3398f00ff5bc866df5e", func := "loop.example/wholelight/laws.FnBallCut", spec := "fnBallCut", apart := false, narrowed := true }
def FnBallCutUptoSaid : Prop := fnBallCutUptoRow.holds Try.pinned (OpenSpec.upto fnBallCutSpec)

/-- 'laws.FnRayAt', WHERE WHAT IT READS IS OF BULK AT MOST 1048576: true; the input reads as it did. -/
def fnRayAtUptoRow : OpenClaim := { program := "ytlppeodjekpijaa", sum := "70b26b9ab320e8b616aabc493cc5abf59ca7cab5e2f5b3398f00ff5bc866df5e", func := "loop.example/wholelight/laws.FnRayAt", spec := "fnRayAt", apart := false, narrowed := true }
def FnRayAtUptoSaid : Prop := fnRayAtUptoRow.holds Try.pinned (OpenSpec.upto fnRayAtSpec)

end Rows
end Go.Proofs.Ytlppeodjekpijaa
