/-
  No cell of these rows narrows 'for every input' (looked for: loops, veiled, ifaces, maps, wideKeys, modest, calm, conditions, laid).
  DERIVED. THE GIVEN ROWS OF THIS SEAT. 14 by the template 'for every input the law returns true; each argument reads behind the call as it read before'; 0 by the template 'total and deterministic' (their statements: YtdpgeekhkfdgkaaTotals.lean).
  GIVEN WITH THE SEED: the statements are not yours to turn. If you find one false, say at which input.
  Laid BY PROGRAM, IN A SANDBOX (cutbox-rows.mjs): the forced cells as the released guide's own fill.sh prints them over the translation f7f11e348ce542ed… (all of the seat's roots in one cut). By AI agents, Wed Nov 11 2026. No macro, syntax, notation, axiom, sorry.
-/
import Derived.Test.YtdpgeekhkfdgkaaChecked
import GoSem.Claim
import GoSem.ClaimJoined
import GoSem.ClaimMapViews
import Derived.JoinedTies
import Derived.KernelRfl
namespace Go.Proofs.Ytdpgeekhkfdgkaa
/- THE CELL 'sum', in the pinned program and in every row, IS THE sha256 OF THE DUMP (.gsa) THAT YtdpgeekhkfdgkaaProg.lean LOADS. Nothing in Lean hashes anything: it is a label: what it is worth is what the hold of that sum in a sandbox is worth. -/
noncomputable def Try.pinned : Pinned := { name := "ytdpgeekhkfdgkaa", sum := "f7f11e348ce542ed4d012edd804eef2d18abb266769d0703a0aab16d05f482f2", checked := Try.checked }
namespace Rows
def none {H : Type} : Left H := { results := [], args := [] }

/-- 'laws.FnVectors': WHATEVER THE INPUT: true; the input reads as it did. -/
def fnVectorsSpec : ChangeSpec := { name := "fnVectors", fn := fun _ => fun
  | [d] => { results := [.lit (.bool true)], args := [d] }
  | _ => none }
def fnVectorsRow : OpenClaim := { program := "ytdpgeekhkfdgkaa", sum := "f7f11e348ce542ed4d012edd804eef2d18abb266769d0703a0aab16d05f482f2", func := "loop.example/wholelight/laws.FnVectors", spec := "fnVectors", apart := false }
def FnVectorsSaid : Prop := fnVectorsRow.holds Try.pinned (OpenSpec.ofChange fnVectorsSpec)

/-- ITS FALSE NEIGHBOUR: 'it returns false'. Refute it at one input. -/
def fnVectorsWrong : ChangeSpec := { name := "fnVectors", fn := fun _ => fun
  | [d] => { results := [.lit (.bool false)], args := [d] }
  | _ => none }
def FnVectorsWrongFalsely : Prop := fnVectorsRow.holds Try.pinned (OpenSpec.ofChange fnVectorsWrong)

/-- 'laws.FnThrown': WHATEVER THE INPUT: true; the input reads as it did. -/
def fnThrownSpec : ChangeSpec := { name := "fnThrown", fn := fun _ => fun
  | [d] => { results := [.lit (.bool true)], args := [d] }
  | _ => none }
def fnThrownRow : OpenClaim := { program := "ytdpgeekhkfdgkaa", sum := "f7f11e348ce542ed4d012edd804eef2d18abb266769d0703a0aab16d05f482f2", func := "loop.example/wholelight/laws.FnThrown", spec := "fnThrown", apart := false }
def FnThrownSaid : Prop := fnThrownRow.holds Try.pinned (OpenSpec.ofChange fnThrownSpec)

/-- ITS FALSE NEIGHBOUR: 'it returns false'. Refute it at one input. -/
def fnThrownWrong : ChangeSpec := { name := "fnThrown", fn := fun _ => fun
  | [d] => { results := [.lit (.bool false)], args := [d] }
  | _ => none }
def FnThrownWrongFalsely : Prop := fnThrownRow.holds Try.pinned (OpenSpec.ofChange fnThrownWrong)

/-- 'laws.FnShort': WHATEVER THE INPUT: true; the input reads as it did. -/
def fnShortSpec : ChangeSpec := { name := "fnShort", fn := fun _ => fun
  | [d] => { results := [.lit (.bool true)], args := [d] }
  | _ => none }
def fnShortRow : OpenClaim := { program := "ytdpgeekhkfdgkaa", sum := "f7f11e348ce542ed4d012edd804eef2d18abb266769d0703a0aab16d05f482f2", func := "loop.example/wholelight/laws.FnShort", spec := "fnShort", apart := false }
def FnShortSaid : Prop := fnShortRow.holds Try.pinned (OpenSpec.ofChange fnShortSpec)

/-- ITS FALSE NEIGHBOUR: 'it returns false'. Refute it at one input. -/
def fnShortWrong : ChangeSpec := { name := "fnShort", fn := fun _ => fun
  | [d] => { results := [.lit (.bool false)], args := [d] }
  | _ => none }
def FnShortWrongFalsely : Prop := fnShortRow.holds Try.pinned (OpenSpec.ofChange fnShortWrong)

/-- 'laws.FnSlope': WHATEVER THE INPUT: true; the input reads as it did. -/
def fnSlopeSpec : ChangeSpec := { name := "fnSlope", fn := fun _ => fun
  | [d] => { results := [.lit (.bool true)], args := [d] }
  | _ => none }
def fnSlopeRow : OpenClaim := { program := "ytdpgeekhkfdgkaa", sum := "f7f11e348ce542ed4d012edd804eef2d18abb266769d0703a0aab16d05f482f2", func := "loop.example/wholelight/laws.FnSlope", spec := "fnSlope", apart := false }
def FnSlopeSaid : Prop := fnSlopeRow.holds Try.pinned (OpenSpec.ofChange fnSlopeSpec)

/-- ITS FALSE NEIGHBOUR: 'it returns false'. Refute it at one input. -/
def fnSlopeWrong : ChangeSpec := { name := "fnSlope", fn := fun _ => fun
  | [d] => { results := [.lit (.bool false)], args := [d] }
  | _ => none }
def FnSlopeWrongFalsely : Prop := fnSlopeRow.holds Try.pinned (OpenSpec.ofChange fnSlopeWrong)

/-- 'laws.FnMotions': WHATEVER THE INPUT: true; the input reads as it did. -/
def fnMotionsSpec : ChangeSpec := { name := "fnMotions", fn := fun _ => fun
  | [d] => { results := [.lit (.bool true)], args := [d] }
  | _ => none }
def fnMotionsRow : OpenClaim := { program := "ytdpgeekhkfdgkaa", sum := "f7f11e348ce542ed4d012edd804eef2d18abb266769d0703a0aab16d05f482f2", func := "loop.example/wholelight/laws.FnMotions", spec := "fnMotions", apart := false }
def FnMotionsSaid : Prop := fnMotionsRow.holds Try.pinned (OpenSpec.ofChange fnMotionsSpec)

/-- ITS FALSE NEIGHBOUR: 'it returns false'. Refute it at one input. -/
def fnMotionsWrong : ChangeSpec := { name := "fnMotions", fn := fun _ => fun
  | [d] => { results := [.lit (.bool false)], args := [d] }
  | _ => none }
def FnMotionsWrongFalsely : Prop := fnMotionsRow.holds Try.pinned (OpenSpec.ofChange fnMotionsWrong)

/-- 'laws.FnTurned': WHATEVER THE INPUT: true; the input reads as it did. -/
def fnTurnedSpec : ChangeSpec := { name := "fnTurned", fn := fun _ => fun
  | [d] => { results := [.lit (.bool true)], args := [d] }
  | _ => none }
def fnTurnedRow : OpenClaim := { program := "ytdpgeekhkfdgkaa", sum := "f7f11e348ce542ed4d012edd804eef2d18abb266769d0703a0aab16d05f482f2", func := "loop.example/wholelight/laws.FnTurned", spec := "fnTurned", apart := false }
def FnTurnedSaid : Prop := fnTurnedRow.holds Try.pinned (OpenSpec.ofChange fnTurnedSpec)

/-- ITS FALSE NEIGHBOUR: 'it returns false'. Refute it at one input. -/
def fnTurnedWrong : ChangeSpec := { name := "fnTurned", fn := fun _ => fun
  | [d] => { results := [.lit (.bool false)], args := [d] }
  | _ => none }
def FnTurnedWrongFalsely : Prop := fnTurnedRow.holds Try.pinned (OpenSpec.ofChange fnTurnedWrong)

/-- 'laws.FnAllTurns': WHATEVER THE INPUT: true; the input reads as it did. -/
def fnAllTurnsSpec : ChangeSpec := { name := "fnAllTurns", fn := fun _ => fun
  | [d] => { results := [.lit (.bool true)], args := [d] }
  | _ => none }
def fnAllTurnsRow : OpenClaim := { program := "ytdpgeekhkfdgkaa", sum := "f7f11e348ce542ed4d012edd804eef2d18abb266769d0703a0aab16d05f482f2", func := "loop.example/wholelight/laws.FnAllTurns", spec := "fnAllTurns", apart := false }
def FnAllTurnsSaid : Prop := fnAllTurnsRow.holds Try.pinned (OpenSpec.ofChange fnAllTurnsSpec)

/-- ITS FALSE NEIGHBOUR: 'it returns false'. Refute it at one input. -/
def fnAllTurnsWrong : ChangeSpec := { name := "fnAllTurns", fn := fun _ => fun
  | [d] => { results := [.lit (.bool false)], args := [d] }
  | _ => none }
def FnAllTurnsWrongFalsely : Prop := fnAllTurnsRow.holds Try.pinned (OpenSpec.ofChange fnAllTurnsWrong)

/-- 'laws.FnExactMotionOk': WHATEVER THE INPUT: true; the input reads as it did. -/
def fnExactMotionOkSpec : ChangeSpec := { name := "fnExactMotionOk", fn := fun _ => fun
  | [d] => { results := [.lit (.bool true)], args := [d] }
  | _ => none }
def fnExactMotionOkRow : OpenClaim := { program := "ytdpgeekhkfdgkaa", sum := "f7f11e348ce542ed4d012edd804eef2d18abb266769d0703a0aab16d05f482f2", func := "loop.example/wholelight/laws.FnExactMotionOk", spec := "fnExactMotionOk", apart := false }
def FnExactMotionOkSaid : Prop := fnExactMotionOkRow.holds Try.pinned (OpenSpec.ofChange fnExactMotionOkSpec)

/-- ITS FALSE NEIGHBOUR: 'it returns false'. Refute it at one input. -/
def fnExactMotionOkWrong : ChangeSpec := { name := "fnExactMotionOk", fn := fun _ => fun
  | [d] => { results := [.lit (.bool false)], args := [d] }
  | _ => none }
def FnExactMotionOkWrongFalsely : Prop := fnExactMotionOkRow.holds Try.pinned (OpenSpec.ofChange fnExactMotionOkWrong)

/-- 'laws.FnExactMoved': WHATEVER THE INPUT: true; the input reads as it did. -/
def fnExactMovedSpec : ChangeSpec := { name := "fnExactMoved", fn := fun _ => fun
  | [d1, d2] => { results := [.lit (.bool true)], args := [d1, d2] }
  | _ => none }
def fnExactMovedRow : OpenClaim := { program := "ytdpgeekhkfdgkaa", sum := "f7f11e348ce542ed4d012edd804eef2d18abb266769d0703a0aab16d05f482f2", func := "loop.example/wholelight/laws.FnExactMoved", spec := "fnExactMoved", apart := false }
def FnExactMovedSaid : Prop := fnExactMovedRow.holds Try.pinned (OpenSpec.ofChange fnExactMovedSpec)

/-- ITS FALSE NEIGHBOUR: 'it returns false'. Refute it at one input. -/
def fnExactMovedWrong : ChangeSpec := { name := "fnExactMoved", fn := fun _ => fun
  | [d1, d2] => { results := [.lit (.bool false)], args := [d1, d2] }
  | _ => none }
def FnExactMovedWrongFalsely : Prop := fnExactMovedRow.holds Try.pinned (OpenSpec.ofChange fnExactMovedWrong)

/-- 'laws.FnExactTurned': WHATEVER THE INPUT: true; the input reads as it did. -/
def fnExactTurnedSpec : ChangeSpec := { name := "fnExactTurned", fn := fun _ => fun
  | [d1, d2] => { results := [.lit (.bool true)], args := [d1, d2] }
  | _ => none }
def fnExactTurnedRow : OpenClaim := { program := "ytdpgeekhkfdgkaa", sum := "f7f11e348ce542ed4d012edd804eef2d18abb266769d0703a0aab16d05f482f2", func := "loop.example/wholelight/laws.FnExactTurned", spec := "fnExactTurned", apart := false }
def FnExactTurnedSaid : Prop := fnExactTurnedRow.holds Try.pinned (OpenSpec.ofChange fnExactTurnedSpec)

/-- ITS FALSE NEIGHBOUR: 'it returns false'. Refute it at one input. -/
def fnExactTurnedWrong : ChangeSpec := { name := "fnExactTurned", fn := fun _ => fun
  | [d1, d2] => { results := [.lit (.bool false)], args := [d1, d2] }
  | _ => none }
def FnExactTurnedWrongFalsely : Prop := fnExactTurnedRow.holds Try.pinned (OpenSpec.ofChange fnExactTurnedWrong)

/-- 'laws.FnExactUndone': WHATEVER THE INPUT: true; the input reads as it did. -/
def fnExactUndoneSpec : ChangeSpec := { name := "fnExactUndone", fn := fun _ => fun
  | [d] => { results := [.lit (.bool true)], args := [d] }
  | _ => none }
def fnExactUndoneRow : OpenClaim := { program := "ytdpgeekhkfdgkaa", sum := "f7f11e348ce542ed4d012edd804eef2d18abb266769d0703a0aab16d05f482f2", func := "loop.example/wholelight/laws.FnExactUndone", spec := "fnExactUndone", apart := false }
def FnExactUndoneSaid : Prop := fnExactUndoneRow.holds Try.pinned (OpenSpec.ofChange fnExactUndoneSpec)

/-- ITS FALSE NEIGHBOUR: 'it returns false'. Refute it at one input. -/
def fnExactUndoneWrong : ChangeSpec := { name := "fnExactUndone", fn := fun _ => fun
  | [d] => { results := [.lit (.bool false)], args := [d] }
  | _ => none }
def FnExactUndoneWrongFalsely : Prop := fnExactUndoneRow.holds Try.pinned (OpenSpec.ofChange fnExactUndoneWrong)

/-- 'laws.FnExactTogether': WHATEVER THE INPUT: true; the input reads as it did. -/
def fnExactTogetherSpec : ChangeSpec := { name := "fnExactTogether", fn := fun _ => fun
  | [d1, d2] => { results := [.lit (.bool true)], args := [d1, d2] }
  | _ => none }
def fnExactTogetherRow : OpenClaim := { program := "ytdpgeekhkfdgkaa", sum := "f7f11e348ce542ed4d012edd804eef2d18abb266769d0703a0aab16d05f482f2", func := "loop.example/wholelight/laws.FnExactTogether", spec := "fnExactTogether", apart := false }
def FnExactTogetherSaid : Prop := fnExactTogetherRow.holds Try.pinned (OpenSpec.ofChange fnExactTogetherSpec)

/-- ITS FALSE NEIGHBOUR: 'it returns false'. Refute it at one input. -/
def fnExactTogetherWrong : ChangeSpec := { name := "fnExactTogether", fn := fun _ => fun
  | [d1, d2] => { results := [.lit (.bool false)], args := [d1, d2] }
  | _ => none }
def FnExactTogetherWrongFalsely : Prop := fnExactTogetherRow.holds Try.pinned (OpenSpec.ofChange fnExactTogetherWrong)

/-- 'laws.FnExactAllTurns': WHATEVER THE INPUT: true; the input reads as it did. -/
def fnExactAllTurnsSpec : ChangeSpec := { name := "fnExactAllTurns", fn := fun _ => fun
  | [] => { results := [.lit (.bool true)], args := [] }
  | _ => none }
def fnExactAllTurnsRow : OpenClaim := { program := "ytdpgeekhkfdgkaa", sum := "f7f11e348ce542ed4d012edd804eef2d18abb266769d0703a0aab16d05f482f2", func := "loop.example/wholelight/laws.FnExactAllTurns", spec := "fnExactAllTurns", apart := false }
def FnExactAllTurnsSaid : Prop := fnExactAllTurnsRow.holds Try.pinned (OpenSpec.ofChange fnExactAllTurnsSpec)

/-- ITS FALSE NEIGHBOUR: 'it returns false'. Refute it at one input. -/
def fnExactAllTurnsWrong : ChangeSpec := { name := "fnExactAllTurns", fn := fun _ => fun
  | [] => { results := [.lit (.bool false)], args := [] }
  | _ => none }
def FnExactAllTurnsWrongFalsely : Prop := fnExactAllTurnsRow.holds Try.pinned (OpenSpec.ofChange fnExactAllTurnsWrong)

/-- 'laws.FnExactHand': WHATEVER THE INPUT: true; the input reads as it did. -/
def fnExactHandSpec : ChangeSpec := { name := "fnExactHand", fn := fun _ => fun
  | [d] => { results := [.lit (.bool true)], args := [d] }
  | _ => none }
def fnExactHandRow : OpenClaim := { program := "ytdpgeekhkfdgkaa", sum := "f7f11e348ce542ed4d012edd804eef2d18abb266769d0703a0aab16d05f482f2", func := "loop.example/wholelight/laws.FnExactHand", spec := "fnExactHand", apart := false }
def FnExactHandSaid : Prop := fnExactHandRow.holds Try.pinned (OpenSpec.ofChange fnExactHandSpec)

/-- ITS FALSE NEIGHBOUR: 'it returns false'. Refute it at one input. -/
def fnExactHandWrong : ChangeSpec := { name := "fnExactHand", fn := fun _ => fun
  | [d] => { results := [.lit (.bool false)], args := [d] }
  | _ => none }
def FnExactHandWrongFalsely : Prop := fnExactHandRow.holds Try.pinned (OpenSpec.ofChange fnExactHandWrong)

/- THE SECOND FORM. 'bulk': how many values and letters a reading holds, each counted each time it is reached (what is shared counts as often as it is met; a slice's spare places count too). A statement '..UptoSaid' is the law's where the arguments, and the package variables that the reading takes, are together of bulk at most 1048576: NARROWER than '..Said'. Prove '..Said' where nothing that the law and all that it calls make is longer than what came in: it says more and counts as full. Else prove '..UptoSaid'. A law counts once. -/
mutual
def uptoBulk {H : Type} : DataW H → Nat
  | .lit (.string bytes) => bytes.length + 1
  | .lit _ => 1
  | .nil => 1
  | .ptr d => uptoBulk d + 1
  | .slice elems spare => uptoBulkAll elems + uptoBulkAll spare + 1
  | .agg parts => uptoBulkAll parts + 1
  | .iface _ d => uptoBulk d + 1
  | .map entries => uptoBulkEntries entries + 1
  | .held _ => 1
def uptoBulkAll {H : Type} : List (DataW H) → Nat
  | [] => 0
  | d :: r => uptoBulk d + uptoBulkAll r
def uptoBulkEntries {H : Type} : List (Lit × DataW H) → Nat
  | [] => 0
  | x :: r => uptoBulkEntry x + uptoBulkEntries r
def uptoBulkEntry {H : Type} : Lit × DataW H → Nat
  | (.string bytes, d) => bytes.length + uptoBulk d + 1
  | (_, d) => uptoBulk d + 1
 end
def uptoSmall : (H : Type) → List (DataW H) → Bool := fun _ ds => decide (uptoBulkAll ds ≤ 1048576)
def OpenSpec.upto (s : _root_.Go.ChangeSpec) : _root_.Go.OpenSpec := { _root_.Go.OpenSpec.ofChange s with cond := some uptoSmall }

/-- 'laws.FnVectors', WHERE WHAT IT READS IS OF BULK AT MOST 1048576: true; the input reads as it did. -/
def fnVectorsUptoRow : OpenClaim := { program := "ytdpgeekhkfdgkaa", sum := "f7f11e348ce542ed4d012edd804eef2d18abb266769d0703a0aab16d05f482f2", func := "loop.example/wholelight/laws.FnVectors", spec := "fnVectors", apart := false, narrowed := true }
def FnVectorsUptoSaid : Prop := fnVectorsUptoRow.holds Try.pinned (OpenSpec.upto fnVectorsSpec)

/-- 'laws.FnThrown', WHERE WHAT IT READS IS OF BULK AT MOST 1048576: true; the input reads as it did. -/
def fnThrownUptoRow : OpenClaim := { program := "ytdpgeekhkfdgkaa", sum := "f7f11e348ce542ed4d012edd804eef2d18abb266769d0703a0aab16d05f482f2", func := "loop.example/wholelight/laws.FnThrown", spec := "fnThrown", apart := false, narrowed := true }
def FnThrownUptoSaid : Prop := fnThrownUptoRow.holds Try.pinned (OpenSpec.upto fnThrownSpec)

/-- 'laws.FnShort', WHERE WHAT IT READS IS OF BULK AT MOST 1048576: true; the input reads as it did. -/
def fnShortUptoRow : OpenClaim := { program := "ytdpgeekhkfdgkaa", sum := "f7f11e348ce542ed4d012edd804eef2d18abb266769d0703a0aab16d05f482f2", func := "loop.example/wholelight/laws.FnShort", spec := "fnShort", apart := false, narrowed := true }
def FnShortUptoSaid : Prop := fnShortUptoRow.holds Try.pinned (OpenSpec.upto fnShortSpec)

/-- 'laws.FnSlope', WHERE WHAT IT READS IS OF BULK AT MOST 1048576: true; the input reads as it did. -/
def fnSlopeUptoRow : OpenClaim := { program := "ytdpgeekhkfdgkaa", sum := "f7f11e348ce542ed4d012edd804eef2d18abb266769d0703a0aab16d05f482f2", func := "loop.example/wholelight/laws.FnSlope", spec := "fnSlope", apart := false, narrowed := true }
def FnSlopeUptoSaid : Prop := fnSlopeUptoRow.holds Try.pinned (OpenSpec.upto fnSlopeSpec)

/-- 'laws.FnMotions', WHERE WHAT IT READS IS OF BULK AT MOST 1048576: true; the input reads as it did. -/
def fnMotionsUptoRow : OpenClaim := { program := "ytdpgeekhkfdgkaa", sum := "f7f11e348ce542ed4d012edd804eef2d18abb266769d0703a0aab16d05f482f2", func := "loop.example/wholelight/laws.FnMotions", spec := "fnMotions", apart := false, narrowed := true }
def FnMotionsUptoSaid : Prop := fnMotionsUptoRow.holds Try.pinned (OpenSpec.upto fnMotionsSpec)

/-- 'laws.FnTurned', WHERE WHAT IT READS IS OF BULK AT MOST 1048576: true; the input reads as it did. -/
def fnTurnedUptoRow : OpenClaim := { program := "ytdpgeekhkfdgkaa", sum := "f7f11e348ce542ed4d012edd804eef2d18abb266769d0703a0aab16d05f482f2", func := "loop.example/wholelight/laws.FnTurned", spec := "fnTurned", apart := false, narrowed := true }
def FnTurnedUptoSaid : Prop := fnTurnedUptoRow.holds Try.pinned (OpenSpec.upto fnTurnedSpec)

/-- 'laws.FnAllTurns', WHERE WHAT IT READS IS OF BULK AT MOST 1048576: true; the input reads as it did. -/
def fnAllTurnsUptoRow : OpenClaim := { program := "ytdpgeekhkfdgkaa", sum := "f7f11e348ce542ed4d012edd804eef2d18abb266769d0703a0aab16d05f482f2", func := "loop.example/wholelight/laws.FnAllTurns", spec := "fnAllTurns", apart := false, narrowed := true }
def FnAllTurnsUptoSaid : Prop := fnAllTurnsUptoRow.holds Try.pinned (OpenSpec.upto fnAllTurnsSpec)

/-- 'laws.FnExactMotionOk', WHERE WHAT IT READS IS OF BULK AT MOST 1048576: true; the input reads as it did. -/
def fnExactMotionOkUptoRow : OpenClaim := { program := "ytdpgeekhkfdgkaa", sum := "f7f11e348ce542ed4d012edd804eef2d18abb266769d0703a0aab16d05f482f2", func := "loop.example/wholelight/laws.FnExactMotionOk", spec := "fnExactMotionOk", apart := false, narrowed := true }
def FnExactMotionOkUptoSaid : Prop := fnExactMotionOkUptoRow.holds Try.pinned (OpenSpec.upto fnExactMotionOkSpec)

/-- 'laws.FnExactMoved', WHERE WHAT IT READS IS OF BULK AT MOST 1048576: true; the input reads as it did. -/
def fnExactMovedUptoRow : OpenClaim := { program := "ytdpgeekhkfdgkaa", sum := "f7f11e348ce542ed4d012edd804eef2d18abb266769d0703a0aab16d05f482f2", func := "loop.example/wholelight/laws.FnExactMoved", spec := "fnExactMoved", apart := false, narrowed := true }
def FnExactMovedUptoSaid : Prop := fnExactMovedUptoRow.holds Try.pinned (OpenSpec.upto fnExactMovedSpec)

/-- 'laws.FnExactTurned', WHERE WHAT IT READS IS OF BULK AT MOST 1048576: true; the input reads as it did. -/
def fnExactTurnedUptoRow : OpenClaim := { program := "ytdpgeekhkfdgkaa", sum := "f7f11e348ce542ed4d012edd804eef2d18abb266769d0703a0aab16d05f482f2", func := "loop.example/wholelight/laws.FnExactTurned", spec := "fnExactTurned", apart := false, narrowed := true }
def FnExactTurnedUptoSaid : Prop := fnExactTurnedUptoRow.holds Try.pinned (OpenSpec.upto fnExactTurnedSpec)

/-- 'laws.FnExactUndone', WHERE WHAT IT READS IS OF BULK AT MOST 1048576: true; the input reads as it did. -/
def fnExactUndoneUptoRow : OpenClaim := { program := "ytdpgeekhkfdgkaa", sum := "f7f11e348ce542ed4d012edd804eef2d18abb266769d0703a0aab16d05f482f2", func := "loop.example/wholelight/laws.FnExactUndone", spec := "fnExactUndone", apart := false, narrowed := true }
def FnExactUndoneUptoSaid : Prop := fnExactUndoneUptoRow.holds Try.pinned (OpenSpec.upto fnExactUndoneSpec)

/-- 'laws.FnExactTogether', WHERE WHAT IT READS IS OF BULK AT MOST 1048576: true; the input reads as it did. -/
def fnExactTogetherUptoRow : OpenClaim := { program := "ytdpgeekhkfdgkaa", sum := "f7f11e348ce542ed4d012edd804eef2d18abb266769d0703a0aab16d05f482f2", func := "loop.example/wholelight/laws.FnExactTogether", spec := "fnExactTogether", apart := false, narrowed := true }
def FnExactTogetherUptoSaid : Prop := fnExactTogetherUptoRow.holds Try.pinned (OpenSpec.upto fnExactTogetherSpec)

/-- 'laws.FnExactAllTurns', WHERE WHAT IT READS IS OF BULK AT MOST 1048576: true; the input reads as it did. -/
def fnExactAllTurnsUptoRow : OpenClaim := { program := "ytdpgeekhkfdgkaa", sum := "f7f11e348ce542ed4d012edd804eef2d18abb266769d0703a0aab16d05f482f2", func := "loop.example/wholelight/laws.FnExactAllTurns", spec := "fnExactAllTurns", apart := false, narrowed := true }
def FnExactAllTurnsUptoSaid : Prop := fnExactAllTurnsUptoRow.holds Try.pinned (OpenSpec.upto fnExactAllTurnsSpec)

/-- 'laws.FnExactHand', WHERE WHAT IT READS IS OF BULK AT MOST 1048576: true; the input reads as it did. -/
def fnExactHandUptoRow : OpenClaim := { program := "ytdpgeekhkfdgkaa", sum := "f7f11e348ce542ed4d012edd804eef2d18abb266769d0703a0aab16d05f482f2", func := "loop.example/wholelight/laws.FnExactHand", spec := "fnExactHand", apart := false, narrowed := true }
def FnExactHandUptoSaid : Prop := fnExactHandUptoRow.holds Try.pinned (OpenSpec.upto fnExactHandSpec)

end Rows
end Go.Proofs.Ytdpgeekhkfdgkaa
