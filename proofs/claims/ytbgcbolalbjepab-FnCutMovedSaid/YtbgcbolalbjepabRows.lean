/-
  No cell of these rows narrows 'for every input' (looked for: loops, veiled, ifaces, maps, wideKeys, modest, calm, conditions, laid).
  DERIVED. THE GIVEN ROWS OF THIS SEAT. 10 by the template 'for every input the law returns true; each argument reads behind the call as it read before'; 0 by the template 'total and deterministic' (their statements: YtbgcbolalbjepabTotals.lean).
  GIVEN WITH THE SEED: the statements are not yours to turn. If you find one false, say at which input.
  Laid BY PROGRAM, IN A SANDBOX (cutbox-rows.mjs): the forced cells as the released guide's own fill.sh prints them over the translation 69c0a3a625866a24… (all of the seat's roots in one cut). By AI agents, Wed Nov 11 2026. No macro, syntax, notation, axiom, sorry.
-/
import Derived.Test.YtbgcbolalbjepabChecked
import GoSem.Claim
import GoSem.ClaimJoined
import GoSem.ClaimMapViews
import Derived.JoinedTies
import Derived.KernelRfl
namespace Go.Proofs.Ytbgcbolalbjepab
/- THE CELL 'sum', in the pinned program and in every row, IS THE sha256 OF THE DUMP (.gsa) THAT YtbgcbolalbjepabProg.lean LOADS. Nothing in Lean hashes anything: it is a label: what it is worth is what the hold of that sum in a sandbox is worth. -/
noncomputable def Try.pinned : Pinned := { name := "ytbgcbolalbjepab", sum := "69c0a3a625866a24caa6401cab772330b1bc1d2af8dd604023c7b420b03ade60", checked := Try.checked }
namespace Rows
def none {H : Type} : Left H := { results := [], args := [] }

/-- 'laws.FnExactMoved': WHATEVER THE INPUT: true; the input reads as it did. -/
def fnExactMovedSpec : ChangeSpec := { name := "fnExactMoved", fn := fun _ => fun
  | [d1, d2] => { results := [.lit (.bool true)], args := [d1, d2] }
  | _ => none }
def fnExactMovedRow : OpenClaim := { program := "ytbgcbolalbjepab", sum := "69c0a3a625866a24caa6401cab772330b1bc1d2af8dd604023c7b420b03ade60", func := "loop.example/wholelight/laws.FnExactMoved", spec := "fnExactMoved", apart := false }
def FnExactMovedSaid : Prop := fnExactMovedRow.holds Try.pinned (OpenSpec.ofChange fnExactMovedSpec)

/-- ITS FALSE NEIGHBOUR: 'it returns false'. Refute it at one input. -/
def fnExactMovedWrong : ChangeSpec := { name := "fnExactMoved", fn := fun _ => fun
  | [d1, d2] => { results := [.lit (.bool false)], args := [d1, d2] }
  | _ => none }
def FnExactMovedWrongFalsely : Prop := fnExactMovedRow.holds Try.pinned (OpenSpec.ofChange fnExactMovedWrong)

/-- 'laws.FnExactTurned': WHATEVER THE INPUT: true; the input reads as it did. -/
def fnExactTurnedSpec : ChangeSpec := { name := "fnExactTurned", fn := fun _ => fun
  | [d1, d2] => { results := [.lit (.bool true)], args := [d1, d2] }
  | _ => none }
def fnExactTurnedRow : OpenClaim := { program := "ytbgcbolalbjepab", sum := "69c0a3a625866a24caa6401cab772330b1bc1d2af8dd604023c7b420b03ade60", func := "loop.example/wholelight/laws.FnExactTurned", spec := "fnExactTurned", apart := false }
def FnExactTurnedSaid : Prop := fnExactTurnedRow.holds Try.pinned (OpenSpec.ofChange fnExactTurnedSpec)

/-- ITS FALSE NEIGHBOUR: 'it returns false'. Refute it at one input. -/
def fnExactTurnedWrong : ChangeSpec := { name := "fnExactTurned", fn := fun _ => fun
  | [d1, d2] => { results := [.lit (.bool false)], args := [d1, d2] }
  | _ => none }
def FnExactTurnedWrongFalsely : Prop := fnExactTurnedRow.holds Try.pinned (OpenSpec.ofChange fnExactTurnedWrong)

/-- 'laws.FnExactUndone': WHATEVER THE INPUT: true; the input reads as it did. -/
def fnExactUndoneSpec : ChangeSpec := { name := "fnExactUndone", fn := fun _ => fun
  | [d] => { results := [.lit (.bool true)], args := [d] }
  | _ => none }
def fnExactUndoneRow : OpenClaim := { program := "ytbgcbolalbjepab", sum := "69c0a3a625866a24caa6401cab772330b1bc1d2af8dd604023c7b420b03ade60", func := "loop.example/wholelight/laws.FnExactUndone", spec := "fnExactUndone", apart := false }
def FnExactUndoneSaid : Prop := fnExactUndoneRow.holds Try.pinned (OpenSpec.ofChange fnExactUndoneSpec)

/-- ITS FALSE NEIGHBOUR: 'it returns false'. Refute it at one input. -/
def fnExactUndoneWrong : ChangeSpec := { name := "fnExactUndone", fn := fun _ => fun
  | [d] => { results := [.lit (.bool false)], args := [d] }
  | _ => none }
def FnExactUndoneWrongFalsely : Prop := fnExactUndoneRow.holds Try.pinned (OpenSpec.ofChange fnExactUndoneWrong)

/-- 'laws.FnExactTogether': WHATEVER THE INPUT: true; the input reads as it did. -/
def fnExactTogetherSpec : ChangeSpec := { name := "fnExactTogether", fn := fun _ => fun
  | [d1, d2] => { results := [.lit (.bool true)], args := [d1, d2] }
  | _ => none }
def fnExactTogetherRow : OpenClaim := { program := "ytbgcbolalbjepab", sum := "69c0a3a625866a24caa6401cab772330b1bc1d2af8dd604023c7b420b03ade60", func := "loop.example/wholelight/laws.FnExactTogether", spec := "fnExactTogether", apart := false }
def FnExactTogetherSaid : Prop := fnExactTogetherRow.holds Try.pinned (OpenSpec.ofChange fnExactTogetherSpec)

/-- ITS FALSE NEIGHBOUR: 'it returns false'. Refute it at one input. -/
def fnExactTogetherWrong : ChangeSpec := { name := "fnExactTogether", fn := fun _ => fun
  | [d1, d2] => { results := [.lit (.bool false)], args := [d1, d2] }
  | _ => none }
def FnExactTogetherWrongFalsely : Prop := fnExactTogetherRow.holds Try.pinned (OpenSpec.ofChange fnExactTogetherWrong)

/-- 'laws.FnExactRayMoved': WHATEVER THE INPUT: true; the input reads as it did. -/
def fnExactRayMovedSpec : ChangeSpec := { name := "fnExactRayMoved", fn := fun _ => fun
  | [d1, d2] => { results := [.lit (.bool true)], args := [d1, d2] }
  | _ => none }
def fnExactRayMovedRow : OpenClaim := { program := "ytbgcbolalbjepab", sum := "69c0a3a625866a24caa6401cab772330b1bc1d2af8dd604023c7b420b03ade60", func := "loop.example/wholelight/laws.FnExactRayMoved", spec := "fnExactRayMoved", apart := false }
def FnExactRayMovedSaid : Prop := fnExactRayMovedRow.holds Try.pinned (OpenSpec.ofChange fnExactRayMovedSpec)

/-- ITS FALSE NEIGHBOUR: 'it returns false'. Refute it at one input. -/
def fnExactRayMovedWrong : ChangeSpec := { name := "fnExactRayMoved", fn := fun _ => fun
  | [d1, d2] => { results := [.lit (.bool false)], args := [d1, d2] }
  | _ => none }
def FnExactRayMovedWrongFalsely : Prop := fnExactRayMovedRow.holds Try.pinned (OpenSpec.ofChange fnExactRayMovedWrong)

/-- 'laws.FnExactHalfMoved': WHATEVER THE INPUT: true; the input reads as it did. -/
def fnExactHalfMovedSpec : ChangeSpec := { name := "fnExactHalfMoved", fn := fun _ => fun
  | [d1, d2] => { results := [.lit (.bool true)], args := [d1, d2] }
  | _ => none }
def fnExactHalfMovedRow : OpenClaim := { program := "ytbgcbolalbjepab", sum := "69c0a3a625866a24caa6401cab772330b1bc1d2af8dd604023c7b420b03ade60", func := "loop.example/wholelight/laws.FnExactHalfMoved", spec := "fnExactHalfMoved", apart := false }
def FnExactHalfMovedSaid : Prop := fnExactHalfMovedRow.holds Try.pinned (OpenSpec.ofChange fnExactHalfMovedSpec)

/-- ITS FALSE NEIGHBOUR: 'it returns false'. Refute it at one input. -/
def fnExactHalfMovedWrong : ChangeSpec := { name := "fnExactHalfMoved", fn := fun _ => fun
  | [d1, d2] => { results := [.lit (.bool false)], args := [d1, d2] }
  | _ => none }
def FnExactHalfMovedWrongFalsely : Prop := fnExactHalfMovedRow.holds Try.pinned (OpenSpec.ofChange fnExactHalfMovedWrong)

/-- 'laws.FnExactBallMoved': WHATEVER THE INPUT: true; the input reads as it did. -/
def fnExactBallMovedSpec : ChangeSpec := { name := "fnExactBallMoved", fn := fun _ => fun
  | [d1, d2] => { results := [.lit (.bool true)], args := [d1, d2] }
  | _ => none }
def fnExactBallMovedRow : OpenClaim := { program := "ytbgcbolalbjepab", sum := "69c0a3a625866a24caa6401cab772330b1bc1d2af8dd604023c7b420b03ade60", func := "loop.example/wholelight/laws.FnExactBallMoved", spec := "fnExactBallMoved", apart := false }
def FnExactBallMovedSaid : Prop := fnExactBallMovedRow.holds Try.pinned (OpenSpec.ofChange fnExactBallMovedSpec)

/-- ITS FALSE NEIGHBOUR: 'it returns false'. Refute it at one input. -/
def fnExactBallMovedWrong : ChangeSpec := { name := "fnExactBallMoved", fn := fun _ => fun
  | [d1, d2] => { results := [.lit (.bool false)], args := [d1, d2] }
  | _ => none }
def FnExactBallMovedWrongFalsely : Prop := fnExactBallMovedRow.holds Try.pinned (OpenSpec.ofChange fnExactBallMovedWrong)

/-- 'laws.FnTurned': WHATEVER THE INPUT: true; the input reads as it did. -/
def fnTurnedSpec : ChangeSpec := { name := "fnTurned", fn := fun _ => fun
  | [d] => { results := [.lit (.bool true)], args := [d] }
  | _ => none }
def fnTurnedRow : OpenClaim := { program := "ytbgcbolalbjepab", sum := "69c0a3a625866a24caa6401cab772330b1bc1d2af8dd604023c7b420b03ade60", func := "loop.example/wholelight/laws.FnTurned", spec := "fnTurned", apart := false }
def FnTurnedSaid : Prop := fnTurnedRow.holds Try.pinned (OpenSpec.ofChange fnTurnedSpec)

/-- ITS FALSE NEIGHBOUR: 'it returns false'. Refute it at one input. -/
def fnTurnedWrong : ChangeSpec := { name := "fnTurned", fn := fun _ => fun
  | [d] => { results := [.lit (.bool false)], args := [d] }
  | _ => none }
def FnTurnedWrongFalsely : Prop := fnTurnedRow.holds Try.pinned (OpenSpec.ofChange fnTurnedWrong)

/-- 'laws.FnMotions': WHATEVER THE INPUT: true; the input reads as it did. -/
def fnMotionsSpec : ChangeSpec := { name := "fnMotions", fn := fun _ => fun
  | [d] => { results := [.lit (.bool true)], args := [d] }
  | _ => none }
def fnMotionsRow : OpenClaim := { program := "ytbgcbolalbjepab", sum := "69c0a3a625866a24caa6401cab772330b1bc1d2af8dd604023c7b420b03ade60", func := "loop.example/wholelight/laws.FnMotions", spec := "fnMotions", apart := false }
def FnMotionsSaid : Prop := fnMotionsRow.holds Try.pinned (OpenSpec.ofChange fnMotionsSpec)

/-- ITS FALSE NEIGHBOUR: 'it returns false'. Refute it at one input. -/
def fnMotionsWrong : ChangeSpec := { name := "fnMotions", fn := fun _ => fun
  | [d] => { results := [.lit (.bool false)], args := [d] }
  | _ => none }
def FnMotionsWrongFalsely : Prop := fnMotionsRow.holds Try.pinned (OpenSpec.ofChange fnMotionsWrong)

/-- 'laws.FnCutMoved': WHATEVER THE INPUT: true; the input reads as it did. -/
def fnCutMovedSpec : ChangeSpec := { name := "fnCutMoved", fn := fun _ => fun
  | [d] => { results := [.lit (.bool true)], args := [d] }
  | _ => none }
def fnCutMovedRow : OpenClaim := { program := "ytbgcbolalbjepab", sum := "69c0a3a625866a24caa6401cab772330b1bc1d2af8dd604023c7b420b03ade60", func := "loop.example/wholelight/laws.FnCutMoved", spec := "fnCutMoved", apart := false }
def FnCutMovedSaid : Prop := fnCutMovedRow.holds Try.pinned (OpenSpec.ofChange fnCutMovedSpec)

/-- ITS FALSE NEIGHBOUR: 'it returns false'. Refute it at one input. -/
def fnCutMovedWrong : ChangeSpec := { name := "fnCutMoved", fn := fun _ => fun
  | [d] => { results := [.lit (.bool false)], args := [d] }
  | _ => none }
def FnCutMovedWrongFalsely : Prop := fnCutMovedRow.holds Try.pinned (OpenSpec.ofChange fnCutMovedWrong)

/- THE SECOND FORM. 'bulk': how many values and letters a reading holds, each counted each time it is reached (what is shared counts as often as it is met; a slice's spare places count too). A statement '..UptoSaid' is the law's where the arguments, and the package variables that the reading takes, are together of bulk at most 1048576: NARROWER than '..Said'. Prove '..Said' where nothing that the law and all that it calls make is longer than what came in: it says more and counts as full. Else prove '..UptoSaid'. A law counts once. -/
mutual
def uptoBulk {H : Type} : DataW H → Nat
  | .lit (.string bytes) => bytes.length + 1
  | .lit _ => 1
  | .nil => 1
  | .ptr d => uptoBulk d + 1
  | .slice elems spare => uptoBulkAll elems + uptoBulkAll spare + 1
  | .agg parts => uptoBulkAll parts + 1
  | .iface _ d => uptoBulk d + 1
  | .map entries => uptoBulkEntries entries + 1
  | .held _ => 1
def uptoBulkAll {H : Type} : List (DataW H) → Nat
  | [] => 0
  | d :: r => uptoBulk d + uptoBulkAll r
def uptoBulkEntries {H : Type} : List (Lit × DataW H) → Nat
  | [] => 0
  | x :: r => uptoBulkEntry x + uptoBulkEntries r
def uptoBulkEntry {H : Type} : Lit × DataW H → Nat
  | (.string bytes, d) => bytes.length + uptoBulk d + 1
  | (_, d) => uptoBulk d + 1
 end
def uptoSmall : (H : Type) → List (DataW H) → Bool := fun _ ds => decide (uptoBulkAll ds ≤ 1048576)
def OpenSpec.upto (s : _root_.Go.ChangeSpec) : _root_.Go.OpenSpec := { _root_.Go.OpenSpec.ofChange s with cond := some uptoSmall }

/-- 'laws.FnExactMoved', WHERE WHAT IT READS IS OF BULK AT MOST 1048576: true; the input reads as it did. -/
def fnExactMovedUptoRow : OpenClaim := { program := "ytbgcbolalbjepab", sum := "69c0a3a625866a24caa6401cab772330b1bc1d2af8dd604023c7b420b03ade60", func := "loop.example/wholelight/laws.FnExactMoved", spec := "fnExactMoved", apart := false, narrowed := true }
def FnExactMovedUptoSaid : Prop := fnExactMovedUptoRow.holds Try.pinned (OpenSpec.upto fnExactMovedSpec)

/-- 'laws.FnExactTurned', WHERE WHAT IT READS IS OF BULK AT MOST 1048576: true; the input reads as it did. -/
def fnExactTurnedUptoRow : OpenClaim := { program := "ytbgcbolalbjepab", sum := "69c0a3a625866a24caa6401cab772330b1bc1d2af8dd604023c7b420b03ade60", func := "loop.example/wholelight/laws.FnExactTurned", spec := "fnExactTurned", apart := false, narrowed := true }
def FnExactTurnedUptoSaid : Prop := fnExactTurnedUptoRow.holds Try.pinned (OpenSpec.upto fnExactTurnedSpec)

/-- 'laws.FnExactUndone', WHERE WHAT IT READS IS OF BULK AT MOST 1048576: true; the input reads as it did. -/
def fnExactUndoneUptoRow : OpenClaim := { program := "ytbgcbolalbjepab", sum := "69c0a3a625866a24caa6401cab772330b1bc1d2af8dd604023c7b420b03ade60", func := "loop.example/wholelight/laws.FnExactUndone", spec := "fnExactUndone", apart := false, narrowed := true }
def FnExactUndoneUptoSaid : Prop := fnExactUndoneUptoRow.holds Try.pinned (OpenSpec.upto fnExactUndoneSpec)

/-- 'laws.FnExactTogether', WHERE WHAT IT READS IS OF BULK AT MOST 1048576: true; the input reads as it did. -/
def fnExactTogetherUptoRow : OpenClaim := { program := "ytbgcbolalbjepab", sum := "69c0a3a625866a24caa6401cab772330b1bc1d2af8dd604023c7b420b03ade60", func := "loop.example/wholelight/laws.FnExactTogether", spec := "fnExactTogether", apart := false, narrowed := true }
def FnExactTogetherUptoSaid : Prop := fnExactTogetherUptoRow.holds Try.pinned (OpenSpec.upto fnExactTogetherSpec)

/-- 'laws.FnExactRayMoved', WHERE WHAT IT READS IS OF BULK AT MOST 1048576: true; the input reads as it did. -/
def fnExactRayMovedUptoRow : OpenClaim := { program := "ytbgcbolalbjepab", sum := "69c0a3a625866a24caa6401cab772330b1bc1d2af8dd604023c7b420b03ade60", func := "loop.example/wholelight/laws.FnExactRayMoved", spec := "fnExactRayMoved", apart := false, narrowed := true }
def FnExactRayMovedUptoSaid : Prop := fnExactRayMovedUptoRow.holds Try.pinned (OpenSpec.upto fnExactRayMovedSpec)

/-- 'laws.FnExactHalfMoved', WHERE WHAT IT READS IS OF BULK AT MOST 1048576: true; the input reads as it did. -/
def fnExactHalfMovedUptoRow : OpenClaim := { program := "ytbgcbolalbjepab", sum := "69c0a3a625866a24caa6401cab772330b1bc1d2af8dd604023c7b420b03ade60", func := "loop.example/wholelight/laws.FnExactHalfMoved", spec := "fnExactHalfMoved", apart := false, narrowed := true }
def FnExactHalfMovedUptoSaid : Prop := fnExactHalfMovedUptoRow.holds Try.pinned (OpenSpec.upto fnExactHalfMovedSpec)

/-- 'laws.FnExactBallMoved', WHERE WHAT IT READS IS OF BULK AT MOST 1048576: true; the input reads as it did. -/
def fnExactBallMovedUptoRow : OpenClaim := { program := "ytbgcbolalbjepab", sum := "69c0a3a625866a24caa6401cab772330b1bc1d2af8dd604023c7b420b03ade60", func := "loop.example/wholelight/laws.FnExactBallMoved", spec := "fnExactBallMoved", apart := false, narrowed := true }
def FnExactBallMovedUptoSaid : Prop := fnExactBallMovedUptoRow.holds Try.pinned (OpenSpec.upto fnExactBallMovedSpec)

/-- 'laws.FnTurned', WHERE WHAT IT READS IS OF BULK AT MOST 1048576: true; the input reads as it did. -/
def fnTurnedUptoRow : OpenClaim := { program := "ytbgcbolalbjepab", sum := "69c0a3a625866a24caa6401cab772330b1bc1d2af8dd604023c7b420b03ade60", func := "loop.example/wholelight/laws.FnTurned", spec := "fnTurned", apart := false, narrowed := true }
def FnTurnedUptoSaid : Prop := fnTurnedUptoRow.holds Try.pinned (OpenSpec.upto fnTurnedSpec)

/-- 'laws.FnMotions', WHERE WHAT IT READS IS OF BULK AT MOST 1048576: true; the input reads as it did. -/
def fnMotionsUptoRow : OpenClaim := { program := "ytbgcbolalbjepab", sum := "69c0a3a625866a24caa6401cab772330b1bc1d2af8dd604023c7b420b03ade60", func := "loop.example/wholelight/laws.FnMotions", spec := "fnMotions", apart := false, narrowed := true }
def FnMotionsUptoSaid : Prop := fnMotionsUptoRow.holds Try.pinned (OpenSpec.upto fnMotionsSpec)

/-- 'laws.FnCutMoved', WHERE WHAT IT READS IS OF BULK AT MOST 1048576: true; the input reads as it did. -/
def fnCutMovedUptoRow : OpenClaim := { program := "ytbgcbolalbjepab", sum := "69c0a3a625866a24caa6401cab772330b1bc1d2af8dd604023c7b420b03ade60", func := "loop.example/wholelight/laws.FnCutMoved", spec := "fnCutMoved", apart := false, narrowed := true }
def FnCutMovedUptoSaid : Prop := fnCutMovedUptoRow.holds Try.pinned (OpenSpec.upto fnCutMovedSpec)

end Rows
end Go.Proofs.Ytbgcbolalbjepab
