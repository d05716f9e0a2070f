/-
  No cell of these rows narrows 'for every input' (looked for: loops, veiled, ifaces, maps, wideKeys, modest, calm, conditions, laid).
  DERIVED. THE GIVEN ROWS OF THIS SEAT. 12 by the template 'for every input the law returns true; each argument reads behind the call as it read before'; 0 by the template 'total and deterministic' (their statements: YtacglgbjmdhmhaaTotals.lean).
  GIVEN WITH THE SEED: the statements are not yours to turn. If you find one false, say at which input.
  Laid BY PROGRAM, IN A SANDBOX (cutbox-rows.mjs): the forced cells as the released guide's own fill.sh prints them over the translation b3ab239d1acf3e10… (all of the seat's roots in one cut). By AI agents, Wed Nov 11 2026. No macro, syntax, notation, axiom, sorry.
-/
import Derived.Test.YtacglgbjmdhmhaaChecked
import GoSem.Claim
import GoSem.ClaimJoined
import GoSem.ClaimMapViews
import Derived.JoinedTies
import Derived.KernelRfl
namespace Go.Proofs.Ytacglgbjmdhmhaa
/- THE CELL 'sum', in the pinned program and in every row, IS THE sha256 OF THE DUMP (.gsa) THAT YtacglgbjmdhmhaaProg.lean LOADS. Nothing in Lean hashes anything: it is a label: what it is worth is what the hold of that sum in a sandbox is worth. -/
noncomputable def Try.pinned : Pinned := { name := "ytacglgbjmdhmhaa", sum := "b3ab239d1acf3e105d8c34e3d191e9071425cdf630bf64ac1cb9557d955b3122", checked := Try.checked }
namespace Rows
def none {H : Type} : Left H := { results := [], args := [] }

/-- 'laws.FnExactRayOk': WHATEVER THE INPUT: true; the input reads as it did. -/
def fnExactRayOkSpec : ChangeSpec := { name := "fnExactRayOk", fn := fun _ => fun
  | [d] => { results := [.lit (.bool true)], args := [d] }
  | _ => none }
def fnExactRayOkRow : OpenClaim := { program := "ytacglgbjmdhmhaa", sum := "b3ab239d1acf3e105d8c34e3d191e9071425cdf630bf64ac1cb9557d955b3122", func := "loop.example/wholelight/laws.FnExactRayOk", spec := "fnExactRayOk", apart := false }
def FnExactRayOkSaid : Prop := fnExactRayOkRow.holds Try.pinned (OpenSpec.ofChange fnExactRayOkSpec)

/-- ITS FALSE NEIGHBOUR: 'it returns false'. Refute it at one input. -/
def fnExactRayOkWrong : ChangeSpec := { name := "fnExactRayOk", fn := fun _ => fun
  | [d] => { results := [.lit (.bool false)], args := [d] }
  | _ => none }
def FnExactRayOkWrongFalsely : Prop := fnExactRayOkRow.holds Try.pinned (OpenSpec.ofChange fnExactRayOkWrong)

/-- 'laws.FnExactRayAt': WHATEVER THE INPUT: true; the input reads as it did. -/
def fnExactRayAtSpec : ChangeSpec := { name := "fnExactRayAt", fn := fun _ => fun
  | [d1, d2] => { results := [.lit (.bool true)], args := [d1, d2] }
  | _ => none }
def fnExactRayAtRow : OpenClaim := { program := "ytacglgbjmdhmhaa", sum := "b3ab239d1acf3e105d8c34e3d191e9071425cdf630bf64ac1cb9557d955b3122", func := "loop.example/wholelight/laws.FnExactRayAt", spec := "fnExactRayAt", apart := false }
def FnExactRayAtSaid : Prop := fnExactRayAtRow.holds Try.pinned (OpenSpec.ofChange fnExactRayAtSpec)

/-- ITS FALSE NEIGHBOUR: 'it returns false'. Refute it at one input. -/
def fnExactRayAtWrong : ChangeSpec := { name := "fnExactRayAt", fn := fun _ => fun
  | [d1, d2] => { results := [.lit (.bool false)], args := [d1, d2] }
  | _ => none }
def FnExactRayAtWrongFalsely : Prop := fnExactRayAtRow.holds Try.pinned (OpenSpec.ofChange fnExactRayAtWrong)

/-- 'laws.FnExactRayMoved': WHATEVER THE INPUT: true; the input reads as it did. -/
def fnExactRayMovedSpec : ChangeSpec := { name := "fnExactRayMoved", fn := fun _ => fun
  | [d1, d2] => { results := [.lit (.bool true)], args := [d1, d2] }
  | _ => none }
def fnExactRayMovedRow : OpenClaim := { program := "ytacglgbjmdhmhaa", sum := "b3ab239d1acf3e105d8c34e3d191e9071425cdf630bf64ac1cb9557d955b3122", func := "loop.example/wholelight/laws.FnExactRayMoved", spec := "fnExactRayMoved", apart := false }
def FnExactRayMovedSaid : Prop := fnExactRayMovedRow.holds Try.pinned (OpenSpec.ofChange fnExactRayMovedSpec)

/-- ITS FALSE NEIGHBOUR: 'it returns false'. Refute it at one input. -/
def fnExactRayMovedWrong : ChangeSpec := { name := "fnExactRayMoved", fn := fun _ => fun
  | [d1, d2] => { results := [.lit (.bool false)], args := [d1, d2] }
  | _ => none }
def FnExactRayMovedWrongFalsely : Prop := fnExactRayMovedRow.holds Try.pinned (OpenSpec.ofChange fnExactRayMovedWrong)

/-- 'laws.FnExactHalfOk': WHATEVER THE INPUT: true; the input reads as it did. -/
def fnExactHalfOkSpec : ChangeSpec := { name := "fnExactHalfOk", fn := fun _ => fun
  | [d] => { results := [.lit (.bool true)], args := [d] }
  | _ => none }
def fnExactHalfOkRow : OpenClaim := { program := "ytacglgbjmdhmhaa", sum := "b3ab239d1acf3e105d8c34e3d191e9071425cdf630bf64ac1cb9557d955b3122", func := "loop.example/wholelight/laws.FnExactHalfOk", spec := "fnExactHalfOk", apart := false }
def FnExactHalfOkSaid : Prop := fnExactHalfOkRow.holds Try.pinned (OpenSpec.ofChange fnExactHalfOkSpec)

/-- ITS FALSE NEIGHBOUR: 'it returns false'. Refute it at one input. -/
def fnExactHalfOkWrong : ChangeSpec := { name := "fnExactHalfOk", fn := fun _ => fun
  | [d] => { results := [.lit (.bool false)], args := [d] }
  | _ => none }
def FnExactHalfOkWrongFalsely : Prop := fnExactHalfOkRow.holds Try.pinned (OpenSpec.ofChange fnExactHalfOkWrong)

/-- 'laws.FnExactHalfHas': WHATEVER THE INPUT: true; the input reads as it did. -/
def fnExactHalfHasSpec : ChangeSpec := { name := "fnExactHalfHas", fn := fun _ => fun
  | [d1, d2] => { results := [.lit (.bool true)], args := [d1, d2] }
  | _ => none }
def fnExactHalfHasRow : OpenClaim := { program := "ytacglgbjmdhmhaa", sum := "b3ab239d1acf3e105d8c34e3d191e9071425cdf630bf64ac1cb9557d955b3122", func := "loop.example/wholelight/laws.FnExactHalfHas", spec := "fnExactHalfHas", apart := false }
def FnExactHalfHasSaid : Prop := fnExactHalfHasRow.holds Try.pinned (OpenSpec.ofChange fnExactHalfHasSpec)

/-- ITS FALSE NEIGHBOUR: 'it returns false'. Refute it at one input. -/
def fnExactHalfHasWrong : ChangeSpec := { name := "fnExactHalfHas", fn := fun _ => fun
  | [d1, d2] => { results := [.lit (.bool false)], args := [d1, d2] }
  | _ => none }
def FnExactHalfHasWrongFalsely : Prop := fnExactHalfHasRow.holds Try.pinned (OpenSpec.ofChange fnExactHalfHasWrong)

/-- 'laws.FnExactHalfCut': WHATEVER THE INPUT: true; the input reads as it did. -/
def fnExactHalfCutSpec : ChangeSpec := { name := "fnExactHalfCut", fn := fun _ => fun
  | [d1, d2] => { results := [.lit (.bool true)], args := [d1, d2] }
  | _ => none }
def fnExactHalfCutRow : OpenClaim := { program := "ytacglgbjmdhmhaa", sum := "b3ab239d1acf3e105d8c34e3d191e9071425cdf630bf64ac1cb9557d955b3122", func := "loop.example/wholelight/laws.FnExactHalfCut", spec := "fnExactHalfCut", apart := false }
def FnExactHalfCutSaid : Prop := fnExactHalfCutRow.holds Try.pinned (OpenSpec.ofChange fnExactHalfCutSpec)

/-- ITS FALSE NEIGHBOUR: 'it returns false'. Refute it at one input. -/
def fnExactHalfCutWrong : ChangeSpec := { name := "fnExactHalfCut", fn := fun _ => fun
  | [d1, d2] => { results := [.lit (.bool false)], args := [d1, d2] }
  | _ => none }
def FnExactHalfCutWrongFalsely : Prop := fnExactHalfCutRow.holds Try.pinned (OpenSpec.ofChange fnExactHalfCutWrong)

/-- 'laws.FnExactHalfMoved': WHATEVER THE INPUT: true; the input reads as it did. -/
def fnExactHalfMovedSpec : ChangeSpec := { name := "fnExactHalfMoved", fn := fun _ => fun
  | [d1, d2] => { results := [.lit (.bool true)], args := [d1, d2] }
  | _ => none }
def fnExactHalfMovedRow : OpenClaim := { program := "ytacglgbjmdhmhaa", sum := "b3ab239d1acf3e105d8c34e3d191e9071425cdf630bf64ac1cb9557d955b3122", func := "loop.example/wholelight/laws.FnExactHalfMoved", spec := "fnExactHalfMoved", apart := false }
def FnExactHalfMovedSaid : Prop := fnExactHalfMovedRow.holds Try.pinned (OpenSpec.ofChange fnExactHalfMovedSpec)

/-- ITS FALSE NEIGHBOUR: 'it returns false'. Refute it at one input. -/
def fnExactHalfMovedWrong : ChangeSpec := { name := "fnExactHalfMoved", fn := fun _ => fun
  | [d1, d2] => { results := [.lit (.bool false)], args := [d1, d2] }
  | _ => none }
def FnExactHalfMovedWrongFalsely : Prop := fnExactHalfMovedRow.holds Try.pinned (OpenSpec.ofChange fnExactHalfMovedWrong)

/-- 'laws.FnExactBallOk': WHATEVER THE INPUT: true; the input reads as it did. -/
def fnExactBallOkSpec : ChangeSpec := { name := "fnExactBallOk", fn := fun _ => fun
  | [d] => { results := [.lit (.bool true)], args := [d] }
  | _ => none }
def fnExactBallOkRow : OpenClaim := { program := "ytacglgbjmdhmhaa", sum := "b3ab239d1acf3e105d8c34e3d191e9071425cdf630bf64ac1cb9557d955b3122", func := "loop.example/wholelight/laws.FnExactBallOk", spec := "fnExactBallOk", apart := false }
def FnExactBallOkSaid : Prop := fnExactBallOkRow.holds Try.pinned (OpenSpec.ofChange fnExactBallOkSpec)

/-- ITS FALSE NEIGHBOUR: 'it returns false'. Refute it at one input. -/
def fnExactBallOkWrong : ChangeSpec := { name := "fnExactBallOk", fn := fun _ => fun
  | [d] => { results := [.lit (.bool false)], args := [d] }
  | _ => none }
def FnExactBallOkWrongFalsely : Prop := fnExactBallOkRow.holds Try.pinned (OpenSpec.ofChange fnExactBallOkWrong)

/-- 'laws.FnExactBallHas': WHATEVER THE INPUT: true; the input reads as it did. -/
def fnExactBallHasSpec : ChangeSpec := { name := "fnExactBallHas", fn := fun _ => fun
  | [d1, d2] => { results := [.lit (.bool true)], args := [d1, d2] }
  | _ => none }
def fnExactBallHasRow : OpenClaim := { program := "ytacglgbjmdhmhaa", sum := "b3ab239d1acf3e105d8c34e3d191e9071425cdf630bf64ac1cb9557d955b3122", func := "loop.example/wholelight/laws.FnExactBallHas", spec := "fnExactBallHas", apart := false }
def FnExactBallHasSaid : Prop := fnExactBallHasRow.holds Try.pinned (OpenSpec.ofChange fnExactBallHasSpec)

/-- ITS FALSE NEIGHBOUR: 'it returns false'. Refute it at one input. -/
def fnExactBallHasWrong : ChangeSpec := { name := "fnExactBallHas", fn := fun _ => fun
  | [d1, d2] => { results := [.lit (.bool false)], args := [d1, d2] }
  | _ => none }
def FnExactBallHasWrongFalsely : Prop := fnExactBallHasRow.holds Try.pinned (OpenSpec.ofChange fnExactBallHasWrong)

/-- 'laws.FnExactBallCut': WHATEVER THE INPUT: true; the input reads as it did. -/
def fnExactBallCutSpec : ChangeSpec := { name := "fnExactBallCut", fn := fun _ => fun
  | [d1, d2] => { results := [.lit (.bool true)], args := [d1, d2] }
  | _ => none }
def fnExactBallCutRow : OpenClaim := { program := "ytacglgbjmdhmhaa", sum := "b3ab239d1acf3e105d8c34e3d191e9071425cdf630bf64ac1cb9557d955b3122", func := "loop.example/wholelight/laws.FnExactBallCut", spec := "fnExactBallCut", apart := false }
def FnExactBallCutSaid : Prop := fnExactBallCutRow.holds Try.pinned (OpenSpec.ofChange fnExactBallCutSpec)

/-- ITS FALSE NEIGHBOUR: 'it returns false'. Refute it at one input. -/
def fnExactBallCutWrong : ChangeSpec := { name := "fnExactBallCut", fn := fun _ => fun
  | [d1, d2] => { results := [.lit (.bool false)], args := [d1, d2] }
  | _ => none }
def FnExactBallCutWrongFalsely : Prop := fnExactBallCutRow.holds Try.pinned (OpenSpec.ofChange fnExactBallCutWrong)

/-- 'laws.FnExactBallMoved': WHATEVER THE INPUT: true; the input reads as it did. -/
def fnExactBallMovedSpec : ChangeSpec := { name := "fnExactBallMoved", fn := fun _ => fun
  | [d1, d2] => { results := [.lit (.bool true)], args := [d1, d2] }
  | _ => none }
def fnExactBallMovedRow : OpenClaim := { program := "ytacglgbjmdhmhaa", sum := "b3ab239d1acf3e105d8c34e3d191e9071425cdf630bf64ac1cb9557d955b3122", func := "loop.example/wholelight/laws.FnExactBallMoved", spec := "fnExactBallMoved", apart := false }
def FnExactBallMovedSaid : Prop := fnExactBallMovedRow.holds Try.pinned (OpenSpec.ofChange fnExactBallMovedSpec)

/-- ITS FALSE NEIGHBOUR: 'it returns false'. Refute it at one input. -/
def fnExactBallMovedWrong : ChangeSpec := { name := "fnExactBallMoved", fn := fun _ => fun
  | [d1, d2] => { results := [.lit (.bool false)], args := [d1, d2] }
  | _ => none }
def FnExactBallMovedWrongFalsely : Prop := fnExactBallMovedRow.holds Try.pinned (OpenSpec.ofChange fnExactBallMovedWrong)

/-- 'laws.FnMotions': WHATEVER THE INPUT: true; the input reads as it did. -/
def fnMotionsSpec : ChangeSpec := { name := "fnMotions", fn := fun _ => fun
  | [d] => { results := [.lit (.bool true)], args := [d] }
  | _ => none }
def fnMotionsRow : OpenClaim := { program := "ytacglgbjmdhmhaa", sum := "b3ab239d1acf3e105d8c34e3d191e9071425cdf630bf64ac1cb9557d955b3122", func := "loop.example/wholelight/laws.FnMotions", spec := "fnMotions", apart := false }
def FnMotionsSaid : Prop := fnMotionsRow.holds Try.pinned (OpenSpec.ofChange fnMotionsSpec)

/-- ITS FALSE NEIGHBOUR: 'it returns false'. Refute it at one input. -/
def fnMotionsWrong : ChangeSpec := { name := "fnMotions", fn := fun _ => fun
  | [d] => { results := [.lit (.bool false)], args := [d] }
  | _ => none }
def FnMotionsWrongFalsely : Prop := fnMotionsRow.holds Try.pinned (OpenSpec.ofChange fnMotionsWrong)

/- THE SECOND FORM. 'bulk': how many values and letters a reading holds, each counted each time it is reached (what is shared counts as often as it is met; a slice's spare places count too). A statement '..UptoSaid' is the law's where the arguments, and the package variables that the reading takes, are together of bulk at most 1048576: NARROWER than '..Said'. Prove '..Said' where nothing that the law and all that it calls make is longer than what came in: it says more and counts as full. Else prove '..UptoSaid'. A law counts once. -/
mutual
def uptoBulk {H : Type} : DataW H → Nat
  | .lit (.string bytes) => bytes.length + 1
  | .lit _ => 1
  | .nil => 1
  | .ptr d => uptoBulk d + 1
  | .slice elems spare => uptoBulkAll elems + uptoBulkAll spare + 1
  | .agg parts => uptoBulkAll parts + 1
  | .iface _ d => uptoBulk d + 1
  | .map entries => uptoBulkEntries entries + 1
  | .held _ => 1
def uptoBulkAll {H : Type} : List (DataW H) → Nat
  | [] => 0
  | d :: r => uptoBulk d + uptoBulkAll r
def uptoBulkEntries {H : Type} : List (Lit × DataW H) → Nat
  | [] => 0
  | x :: r => uptoBulkEntry x + uptoBulkEntries r
def uptoBulkEntry {H : Type} : Lit × DataW H → Nat
  | (.string bytes, d) => bytes.length + uptoBulk d + 1
  | (_, d) => uptoBulk d + 1
 end
def uptoSmall : (H : Type) → List (DataW H) → Bool := fun _ ds => decide (uptoBulkAll ds ≤ 1048576)
def OpenSpec.upto (s : _root_.Go.ChangeSpec) : _root_.Go.OpenSpec := { _root_.Go.OpenSpec.ofChange s with cond := some uptoSmall }

/-- 'laws.FnExactRayOk', WHERE WHAT IT READS IS OF BULK AT MOST 1048576: true; the input reads as it did. -/
def fnExactRayOkUptoRow : OpenClaim := { program := "ytacglgbjmdhmhaa", sum := "b3ab239d1acf3e105d8c34e3d191e9071425cdf630bf64ac1cb9557d955b3122", func := "loop.example/wholelight/laws.FnExactRayOk", spec := "fnExactRayOk", apart := false, narrowed := true }
def FnExactRayOkUptoSaid : Prop := fnExactRayOkUptoRow.holds Try.pinned (OpenSpec.upto fnExactRayOkSpec)

/-- 'laws.FnExactRayAt', WHERE WHAT IT READS IS OF BULK AT MOST 1048576: true; the input reads as it did. -/
def fnExactRayAtUptoRow : OpenClaim := { program := "ytacglgbjmdhmhaa", sum := "b3ab239d1acf3e105d8c34e3d191e9071425cdf630bf64ac1cb9557d955b3122", func := "loop.example/wholelight/laws.FnExactRayAt", spec := "fnExactRayAt", apart := false, narrowed := true }
def FnExactRayAtUptoSaid : Prop := fnExactRayAtUptoRow.holds Try.pinned (OpenSpec.upto fnExactRayAtSpec)

/-- 'laws.FnExactRayMoved', WHERE WHAT IT READS IS OF BULK AT MOST 1048576: true; the input reads as it did. -/
def fnExactRayMovedUptoRow : OpenClaim := { program := "ytacglgbjmdhmhaa", sum := "b3ab239d1acf3e105d8c34e3d191e9071425cdf630bf64ac1cb9557d955b3122", func := "loop.example/wholelight/laws.FnExactRayMoved", spec := "fnExactRayMoved", apart := false, narrowed := true }
def FnExactRayMovedUptoSaid : Prop := fnExactRayMovedUptoRow.holds Try.pinned (OpenSpec.upto fnExactRayMovedSpec)

/-- 'laws.FnExactHalfOk', WHERE WHAT IT READS IS OF BULK AT MOST 1048576: true; the input reads as it did. -/
def fnExactHalfOkUptoRow : OpenClaim := { program := "ytacglgbjmdhmhaa", sum := "b3ab239d1acf3e105d8c34e3d191e9071425cdf630bf64ac1cb9557d955b3122", func := "loop.example/wholelight/laws.FnExactHalfOk", spec := "fnExactHalfOk", apart := false, narrowed := true }
def FnExactHalfOkUptoSaid : Prop := fnExactHalfOkUptoRow.holds Try.pinned (OpenSpec.upto fnExactHalfOkSpec)

/-- 'laws.FnExactHalfHas', WHERE WHAT IT READS IS OF BULK AT MOST 1048576: true; the input reads as it did. -/
def fnExactHalfHasUptoRow : OpenClaim := { program := "ytacglgbjmdhmhaa", sum := "b3ab239d1acf3e105d8c34e3d191e9071425cdf630bf64ac1cb9557d955b3122", func := "loop.example/wholelight/laws.FnExactHalfHas", spec := "fnExactHalfHas", apart := false, narrowed := true }
def FnExactHalfHasUptoSaid : Prop := fnExactHalfHasUptoRow.holds Try.pinned (OpenSpec.upto fnExactHalfHasSpec)

/-- 'laws.FnExactHalfCut', WHERE WHAT IT READS IS OF BULK AT MOST 1048576: true; the input reads as it did. -/
def fnExactHalfCutUptoRow : OpenClaim := { program := "ytacglgbjmdhmhaa", sum := "b3ab239d1acf3e105d8c34e3d191e9071425cdf630bf64ac1cb9557d955b3122", func := "loop.example/wholelight/laws.FnExactHalfCut", spec := "fnExactHalfCut", apart := false, narrowed := true }
def FnExactHalfCutUptoSaid : Prop := fnExactHalfCutUptoRow.holds Try.pinned (OpenSpec.upto fnExactHalfCutSpec)

/-- 'laws.FnExactHalfMoved', WHERE WHAT IT READS IS OF BULK AT MOST 1048576: true; the input reads as it did. -/
def fnExactHalfMovedUptoRow : OpenClaim := { program := "ytacglgbjmdhmhaa", sum := "b3ab239d1acf3e105d8c34e3d191e9071425cdf630bf64ac1cb9557d955b3122", func := "loop.example/wholelight/laws.FnExactHalfMoved", spec := "fnExactHalfMoved", apart := false, narrowed := true }
def FnExactHalfMovedUptoSaid : Prop := fnExactHalfMovedUptoRow.holds Try.pinned (OpenSpec.upto fnExactHalfMovedSpec)

/-- 'laws.FnExactBallOk', WHERE WHAT IT READS IS OF BULK AT MOST 1048576: true; the input reads as it did. -/
def fnExactBallOkUptoRow : OpenClaim := { program := "ytacglgbjmdhmhaa", sum := "b3ab239d1acf3e105d8c34e3d191e9071425cdf630bf64ac1cb9557d955b3122", func := "loop.example/wholelight/laws.FnExactBallOk", spec := "fnExactBallOk", apart := false, narrowed := true }
def FnExactBallOkUptoSaid : Prop := fnExactBallOkUptoRow.holds Try.pinned (OpenSpec.upto fnExactBallOkSpec)

/-- 'laws.FnExactBallHas', WHERE WHAT IT READS IS OF BULK AT MOST 1048576: true; the input reads as it did. -/
def fnExactBallHasUptoRow : OpenClaim := { program := "ytacglgbjmdhmhaa", sum := "b3ab239d1acf3e105d8c34e3d191e9071425cdf630bf64ac1cb9557d955b3122", func := "loop.example/wholelight/laws.FnExactBallHas", spec := "fnExactBallHas", apart := false, narrowed := true }
def FnExactBallHasUptoSaid : Prop := fnExactBallHasUptoRow.holds Try.pinned (OpenSpec.upto fnExactBallHasSpec)

/-- 'laws.FnExactBallCut', WHERE WHAT IT READS IS OF BULK AT MOST 1048576: true; the input reads as it did. -/
def fnExactBallCutUptoRow : OpenClaim := { program := "ytacglgbjmdhmhaa", sum := "b3ab239d1acf3e105d8c34e3d191e9071425cdf630bf64ac1cb9557d955b3122", func := "loop.example/wholelight/laws.FnExactBallCut", spec := "fnExactBallCut", apart := false, narrowed := true }
def FnExactBallCutUptoSaid : Prop := fnExactBallCutUptoRow.holds Try.pinned (OpenSpec.upto fnExactBallCutSpec)

/-- 'laws.FnExactBallMoved', WHERE WHAT IT READS IS OF BULK AT MOST 1048576: true; the input reads as it did. -/
def fnExactBallMovedUptoRow : OpenClaim := { program := "ytacglgbjmdhmhaa", sum := "b3ab239d1acf3e105d8c34e3d191e9071425cdf630bf64ac1cb9557d955b3122", func := "loop.example/wholelight/laws.FnExactBallMoved", spec := "fnExactBallMoved", apart := false, narrowed := true }
def FnExactBallMovedUptoSaid : Prop := fnExactBallMovedUptoRow.holds Try.pinned (OpenSpec.upto fnExactBallMovedSpec)

/-- 'laws.FnMotions', WHERE WHAT IT READS IS OF BULK AT MOST 1048576: true; the input reads as it did. -/
def fnMotionsUptoRow : OpenClaim := { program := "ytacglgbjmdhmhaa", sum := "b3ab239d1acf3e105d8c34e3d191e9071425cdf630bf64ac1cb9557d955b3122", func := "loop.example/wholelight/laws.FnMotions", spec := "fnMotions", apart := false, narrowed := true }
def FnMotionsUptoSaid : Prop := fnMotionsUptoRow.holds Try.pinned (OpenSpec.upto fnMotionsSpec)

end Rows
end Go.Proofs.Ytacglgbjmdhmhaa
