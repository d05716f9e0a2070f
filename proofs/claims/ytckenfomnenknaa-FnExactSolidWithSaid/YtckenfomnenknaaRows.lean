/-
  No cell of these rows narrows 'for every input' (looked for: loops, veiled, ifaces, maps, wideKeys, modest, calm, conditions, laid).
  DERIVED. THE GIVEN ROWS OF THIS SEAT. 7 by the template 'for every input the law returns true; each argument reads behind the call as it read before'; 0 by the template 'total and deterministic' (their statements: YtckenfomnenknaaTotals.lean).
  GIVEN WITH THE SEED: the statements are not yours to turn. If you find one false, say at which input.
  Laid BY PROGRAM, IN A SANDBOX (cutbox-rows.mjs): the forced cells as the released guide's own fill.sh prints them over the translation 3c744039a8a4100c… (all of the seat's roots in one cut). By AI agents, Wed Nov 11 2026. No macro, syntax, notation, axiom, sorry.
-/
import Derived.Test.YtckenfomnenknaaChecked
import GoSem.Claim
import GoSem.ClaimJoined
import GoSem.ClaimMapViews
import Derived.JoinedTies
import Derived.KernelRfl
namespace Go.Proofs.Ytckenfomnenknaa
/- THE CELL 'sum', in the pinned program and in every row, IS THE sha256 OF THE DUMP (.gsa) THAT YtckenfomnenknaaProg.lean LOADS. Nothing in Lean hashes anything: it is a label: what it is worth is what the hold of that sum in a sandbox is worth. -/
noncomputable def Try.pinned : Pinned := { name := "ytckenfomnenknaa", sum := "3c744039a8a4100c960271132e63b621f6beea81f2036a677a0a3b0c941c3e61", checked := Try.checked }
namespace Rows
def none {H : Type} : Left H := { results := [], args := [] }

/-- 'laws.FnBoxCut': WHATEVER THE INPUT: true; the input reads as it did. -/
def fnBoxCutSpec : ChangeSpec := { name := "fnBoxCut", fn := fun _ => fun
  | [d] => { results := [.lit (.bool true)], args := [d] }
  | _ => none }
def fnBoxCutRow : OpenClaim := { program := "ytckenfomnenknaa", sum := "3c744039a8a4100c960271132e63b621f6beea81f2036a677a0a3b0c941c3e61", func := "loop.example/wholelight/laws.FnBoxCut", spec := "fnBoxCut", apart := false }
def FnBoxCutSaid : Prop := fnBoxCutRow.holds Try.pinned (OpenSpec.ofChange fnBoxCutSpec)

/-- ITS FALSE NEIGHBOUR: 'it returns false'. Refute it at one input. -/
def fnBoxCutWrong : ChangeSpec := { name := "fnBoxCut", fn := fun _ => fun
  | [d] => { results := [.lit (.bool false)], args := [d] }
  | _ => none }
def FnBoxCutWrongFalsely : Prop := fnBoxCutRow.holds Try.pinned (OpenSpec.ofChange fnBoxCutWrong)

/-- 'laws.FnBallInBox': WHATEVER THE INPUT: true; the input reads as it did. -/
def fnBallInBoxSpec : ChangeSpec := { name := "fnBallInBox", fn := fun _ => fun
  | [d] => { results := [.lit (.bool true)], args := [d] }
  | _ => none }
def fnBallInBoxRow : OpenClaim := { program := "ytckenfomnenknaa", sum := "3c744039a8a4100c960271132e63b621f6beea81f2036a677a0a3b0c941c3e61", func := "loop.example/wholelight/laws.FnBallInBox", spec := "fnBallInBox", apart := false }
def FnBallInBoxSaid : Prop := fnBallInBoxRow.holds Try.pinned (OpenSpec.ofChange fnBallInBoxSpec)

/-- ITS FALSE NEIGHBOUR: 'it returns false'. Refute it at one input. -/
def fnBallInBoxWrong : ChangeSpec := { name := "fnBallInBox", fn := fun _ => fun
  | [d] => { results := [.lit (.bool false)], args := [d] }
  | _ => none }
def FnBallInBoxWrongFalsely : Prop := fnBallInBoxRow.holds Try.pinned (OpenSpec.ofChange fnBallInBoxWrong)

/-- 'laws.FnBoxMoved': WHATEVER THE INPUT: true; the input reads as it did. -/
def fnBoxMovedSpec : ChangeSpec := { name := "fnBoxMoved", fn := fun _ => fun
  | [d] => { results := [.lit (.bool true)], args := [d] }
  | _ => none }
def fnBoxMovedRow : OpenClaim := { program := "ytckenfomnenknaa", sum := "3c744039a8a4100c960271132e63b621f6beea81f2036a677a0a3b0c941c3e61", func := "loop.example/wholelight/laws.FnBoxMoved", spec := "fnBoxMoved", apart := false }
def FnBoxMovedSaid : Prop := fnBoxMovedRow.holds Try.pinned (OpenSpec.ofChange fnBoxMovedSpec)

/-- ITS FALSE NEIGHBOUR: 'it returns false'. Refute it at one input. -/
def fnBoxMovedWrong : ChangeSpec := { name := "fnBoxMoved", fn := fun _ => fun
  | [d] => { results := [.lit (.bool false)], args := [d] }
  | _ => none }
def FnBoxMovedWrongFalsely : Prop := fnBoxMovedRow.holds Try.pinned (OpenSpec.ofChange fnBoxMovedWrong)

/-- 'laws.FnExactBoxCut': WHATEVER THE INPUT: true; the input reads as it did. -/
def fnExactBoxCutSpec : ChangeSpec := { name := "fnExactBoxCut", fn := fun _ => fun
  | [d1, d2] => { results := [.lit (.bool true)], args := [d1, d2] }
  | _ => none }
def fnExactBoxCutRow : OpenClaim := { program := "ytckenfomnenknaa", sum := "3c744039a8a4100c960271132e63b621f6beea81f2036a677a0a3b0c941c3e61", func := "loop.example/wholelight/laws.FnExactBoxCut", spec := "fnExactBoxCut", apart := false }
def FnExactBoxCutSaid : Prop := fnExactBoxCutRow.holds Try.pinned (OpenSpec.ofChange fnExactBoxCutSpec)

/-- ITS FALSE NEIGHBOUR: 'it returns false'. Refute it at one input. -/
def fnExactBoxCutWrong : ChangeSpec := { name := "fnExactBoxCut", fn := fun _ => fun
  | [d1, d2] => { results := [.lit (.bool false)], args := [d1, d2] }
  | _ => none }
def FnExactBoxCutWrongFalsely : Prop := fnExactBoxCutRow.holds Try.pinned (OpenSpec.ofChange fnExactBoxCutWrong)

/-- 'laws.FnExactSolidLeaves': WHATEVER THE INPUT: true; the input reads as it did. -/
def fnExactSolidLeavesSpec : ChangeSpec := { name := "fnExactSolidLeaves", fn := fun _ => fun
  | [d] => { results := [.lit (.bool true)], args := [d] }
  | _ => none }
def fnExactSolidLeavesRow : OpenClaim := { program := "ytckenfomnenknaa", sum := "3c744039a8a4100c960271132e63b621f6beea81f2036a677a0a3b0c941c3e61", func := "loop.example/wholelight/laws.FnExactSolidLeaves", spec := "fnExactSolidLeaves", unfollowed := true, recurses := true, apart := false }
def FnExactSolidLeavesSaid : Prop := fnExactSolidLeavesRow.holds Try.pinned (OpenSpec.ofChange fnExactSolidLeavesSpec)

/-- ITS FALSE NEIGHBOUR: 'it returns false'. Refute it at one input. -/
def fnExactSolidLeavesWrong : ChangeSpec := { name := "fnExactSolidLeaves", fn := fun _ => fun
  | [d] => { results := [.lit (.bool false)], args := [d] }
  | _ => none }
def FnExactSolidLeavesWrongFalsely : Prop := fnExactSolidLeavesRow.holds Try.pinned (OpenSpec.ofChange fnExactSolidLeavesWrong)

/-- 'laws.FnExactSolidMoved': WHATEVER THE INPUT: true; the input reads as it did. -/
def fnExactSolidMovedSpec : ChangeSpec := { name := "fnExactSolidMoved", fn := fun _ => fun
  | [d1, d2] => { results := [.lit (.bool true)], args := [d1, d2] }
  | _ => none }
def fnExactSolidMovedRow : OpenClaim := { program := "ytckenfomnenknaa", sum := "3c744039a8a4100c960271132e63b621f6beea81f2036a677a0a3b0c941c3e61", func := "loop.example/wholelight/laws.FnExactSolidMoved", spec := "fnExactSolidMoved", unfollowed := true, recurses := true, apart := false }
def FnExactSolidMovedSaid : Prop := fnExactSolidMovedRow.holds Try.pinned (OpenSpec.ofChange fnExactSolidMovedSpec)

/-- ITS FALSE NEIGHBOUR: 'it returns false'. Refute it at one input. -/
def fnExactSolidMovedWrong : ChangeSpec := { name := "fnExactSolidMoved", fn := fun _ => fun
  | [d1, d2] => { results := [.lit (.bool false)], args := [d1, d2] }
  | _ => none }
def FnExactSolidMovedWrongFalsely : Prop := fnExactSolidMovedRow.holds Try.pinned (OpenSpec.ofChange fnExactSolidMovedWrong)

/-- 'laws.FnExactSolidWith': WHATEVER THE INPUT: true; the input reads as it did. -/
def fnExactSolidWithSpec : ChangeSpec := { name := "fnExactSolidWith", fn := fun _ => fun
  | [d1, d2, d3] => { results := [.lit (.bool true)], args := [d1, d2, d3] }
  | _ => none }
def fnExactSolidWithRow : OpenClaim := { program := "ytckenfomnenknaa", sum := "3c744039a8a4100c960271132e63b621f6beea81f2036a677a0a3b0c941c3e61", func := "loop.example/wholelight/laws.FnExactSolidWith", spec := "fnExactSolidWith", unfollowed := true, recurses := true, apart := false }
def FnExactSolidWithSaid : Prop := fnExactSolidWithRow.holds Try.pinned (OpenSpec.ofChange fnExactSolidWithSpec)

/-- ITS FALSE NEIGHBOUR: 'it returns false'. Refute it at one input. -/
def fnExactSolidWithWrong : ChangeSpec := { name := "fnExactSolidWith", fn := fun _ => fun
  | [d1, d2, d3] => { results := [.lit (.bool false)], args := [d1, d2, d3] }
  | _ => none }
def FnExactSolidWithWrongFalsely : Prop := fnExactSolidWithRow.holds Try.pinned (OpenSpec.ofChange fnExactSolidWithWrong)

/- THE SECOND FORM. 'bulk': how many values and letters a reading holds, each counted each time it is reached (what is shared counts as often as it is met; a slice's spare places count too). A statement '..UptoSaid' is the law's where the arguments, and the package variables that the reading takes, are together of bulk at most 1048576: NARROWER than '..Said'. Prove '..Said' where nothing that the law and all that it calls make is longer than what came in: it says more and counts as full. Else prove '..UptoSaid'. A law counts once. -/
mutual
def uptoBulk {H : Type} : DataW H → Nat
  | .lit (.string bytes) => bytes.length + 1
  | .lit _ => 1
  | .nil => 1
  | .ptr d => uptoBulk d + 1
  | .slice elems spare => uptoBulkAll elems + uptoBulkAll spare + 1
  | .agg parts => uptoBulkAll parts + 1
  | .iface _ d => uptoBulk d + 1
  | .map entries => uptoBulkEntries entries + 1
  | .held _ => 1
def uptoBulkAll {H : Type} : List (DataW H) → Nat
  | [] => 0
  | d :: r => uptoBulk d + uptoBulkAll r
def uptoBulkEntries {H : Type} : List (Lit × DataW H) → Nat
  | [] => 0
  | x :: r => uptoBulkEntry x + uptoBulkEntries r
def uptoBulkEntry {H : Type} : Lit × DataW H → Nat
  | (.string bytes, d) => bytes.length + uptoBulk d + 1
  | (_, d) => uptoBulk d + 1
 end
def uptoSmall : (H : Type) → List (DataW H) → Bool := fun _ ds => decide (uptoBulkAll ds ≤ 1048576)
def OpenSpec.upto (s : _root_.Go.ChangeSpec) : _root_.Go.OpenSpec := { _root_.Go.OpenSpec.ofChange s with cond := some uptoSmall }

/-- 'laws.FnBoxCut', WHERE WHAT IT READS IS OF BULK AT MOST 1048576: true; the input reads as it did. -/
def fnBoxCutUptoRow : OpenClaim := { program := "ytckenfomnenknaa", sum := "3c744039a8a4100c960271132e63b621f6beea81f2036a677a0a3b0c941c3e61", func := "loop.example/wholelight/laws.FnBoxCut", spec := "fnBoxCut", apart := false, narrowed := true }
def FnBoxCutUptoSaid : Prop := fnBoxCutUptoRow.holds Try.pinned (OpenSpec.upto fnBoxCutSpec)

/-- 'laws.FnBallInBox', WHERE WHAT IT READS IS OF BULK AT MOST 1048576: true; the input reads as it did. -/
def fnBallInBoxUptoRow : OpenClaim := { program := "ytckenfomnenknaa", sum := "3c744039a8a4100c960271132e63b621f6beea81f2036a677a0a3b0c941c3e61", func := "loop.example/wholelight/laws.FnBallInBox", spec := "fnBallInBox", apart := false, narrowed := true }
def FnBallInBoxUptoSaid : Prop := fnBallInBoxUptoRow.holds Try.pinned (OpenSpec.upto fnBallInBoxSpec)

/-- 'laws.FnBoxMoved', WHERE WHAT IT READS IS OF BULK AT MOST 1048576: true; the input reads as it did. -/
def fnBoxMovedUptoRow : OpenClaim := { program := "ytckenfomnenknaa", sum := "3c744039a8a4100c960271132e63b621f6beea81f2036a677a0a3b0c941c3e61", func := "loop.example/wholelight/laws.FnBoxMoved", spec := "fnBoxMoved", apart := false, narrowed := true }
def FnBoxMovedUptoSaid : Prop := fnBoxMovedUptoRow.holds Try.pinned (OpenSpec.upto fnBoxMovedSpec)

/-- 'laws.FnExactBoxCut', WHERE WHAT IT READS IS OF BULK AT MOST 1048576: true; the input reads as it did. -/
def fnExactBoxCutUptoRow : OpenClaim := { program := "ytckenfomnenknaa", sum := "3c744039a8a4100c960271132e63b621f6beea81f2036a677a0a3b0c941c3e61", func := "loop.example/wholelight/laws.FnExactBoxCut", spec := "fnExactBoxCut", apart := false, narrowed := true }
def FnExactBoxCutUptoSaid : Prop := fnExactBoxCutUptoRow.holds Try.pinned (OpenSpec.upto fnExactBoxCutSpec)

/-- 'laws.FnExactSolidLeaves', WHERE WHAT IT READS IS OF BULK AT MOST 1048576: true; the input reads as it did. -/
def fnExactSolidLeavesUptoRow : OpenClaim := { program := "ytckenfomnenknaa", sum := "3c744039a8a4100c960271132e63b621f6beea81f2036a677a0a3b0c941c3e61", func := "loop.example/wholelight/laws.FnExactSolidLeaves", spec := "fnExactSolidLeaves", unfollowed := true, recurses := true, apart := false, narrowed := true }
def FnExactSolidLeavesUptoSaid : Prop := fnExactSolidLeavesUptoRow.holds Try.pinned (OpenSpec.upto fnExactSolidLeavesSpec)

/-- 'laws.FnExactSolidMoved', WHERE WHAT IT READS IS OF BULK AT MOST 1048576: true; the input reads as it did. -/
def fnExactSolidMovedUptoRow : OpenClaim := { program := "ytckenfomnenknaa", sum := "3c744039a8a4100c960271132e63b621f6beea81f2036a677a0a3b0c941c3e61", func := "loop.example/wholelight/laws.FnExactSolidMoved", spec := "fnExactSolidMoved", unfollowed := true, recurses := true, apart := false, narrowed := true }
def FnExactSolidMovedUptoSaid : Prop := fnExactSolidMovedUptoRow.holds Try.pinned (OpenSpec.upto fnExactSolidMovedSpec)

/-- 'laws.FnExactSolidWith', WHERE WHAT IT READS IS OF BULK AT MOST 1048576: true; the input reads as it did. -/
def fnExactSolidWithUptoRow : OpenClaim := { program := "ytckenfomnenknaa", sum := "3c744039a8a4100c960271132e63b621f6beea81f2036a677a0a3b0c941c3e61", func := "loop.example/wholelight/laws.FnExactSolidWith", spec := "fnExactSolidWith", unfollowed := true, recurses := true, apart := false, narrowed := true }
def FnExactSolidWithUptoSaid : Prop := fnExactSolidWithUptoRow.holds Try.pinned (OpenSpec.upto fnExactSolidWithSpec)

end Rows
end Go.Proofs.Ytckenfomnenknaa
