/-
  No cell of these rows narrows 'for every input' (looked for: loops, veiled, ifaces, maps, wideKeys, modest, calm, conditions, laid).
  DERIVED. THE GIVEN ROWS OF THIS SEAT. 14 by the template 'for every input the law returns true; each argument reads behind the call as it read before'; 0 by the template 'total and deterministic' (their statements: YtbgcbolalbjepaaTotals.lean).
  GIVEN WITH THE SEED: the statements are not yours to turn. If you find one false, say at which input.
  Laid BY PROGRAM, IN A SANDBOX (cutbox-rows.mjs): the forced cells as the released guide's own fill.sh prints them over the translation 4de65c4a02724a43… (all of the seat's roots in one cut). By AI agents, Wed Nov 11 2026. No macro, syntax, notation, axiom, sorry.
-/
import Derived.Test.YtbgcbolalbjepaaChecked
import GoSem.Claim
import GoSem.ClaimJoined
import GoSem.ClaimMapViews
import Derived.JoinedTies
import Derived.KernelRfl
namespace Go.Proofs.Ytbgcbolalbjepaa
/- THE CELL 'sum', in the pinned program and in every row, IS THE sha256 OF THE DUMP (.gsa) THAT YtbgcbolalbjepaaProg.lean LOADS. Nothing in Lean hashes anything: it is a label: what it is worth is what the hold of that sum in a sandbox is worth. -/
noncomputable def Try.pinned : Pinned := { name := "ytbgcbolalbjepaa", sum := "4de65c4a02724a434bac60b0eb99f4972d1e70487ad53ab75fc64ce465207dc5", checked := Try.checked }
namespace Rows
def none {H : Type} : Left H := { results := [], args := [] }

/-- 'laws.FnExactBoxOk': WHATEVER THE INPUT: true; the input reads as it did. -/
def fnExactBoxOkSpec : ChangeSpec := { name := "fnExactBoxOk", fn := fun _ => fun
  | [d] => { results := [.lit (.bool true)], args := [d] }
  | _ => none }
def fnExactBoxOkRow : OpenClaim := { program := "ytbgcbolalbjepaa", sum := "4de65c4a02724a434bac60b0eb99f4972d1e70487ad53ab75fc64ce465207dc5", func := "loop.example/wholelight/laws.FnExactBoxOk", spec := "fnExactBoxOk", apart := false }
def FnExactBoxOkSaid : Prop := fnExactBoxOkRow.holds Try.pinned (OpenSpec.ofChange fnExactBoxOkSpec)

/-- ITS FALSE NEIGHBOUR: 'it returns false'. Refute it at one input. -/
def fnExactBoxOkWrong : ChangeSpec := { name := "fnExactBoxOk", fn := fun _ => fun
  | [d] => { results := [.lit (.bool false)], args := [d] }
  | _ => none }
def FnExactBoxOkWrongFalsely : Prop := fnExactBoxOkRow.holds Try.pinned (OpenSpec.ofChange fnExactBoxOkWrong)

/-- 'laws.FnExactBoxHas': WHATEVER THE INPUT: true; the input reads as it did. -/
def fnExactBoxHasSpec : ChangeSpec := { name := "fnExactBoxHas", fn := fun _ => fun
  | [d1, d2] => { results := [.lit (.bool true)], args := [d1, d2] }
  | _ => none }
def fnExactBoxHasRow : OpenClaim := { program := "ytbgcbolalbjepaa", sum := "4de65c4a02724a434bac60b0eb99f4972d1e70487ad53ab75fc64ce465207dc5", func := "loop.example/wholelight/laws.FnExactBoxHas", spec := "fnExactBoxHas", apart := false }
def FnExactBoxHasSaid : Prop := fnExactBoxHasRow.holds Try.pinned (OpenSpec.ofChange fnExactBoxHasSpec)

/-- ITS FALSE NEIGHBOUR: 'it returns false'. Refute it at one input. -/
def fnExactBoxHasWrong : ChangeSpec := { name := "fnExactBoxHas", fn := fun _ => fun
  | [d1, d2] => { results := [.lit (.bool false)], args := [d1, d2] }
  | _ => none }
def FnExactBoxHasWrongFalsely : Prop := fnExactBoxHasRow.holds Try.pinned (OpenSpec.ofChange fnExactBoxHasWrong)

/-- 'laws.FnExactBoxCut': WHATEVER THE INPUT: true; the input reads as it did. -/
def fnExactBoxCutSpec : ChangeSpec := { name := "fnExactBoxCut", fn := fun _ => fun
  | [d1, d2] => { results := [.lit (.bool true)], args := [d1, d2] }
  | _ => none }
def fnExactBoxCutRow : OpenClaim := { program := "ytbgcbolalbjepaa", sum := "4de65c4a02724a434bac60b0eb99f4972d1e70487ad53ab75fc64ce465207dc5", func := "loop.example/wholelight/laws.FnExactBoxCut", spec := "fnExactBoxCut", apart := false }
def FnExactBoxCutSaid : Prop := fnExactBoxCutRow.holds Try.pinned (OpenSpec.ofChange fnExactBoxCutSpec)

/-- ITS FALSE NEIGHBOUR: 'it returns false'. Refute it at one input. -/
def fnExactBoxCutWrong : ChangeSpec := { name := "fnExactBoxCut", fn := fun _ => fun
  | [d1, d2] => { results := [.lit (.bool false)], args := [d1, d2] }
  | _ => none }
def FnExactBoxCutWrongFalsely : Prop := fnExactBoxCutRow.holds Try.pinned (OpenSpec.ofChange fnExactBoxCutWrong)

/-- 'laws.FnExactBoxBoth': WHATEVER THE INPUT: true; the input reads as it did. -/
def fnExactBoxBothSpec : ChangeSpec := { name := "fnExactBoxBoth", fn := fun _ => fun
  | [d1, d2] => { results := [.lit (.bool true)], args := [d1, d2] }
  | _ => none }
def fnExactBoxBothRow : OpenClaim := { program := "ytbgcbolalbjepaa", sum := "4de65c4a02724a434bac60b0eb99f4972d1e70487ad53ab75fc64ce465207dc5", func := "loop.example/wholelight/laws.FnExactBoxBoth", spec := "fnExactBoxBoth", apart := false }
def FnExactBoxBothSaid : Prop := fnExactBoxBothRow.holds Try.pinned (OpenSpec.ofChange fnExactBoxBothSpec)

/-- ITS FALSE NEIGHBOUR: 'it returns false'. Refute it at one input. -/
def fnExactBoxBothWrong : ChangeSpec := { name := "fnExactBoxBoth", fn := fun _ => fun
  | [d1, d2] => { results := [.lit (.bool false)], args := [d1, d2] }
  | _ => none }
def FnExactBoxBothWrongFalsely : Prop := fnExactBoxBothRow.holds Try.pinned (OpenSpec.ofChange fnExactBoxBothWrong)

/-- 'laws.FnExactBoxJoin': WHATEVER THE INPUT: true; the input reads as it did. -/
def fnExactBoxJoinSpec : ChangeSpec := { name := "fnExactBoxJoin", fn := fun _ => fun
  | [d1, d2] => { results := [.lit (.bool true)], args := [d1, d2] }
  | _ => none }
def fnExactBoxJoinRow : OpenClaim := { program := "ytbgcbolalbjepaa", sum := "4de65c4a02724a434bac60b0eb99f4972d1e70487ad53ab75fc64ce465207dc5", func := "loop.example/wholelight/laws.FnExactBoxJoin", spec := "fnExactBoxJoin", apart := false }
def FnExactBoxJoinSaid : Prop := fnExactBoxJoinRow.holds Try.pinned (OpenSpec.ofChange fnExactBoxJoinSpec)

/-- ITS FALSE NEIGHBOUR: 'it returns false'. Refute it at one input. -/
def fnExactBoxJoinWrong : ChangeSpec := { name := "fnExactBoxJoin", fn := fun _ => fun
  | [d1, d2] => { results := [.lit (.bool false)], args := [d1, d2] }
  | _ => none }
def FnExactBoxJoinWrongFalsely : Prop := fnExactBoxJoinRow.holds Try.pinned (OpenSpec.ofChange fnExactBoxJoinWrong)

/-- 'laws.FnExactBoxMoved': WHATEVER THE INPUT: true; the input reads as it did. -/
def fnExactBoxMovedSpec : ChangeSpec := { name := "fnExactBoxMoved", fn := fun _ => fun
  | [d1, d2] => { results := [.lit (.bool true)], args := [d1, d2] }
  | _ => none }
def fnExactBoxMovedRow : OpenClaim := { program := "ytbgcbolalbjepaa", sum := "4de65c4a02724a434bac60b0eb99f4972d1e70487ad53ab75fc64ce465207dc5", func := "loop.example/wholelight/laws.FnExactBoxMoved", spec := "fnExactBoxMoved", apart := false }
def FnExactBoxMovedSaid : Prop := fnExactBoxMovedRow.holds Try.pinned (OpenSpec.ofChange fnExactBoxMovedSpec)

/-- ITS FALSE NEIGHBOUR: 'it returns false'. Refute it at one input. -/
def fnExactBoxMovedWrong : ChangeSpec := { name := "fnExactBoxMoved", fn := fun _ => fun
  | [d1, d2] => { results := [.lit (.bool false)], args := [d1, d2] }
  | _ => none }
def FnExactBoxMovedWrongFalsely : Prop := fnExactBoxMovedRow.holds Try.pinned (OpenSpec.ofChange fnExactBoxMovedWrong)

/-- 'laws.FnExactBoxIn': WHATEVER THE INPUT: true; the input reads as it did. -/
def fnExactBoxInSpec : ChangeSpec := { name := "fnExactBoxIn", fn := fun _ => fun
  | [d1, d2] => { results := [.lit (.bool true)], args := [d1, d2] }
  | _ => none }
def fnExactBoxInRow : OpenClaim := { program := "ytbgcbolalbjepaa", sum := "4de65c4a02724a434bac60b0eb99f4972d1e70487ad53ab75fc64ce465207dc5", func := "loop.example/wholelight/laws.FnExactBoxIn", spec := "fnExactBoxIn", apart := false }
def FnExactBoxInSaid : Prop := fnExactBoxInRow.holds Try.pinned (OpenSpec.ofChange fnExactBoxInSpec)

/-- ITS FALSE NEIGHBOUR: 'it returns false'. Refute it at one input. -/
def fnExactBoxInWrong : ChangeSpec := { name := "fnExactBoxIn", fn := fun _ => fun
  | [d1, d2] => { results := [.lit (.bool false)], args := [d1, d2] }
  | _ => none }
def FnExactBoxInWrongFalsely : Prop := fnExactBoxInRow.holds Try.pinned (OpenSpec.ofChange fnExactBoxInWrong)

/-- 'laws.FnExactBallBox': WHATEVER THE INPUT: true; the input reads as it did. -/
def fnExactBallBoxSpec : ChangeSpec := { name := "fnExactBallBox", fn := fun _ => fun
  | [d] => { results := [.lit (.bool true)], args := [d] }
  | _ => none }
def fnExactBallBoxRow : OpenClaim := { program := "ytbgcbolalbjepaa", sum := "4de65c4a02724a434bac60b0eb99f4972d1e70487ad53ab75fc64ce465207dc5", func := "loop.example/wholelight/laws.FnExactBallBox", spec := "fnExactBallBox", apart := false }
def FnExactBallBoxSaid : Prop := fnExactBallBoxRow.holds Try.pinned (OpenSpec.ofChange fnExactBallBoxSpec)

/-- ITS FALSE NEIGHBOUR: 'it returns false'. Refute it at one input. -/
def fnExactBallBoxWrong : ChangeSpec := { name := "fnExactBallBox", fn := fun _ => fun
  | [d] => { results := [.lit (.bool false)], args := [d] }
  | _ => none }
def FnExactBallBoxWrongFalsely : Prop := fnExactBallBoxRow.holds Try.pinned (OpenSpec.ofChange fnExactBallBoxWrong)

/-- 'laws.FnExactBoxCells': WHATEVER THE INPUT: true; the input reads as it did. -/
def fnExactBoxCellsSpec : ChangeSpec := { name := "fnExactBoxCells", fn := fun _ => fun
  | [d] => { results := [.lit (.bool true)], args := [d] }
  | _ => none }
def fnExactBoxCellsRow : OpenClaim := { program := "ytbgcbolalbjepaa", sum := "4de65c4a02724a434bac60b0eb99f4972d1e70487ad53ab75fc64ce465207dc5", func := "loop.example/wholelight/laws.FnExactBoxCells", spec := "fnExactBoxCells", apart := false }
def FnExactBoxCellsSaid : Prop := fnExactBoxCellsRow.holds Try.pinned (OpenSpec.ofChange fnExactBoxCellsSpec)

/-- ITS FALSE NEIGHBOUR: 'it returns false'. Refute it at one input. -/
def fnExactBoxCellsWrong : ChangeSpec := { name := "fnExactBoxCells", fn := fun _ => fun
  | [d] => { results := [.lit (.bool false)], args := [d] }
  | _ => none }
def FnExactBoxCellsWrongFalsely : Prop := fnExactBoxCellsRow.holds Try.pinned (OpenSpec.ofChange fnExactBoxCellsWrong)

/-- 'laws.FnExactBoxHalves': WHATEVER THE INPUT: true; the input reads as it did. -/
def fnExactBoxHalvesSpec : ChangeSpec := { name := "fnExactBoxHalves", fn := fun _ => fun
  | [d] => { results := [.lit (.bool true)], args := [d] }
  | _ => none }
def fnExactBoxHalvesRow : OpenClaim := { program := "ytbgcbolalbjepaa", sum := "4de65c4a02724a434bac60b0eb99f4972d1e70487ad53ab75fc64ce465207dc5", func := "loop.example/wholelight/laws.FnExactBoxHalves", spec := "fnExactBoxHalves", apart := false }
def FnExactBoxHalvesSaid : Prop := fnExactBoxHalvesRow.holds Try.pinned (OpenSpec.ofChange fnExactBoxHalvesSpec)

/-- ITS FALSE NEIGHBOUR: 'it returns false'. Refute it at one input. -/
def fnExactBoxHalvesWrong : ChangeSpec := { name := "fnExactBoxHalves", fn := fun _ => fun
  | [d] => { results := [.lit (.bool false)], args := [d] }
  | _ => none }
def FnExactBoxHalvesWrongFalsely : Prop := fnExactBoxHalvesRow.holds Try.pinned (OpenSpec.ofChange fnExactBoxHalvesWrong)

/-- 'laws.FnBoxCut': WHATEVER THE INPUT: true; the input reads as it did. -/
def fnBoxCutSpec : ChangeSpec := { name := "fnBoxCut", fn := fun _ => fun
  | [d] => { results := [.lit (.bool true)], args := [d] }
  | _ => none }
def fnBoxCutRow : OpenClaim := { program := "ytbgcbolalbjepaa", sum := "4de65c4a02724a434bac60b0eb99f4972d1e70487ad53ab75fc64ce465207dc5", func := "loop.example/wholelight/laws.FnBoxCut", spec := "fnBoxCut", apart := false }
def FnBoxCutSaid : Prop := fnBoxCutRow.holds Try.pinned (OpenSpec.ofChange fnBoxCutSpec)

/-- ITS FALSE NEIGHBOUR: 'it returns false'. Refute it at one input. -/
def fnBoxCutWrong : ChangeSpec := { name := "fnBoxCut", fn := fun _ => fun
  | [d] => { results := [.lit (.bool false)], args := [d] }
  | _ => none }
def FnBoxCutWrongFalsely : Prop := fnBoxCutRow.holds Try.pinned (OpenSpec.ofChange fnBoxCutWrong)

/-- 'laws.FnBallInBox': WHATEVER THE INPUT: true; the input reads as it did. -/
def fnBallInBoxSpec : ChangeSpec := { name := "fnBallInBox", fn := fun _ => fun
  | [d] => { results := [.lit (.bool true)], args := [d] }
  | _ => none }
def fnBallInBoxRow : OpenClaim := { program := "ytbgcbolalbjepaa", sum := "4de65c4a02724a434bac60b0eb99f4972d1e70487ad53ab75fc64ce465207dc5", func := "loop.example/wholelight/laws.FnBallInBox", spec := "fnBallInBox", apart := false }
def FnBallInBoxSaid : Prop := fnBallInBoxRow.holds Try.pinned (OpenSpec.ofChange fnBallInBoxSpec)

/-- ITS FALSE NEIGHBOUR: 'it returns false'. Refute it at one input. -/
def fnBallInBoxWrong : ChangeSpec := { name := "fnBallInBox", fn := fun _ => fun
  | [d] => { results := [.lit (.bool false)], args := [d] }
  | _ => none }
def FnBallInBoxWrongFalsely : Prop := fnBallInBoxRow.holds Try.pinned (OpenSpec.ofChange fnBallInBoxWrong)

/-- 'laws.FnBoxes': WHATEVER THE INPUT: true; the input reads as it did. -/
def fnBoxesSpec : ChangeSpec := { name := "fnBoxes", fn := fun _ => fun
  | [d] => { results := [.lit (.bool true)], args := [d] }
  | _ => none }
def fnBoxesRow : OpenClaim := { program := "ytbgcbolalbjepaa", sum := "4de65c4a02724a434bac60b0eb99f4972d1e70487ad53ab75fc64ce465207dc5", func := "loop.example/wholelight/laws.FnBoxes", spec := "fnBoxes", apart := false }
def FnBoxesSaid : Prop := fnBoxesRow.holds Try.pinned (OpenSpec.ofChange fnBoxesSpec)

/-- ITS FALSE NEIGHBOUR: 'it returns false'. Refute it at one input. -/
def fnBoxesWrong : ChangeSpec := { name := "fnBoxes", fn := fun _ => fun
  | [d] => { results := [.lit (.bool false)], args := [d] }
  | _ => none }
def FnBoxesWrongFalsely : Prop := fnBoxesRow.holds Try.pinned (OpenSpec.ofChange fnBoxesWrong)

/-- 'laws.FnBoxMoved': WHATEVER THE INPUT: true; the input reads as it did. -/
def fnBoxMovedSpec : ChangeSpec := { name := "fnBoxMoved", fn := fun _ => fun
  | [d] => { results := [.lit (.bool true)], args := [d] }
  | _ => none }
def fnBoxMovedRow : OpenClaim := { program := "ytbgcbolalbjepaa", sum := "4de65c4a02724a434bac60b0eb99f4972d1e70487ad53ab75fc64ce465207dc5", func := "loop.example/wholelight/laws.FnBoxMoved", spec := "fnBoxMoved", apart := false }
def FnBoxMovedSaid : Prop := fnBoxMovedRow.holds Try.pinned (OpenSpec.ofChange fnBoxMovedSpec)

/-- ITS FALSE NEIGHBOUR: 'it returns false'. Refute it at one input. -/
def fnBoxMovedWrong : ChangeSpec := { name := "fnBoxMoved", fn := fun _ => fun
  | [d] => { results := [.lit (.bool false)], args := [d] }
  | _ => none }
def FnBoxMovedWrongFalsely : Prop := fnBoxMovedRow.holds Try.pinned (OpenSpec.ofChange fnBoxMovedWrong)

/- THE SECOND FORM. 'bulk': how many values and letters a reading holds, each counted each time it is reached (what is shared counts as often as it is met; a slice's spare places count too). A statement '..UptoSaid' is the law's where the arguments, and the package variables that the reading takes, are together of bulk at most 1048576: NARROWER than '..Said'. Prove '..Said' where nothing that the law and all that it calls make is longer than what came in: it says more and counts as full. Else prove '..UptoSaid'. A law counts once. -/
mutual
def uptoBulk {H : Type} : DataW H → Nat
  | .lit (.string bytes) => bytes.length + 1
  | .lit _ => 1
  | .nil => 1
  | .ptr d => uptoBulk d + 1
  | .slice elems spare => uptoBulkAll elems + uptoBulkAll spare + 1
  | .agg parts => uptoBulkAll parts + 1
  | .iface _ d => uptoBulk d + 1
  | .map entries => uptoBulkEntries entries + 1
  | .held _ => 1
def uptoBulkAll {H : Type} : List (DataW H) → Nat
  | [] => 0
  | d :: r => uptoBulk d + uptoBulkAll r
def uptoBulkEntries {H : Type} : List (Lit × DataW H) → Nat
  | [] => 0
  | x :: r => uptoBulkEntry x + uptoBulkEntries r
def uptoBulkEntry {H : Type} : Lit × DataW H → Nat
  | (.string bytes, d) => bytes.length + uptoBulk d + 1
  | (_, d) => uptoBulk d + 1
 end
def uptoSmall : (H : Type) → List (DataW H) → Bool := fun _ ds => decide (uptoBulkAll ds ≤ 1048576)
def OpenSpec.upto (s : _root_.Go.ChangeSpec) : _root_.Go.OpenSpec := { _root_.Go.OpenSpec.ofChange s with cond := some uptoSmall }

/-- 'laws.FnExactBoxOk', WHERE WHAT IT READS IS OF BULK AT MOST 1048576: true; the input reads as it did. -/
def fnExactBoxOkUptoRow : OpenClaim := { program := "ytbgcbolalbjepaa", sum := "4de65c4a02724a434bac60b0eb99f4972d1e70487ad53ab75fc64ce465207dc5", func := "loop.example/wholelight/laws.FnExactBoxOk", spec := "fnExactBoxOk", apart := false, narrowed := true }
def FnExactBoxOkUptoSaid : Prop := fnExactBoxOkUptoRow.holds Try.pinned (OpenSpec.upto fnExactBoxOkSpec)

/-- 'laws.FnExactBoxHas', WHERE WHAT IT READS IS OF BULK AT MOST 1048576: true; the input reads as it did. -/
def fnExactBoxHasUptoRow : OpenClaim := { program := "ytbgcbolalbjepaa", sum := "4de65c4a02724a434bac60b0eb99f4972d1e70487ad53ab75fc64ce465207dc5", func := "loop.example/wholelight/laws.FnExactBoxHas", spec := "fnExactBoxHas", apart := false, narrowed := true }
def FnExactBoxHasUptoSaid : Prop := fnExactBoxHasUptoRow.holds Try.pinned (OpenSpec.upto fnExactBoxHasSpec)

/-- 'laws.FnExactBoxCut', WHERE WHAT IT READS IS OF BULK AT MOST 1048576: true; the input reads as it did. -/
def fnExactBoxCutUptoRow : OpenClaim := { program := "ytbgcbolalbjepaa", sum := "4de65c4a02724a434bac60b0eb99f4972d1e70487ad53ab75fc64ce465207dc5", func := "loop.example/wholelight/laws.FnExactBoxCut", spec := "fnExactBoxCut", apart := false, narrowed := true }
def FnExactBoxCutUptoSaid : Prop := fnExactBoxCutUptoRow.holds Try.pinned (OpenSpec.upto fnExactBoxCutSpec)

/-- 'laws.FnExactBoxBoth', WHERE WHAT IT READS IS OF BULK AT MOST 1048576: true; the input reads as it did. -/
def fnExactBoxBothUptoRow : OpenClaim := { program := "ytbgcbolalbjepaa", sum := "4de65c4a02724a434bac60b0eb99f4972d1e70487ad53ab75fc64ce465207dc5", func := "loop.example/wholelight/laws.FnExactBoxBoth", spec := "fnExactBoxBoth", apart := false, narrowed := true }
def FnExactBoxBothUptoSaid : Prop := fnExactBoxBothUptoRow.holds Try.pinned (OpenSpec.upto fnExactBoxBothSpec)

/-- 'laws.FnExactBoxJoin', WHERE WHAT IT READS IS OF BULK AT MOST 1048576: true; the input reads as it did. -/
def fnExactBoxJoinUptoRow : OpenClaim := { program := "ytbgcbolalbjepaa", sum := "4de65c4a02724a434bac60b0eb99f4972d1e70487ad53ab75fc64ce465207dc5", func := "loop.example/wholelight/laws.FnExactBoxJoin", spec := "fnExactBoxJoin", apart := false, narrowed := true }
def FnExactBoxJoinUptoSaid : Prop := fnExactBoxJoinUptoRow.holds Try.pinned (OpenSpec.upto fnExactBoxJoinSpec)

/-- 'laws.FnExactBoxMoved', WHERE WHAT IT READS IS OF BULK AT MOST 1048576: true; the input reads as it did. -/
def fnExactBoxMovedUptoRow : OpenClaim := { program := "ytbgcbolalbjepaa", sum := "4de65c4a02724a434bac60b0eb99f4972d1e70487ad53ab75fc64ce465207dc5", func := "loop.example/wholelight/laws.FnExactBoxMoved", spec := "fnExactBoxMoved", apart := false, narrowed := true }
def FnExactBoxMovedUptoSaid : Prop := fnExactBoxMovedUptoRow.holds Try.pinned (OpenSpec.upto fnExactBoxMovedSpec)

/-- 'laws.FnExactBoxIn', WHERE WHAT IT READS IS OF BULK AT MOST 1048576: true; the input reads as it did. -/
def fnExactBoxInUptoRow : OpenClaim := { program := "ytbgcbolalbjepaa", sum := "4de65c4a02724a434bac60b0eb99f4972d1e70487ad53ab75fc64ce465207dc5", func := "loop.example/wholelight/laws.FnExactBoxIn", spec := "fnExactBoxIn", apart := false, narrowed := true }
def FnExactBoxInUptoSaid : Prop := fnExactBoxInUptoRow.holds Try.pinned (OpenSpec.upto fnExactBoxInSpec)

/-- 'laws.FnExactBallBox', WHERE WHAT IT READS IS OF BULK AT MOST 1048576: true; the input reads as it did. -/
def fnExactBallBoxUptoRow : OpenClaim := { program := "ytbgcbolalbjepaa", sum := "4de65c4a02724a434bac60b0eb99f4972d1e70487ad53ab75fc64ce465207dc5", func := "loop.example/wholelight/laws.FnExactBallBox", spec := "fnExactBallBox", apart := false, narrowed := true }
def FnExactBallBoxUptoSaid : Prop := fnExactBallBoxUptoRow.holds Try.pinned (OpenSpec.upto fnExactBallBoxSpec)

/-- 'laws.FnExactBoxCells', WHERE WHAT IT READS IS OF BULK AT MOST 1048576: true; the input reads as it did. -/
def fnExactBoxCellsUptoRow : OpenClaim := { program := "ytbgcbolalbjepaa", sum := "4de65c4a02724a434bac60b0eb99f4972d1e70487ad53ab75fc64ce465207dc5", func := "loop.example/wholelight/laws.FnExactBoxCells", spec := "fnExactBoxCells", apart := false, narrowed := true }
def FnExactBoxCellsUptoSaid : Prop := fnExactBoxCellsUptoRow.holds Try.pinned (OpenSpec.upto fnExactBoxCellsSpec)

/-- 'laws.FnExactBoxHalves', WHERE WHAT IT READS IS OF BULK AT MOST 1048576: true; the input reads as it did. -/
def fnExactBoxHalvesUptoRow : OpenClaim := { program := "ytbgcbolalbjepaa", sum := "4de65c4a02724a434bac60b0eb99f4972d1e70487ad53ab75fc64ce465207dc5", func := "loop.example/wholelight/laws.FnExactBoxHalves", spec := "fnExactBoxHalves", apart := false, narrowed := true }
def FnExactBoxHalvesUptoSaid : Prop := fnExactBoxHalvesUptoRow.holds Try.pinned (OpenSpec.upto fnExactBoxHalvesSpec)

/-- 'laws.FnBoxCut', WHERE WHAT IT READS IS OF BULK AT MOST 1048576: true; the input reads as it did. -/
def fnBoxCutUptoRow : OpenClaim := { program := "ytbgcbolalbjepaa", sum := "4de65c4a02724a434bac60b0eb99f4972d1e70487ad53ab75fc64ce465207dc5", func := "loop.example/wholelight/laws.FnBoxCut", spec := "fnBoxCut", apart := false, narrowed := true }
def FnBoxCutUptoSaid : Prop := fnBoxCutUptoRow.holds Try.pinned (OpenSpec.upto fnBoxCutSpec)

/-- 'laws.FnBallInBox', WHERE WHAT IT READS IS OF BULK AT MOST 1048576: true; the input reads as it did. -/
def fnBallInBoxUptoRow : OpenClaim := { program := "ytbgcbolalbjepaa", sum := "4de65c4a02724a434bac60b0eb99f4972d1e70487ad53ab75fc64ce465207dc5", func := "loop.example/wholelight/laws.FnBallInBox", spec := "fnBallInBox", apart := false, narrowed := true }
def FnBallInBoxUptoSaid : Prop := fnBallInBoxUptoRow.holds Try.pinned (OpenSpec.upto fnBallInBoxSpec)

/-- 'laws.FnBoxes', WHERE WHAT IT READS IS OF BULK AT MOST 1048576: true; the input reads as it did. -/
def fnBoxesUptoRow : OpenClaim := { program := "ytbgcbolalbjepaa", sum := "4de65c4a02724a434bac60b0eb99f4972d1e70487ad53ab75fc64ce465207dc5", func := "loop.example/wholelight/laws.FnBoxes", spec := "fnBoxes", apart := false, narrowed := true }
def FnBoxesUptoSaid : Prop := fnBoxesUptoRow.holds Try.pinned (OpenSpec.upto fnBoxesSpec)

/-- 'laws.FnBoxMoved', WHERE WHAT IT READS IS OF BULK AT MOST 1048576: true; the input reads as it did. -/
def fnBoxMovedUptoRow : OpenClaim := { program := "ytbgcbolalbjepaa", sum := "4de65c4a02724a434bac60b0eb99f4972d1e70487ad53ab75fc64ce465207dc5", func := "loop.example/wholelight/laws.FnBoxMoved", spec := "fnBoxMoved", apart := false, narrowed := true }
def FnBoxMovedUptoSaid : Prop := fnBoxMovedUptoRow.holds Try.pinned (OpenSpec.upto fnBoxMovedSpec)

end Rows
end Go.Proofs.Ytbgcbolalbjepaa
