/-
  No cell of these rows narrows 'for every input' (looked for: loops, veiled, ifaces, maps, wideKeys, modest, calm, conditions, laid).
  DERIVED. THE GIVEN ROWS OF THIS SEAT. 13 by the template 'for every input the law returns true; each argument reads behind the call as it read before'; 0 by the template 'total and deterministic' (their statements: YtegibpepdndocaaTotals.lean).
  GIVEN WITH THE SEED: the statements are not yours to turn. If you find one false, say at which input.
  Laid BY PROGRAM, IN A SANDBOX (cutbox-rows.mjs): the forced cells as the released guide's own fill.sh prints them over the translation 24b3f27ebf18aee4… (all of the seat's roots in one cut). By AI agents, Wed Nov 11 2026. No macro, syntax, notation, axiom, sorry.
-/
import Derived.Test.YtegibpepdndocaaChecked
import GoSem.Claim
import GoSem.ClaimJoined
import GoSem.ClaimMapViews
import Derived.JoinedTies
import Derived.KernelRfl
namespace Go.Proofs.Ytegibpepdndocaa
/- THE CELL 'sum', in the pinned program and in every row, IS THE sha256 OF THE DUMP (.gsa) THAT YtegibpepdndocaaProg.lean LOADS. Nothing in Lean hashes anything: it is a label: what it is worth is what the hold of that sum in a sandbox is worth. -/
noncomputable def Try.pinned : Pinned := { name := "ytegibpepdndocaa", sum := "24b3f27ebf18aee410f3bffa1e0b22bc04bf122383cf608ecfcf680b174d931b", checked := Try.checked }
namespace Rows
def none {H : Type} : Left H := { results := [], args := [] }

/-- 'laws.FnExactHueOk': WHATEVER THE INPUT: true; the input reads as it did. -/
def fnExactHueOkSpec : ChangeSpec := { name := "fnExactHueOk", fn := fun _ => fun
  | [d] => { results := [.lit (.bool true)], args := [d] }
  | _ => none }
def fnExactHueOkRow : OpenClaim := { program := "ytegibpepdndocaa", sum := "24b3f27ebf18aee410f3bffa1e0b22bc04bf122383cf608ecfcf680b174d931b", func := "loop.example/wholelight/laws.FnExactHueOk", spec := "fnExactHueOk", apart := false }
def FnExactHueOkSaid : Prop := fnExactHueOkRow.holds Try.pinned (OpenSpec.ofChange fnExactHueOkSpec)

/-- ITS FALSE NEIGHBOUR: 'it returns false'. Refute it at one input. -/
def fnExactHueOkWrong : ChangeSpec := { name := "fnExactHueOk", fn := fun _ => fun
  | [d] => { results := [.lit (.bool false)], args := [d] }
  | _ => none }
def FnExactHueOkWrongFalsely : Prop := fnExactHueOkRow.holds Try.pinned (OpenSpec.ofChange fnExactHueOkWrong)

/-- 'laws.FnExactHueMix': WHATEVER THE INPUT: true; the input reads as it did. -/
def fnExactHueMixSpec : ChangeSpec := { name := "fnExactHueMix", fn := fun _ => fun
  | [d1, d2, d3] => { results := [.lit (.bool true)], args := [d1, d2, d3] }
  | _ => none }
def fnExactHueMixRow : OpenClaim := { program := "ytegibpepdndocaa", sum := "24b3f27ebf18aee410f3bffa1e0b22bc04bf122383cf608ecfcf680b174d931b", func := "loop.example/wholelight/laws.FnExactHueMix", spec := "fnExactHueMix", apart := false }
def FnExactHueMixSaid : Prop := fnExactHueMixRow.holds Try.pinned (OpenSpec.ofChange fnExactHueMixSpec)

/-- ITS FALSE NEIGHBOUR: 'it returns false'. Refute it at one input. -/
def fnExactHueMixWrong : ChangeSpec := { name := "fnExactHueMix", fn := fun _ => fun
  | [d1, d2, d3] => { results := [.lit (.bool false)], args := [d1, d2, d3] }
  | _ => none }
def FnExactHueMixWrongFalsely : Prop := fnExactHueMixRow.holds Try.pinned (OpenSpec.ofChange fnExactHueMixWrong)

/-- 'laws.FnExactHueTimes': WHATEVER THE INPUT: true; the input reads as it did. -/
def fnExactHueTimesSpec : ChangeSpec := { name := "fnExactHueTimes", fn := fun _ => fun
  | [d1, d2] => { results := [.lit (.bool true)], args := [d1, d2] }
  | _ => none }
def fnExactHueTimesRow : OpenClaim := { program := "ytegibpepdndocaa", sum := "24b3f27ebf18aee410f3bffa1e0b22bc04bf122383cf608ecfcf680b174d931b", func := "loop.example/wholelight/laws.FnExactHueTimes", spec := "fnExactHueTimes", apart := false }
def FnExactHueTimesSaid : Prop := fnExactHueTimesRow.holds Try.pinned (OpenSpec.ofChange fnExactHueTimesSpec)

/-- ITS FALSE NEIGHBOUR: 'it returns false'. Refute it at one input. -/
def fnExactHueTimesWrong : ChangeSpec := { name := "fnExactHueTimes", fn := fun _ => fun
  | [d1, d2] => { results := [.lit (.bool false)], args := [d1, d2] }
  | _ => none }
def FnExactHueTimesWrongFalsely : Prop := fnExactHueTimesRow.holds Try.pinned (OpenSpec.ofChange fnExactHueTimesWrong)

/-- 'laws.FnExactHuePlus': WHATEVER THE INPUT: true; the input reads as it did. -/
def fnExactHuePlusSpec : ChangeSpec := { name := "fnExactHuePlus", fn := fun _ => fun
  | [d1, d2] => { results := [.lit (.bool true)], args := [d1, d2] }
  | _ => none }
def fnExactHuePlusRow : OpenClaim := { program := "ytegibpepdndocaa", sum := "24b3f27ebf18aee410f3bffa1e0b22bc04bf122383cf608ecfcf680b174d931b", func := "loop.example/wholelight/laws.FnExactHuePlus", spec := "fnExactHuePlus", apart := false }
def FnExactHuePlusSaid : Prop := fnExactHuePlusRow.holds Try.pinned (OpenSpec.ofChange fnExactHuePlusSpec)

/-- ITS FALSE NEIGHBOUR: 'it returns false'. Refute it at one input. -/
def fnExactHuePlusWrong : ChangeSpec := { name := "fnExactHuePlus", fn := fun _ => fun
  | [d1, d2] => { results := [.lit (.bool false)], args := [d1, d2] }
  | _ => none }
def FnExactHuePlusWrongFalsely : Prop := fnExactHuePlusRow.holds Try.pinned (OpenSpec.ofChange fnExactHuePlusWrong)

/-- 'laws.FnExactHueThrough': WHATEVER THE INPUT: true; the input reads as it did. -/
def fnExactHueThroughSpec : ChangeSpec := { name := "fnExactHueThrough", fn := fun _ => fun
  | [d1, d2] => { results := [.lit (.bool true)], args := [d1, d2] }
  | _ => none }
def fnExactHueThroughRow : OpenClaim := { program := "ytegibpepdndocaa", sum := "24b3f27ebf18aee410f3bffa1e0b22bc04bf122383cf608ecfcf680b174d931b", func := "loop.example/wholelight/laws.FnExactHueThrough", spec := "fnExactHueThrough", apart := false }
def FnExactHueThroughSaid : Prop := fnExactHueThroughRow.holds Try.pinned (OpenSpec.ofChange fnExactHueThroughSpec)

/-- ITS FALSE NEIGHBOUR: 'it returns false'. Refute it at one input. -/
def fnExactHueThroughWrong : ChangeSpec := { name := "fnExactHueThrough", fn := fun _ => fun
  | [d1, d2] => { results := [.lit (.bool false)], args := [d1, d2] }
  | _ => none }
def FnExactHueThroughWrongFalsely : Prop := fnExactHueThroughRow.holds Try.pinned (OpenSpec.ofChange fnExactHueThroughWrong)

/-- 'laws.FnExactHueFar': WHATEVER THE INPUT: true; the input reads as it did. -/
def fnExactHueFarSpec : ChangeSpec := { name := "fnExactHueFar", fn := fun _ => fun
  | [d1, d2] => { results := [.lit (.bool true)], args := [d1, d2] }
  | _ => none }
def fnExactHueFarRow : OpenClaim := { program := "ytegibpepdndocaa", sum := "24b3f27ebf18aee410f3bffa1e0b22bc04bf122383cf608ecfcf680b174d931b", func := "loop.example/wholelight/laws.FnExactHueFar", spec := "fnExactHueFar", apart := false }
def FnExactHueFarSaid : Prop := fnExactHueFarRow.holds Try.pinned (OpenSpec.ofChange fnExactHueFarSpec)

/-- ITS FALSE NEIGHBOUR: 'it returns false'. Refute it at one input. -/
def fnExactHueFarWrong : ChangeSpec := { name := "fnExactHueFar", fn := fun _ => fun
  | [d1, d2] => { results := [.lit (.bool false)], args := [d1, d2] }
  | _ => none }
def FnExactHueFarWrongFalsely : Prop := fnExactHueFarRow.holds Try.pinned (OpenSpec.ofChange fnExactHueFarWrong)

/-- 'laws.FnExactHueNear': WHATEVER THE INPUT: true; the input reads as it did. -/
def fnExactHueNearSpec : ChangeSpec := { name := "fnExactHueNear", fn := fun _ => fun
  | [d1, d2] => { results := [.lit (.bool true)], args := [d1, d2] }
  | _ => none }
def fnExactHueNearRow : OpenClaim := { program := "ytegibpepdndocaa", sum := "24b3f27ebf18aee410f3bffa1e0b22bc04bf122383cf608ecfcf680b174d931b", func := "loop.example/wholelight/laws.FnExactHueNear", spec := "fnExactHueNear", apart := false }
def FnExactHueNearSaid : Prop := fnExactHueNearRow.holds Try.pinned (OpenSpec.ofChange fnExactHueNearSpec)

/-- ITS FALSE NEIGHBOUR: 'it returns false'. Refute it at one input. -/
def fnExactHueNearWrong : ChangeSpec := { name := "fnExactHueNear", fn := fun _ => fun
  | [d1, d2] => { results := [.lit (.bool false)], args := [d1, d2] }
  | _ => none }
def FnExactHueNearWrongFalsely : Prop := fnExactHueNearRow.holds Try.pinned (OpenSpec.ofChange fnExactHueNearWrong)

/-- 'laws.FnExactHueText': WHATEVER THE INPUT: true; the input reads as it did. -/
def fnExactHueTextSpec : ChangeSpec := { name := "fnExactHueText", fn := fun _ => fun
  | [d] => { results := [.lit (.bool true)], args := [d] }
  | _ => none }
def fnExactHueTextRow : OpenClaim := { program := "ytegibpepdndocaa", sum := "24b3f27ebf18aee410f3bffa1e0b22bc04bf122383cf608ecfcf680b174d931b", func := "loop.example/wholelight/laws.FnExactHueText", spec := "fnExactHueText", apart := false }
def FnExactHueTextSaid : Prop := fnExactHueTextRow.holds Try.pinned (OpenSpec.ofChange fnExactHueTextSpec)

/-- ITS FALSE NEIGHBOUR: 'it returns false'. Refute it at one input. -/
def fnExactHueTextWrong : ChangeSpec := { name := "fnExactHueText", fn := fun _ => fun
  | [d] => { results := [.lit (.bool false)], args := [d] }
  | _ => none }
def FnExactHueTextWrongFalsely : Prop := fnExactHueTextRow.holds Try.pinned (OpenSpec.ofChange fnExactHueTextWrong)

/-- 'laws.FnExactHueRead': WHATEVER THE INPUT: true; the input reads as it did. -/
def fnExactHueReadSpec : ChangeSpec := { name := "fnExactHueRead", fn := fun _ => fun
  | [d] => { results := [.lit (.bool true)], args := [d] }
  | _ => none }
def fnExactHueReadRow : OpenClaim := { program := "ytegibpepdndocaa", sum := "24b3f27ebf18aee410f3bffa1e0b22bc04bf122383cf608ecfcf680b174d931b", func := "loop.example/wholelight/laws.FnExactHueRead", spec := "fnExactHueRead", inPlace := ["internal/bytealg.IndexByteString"], apart := false }
def FnExactHueReadSaid : Prop := fnExactHueReadRow.holds Try.pinned (OpenSpec.ofChange fnExactHueReadSpec)

/-- ITS FALSE NEIGHBOUR: 'it returns false'. Refute it at one input. -/
def fnExactHueReadWrong : ChangeSpec := { name := "fnExactHueRead", fn := fun _ => fun
  | [d] => { results := [.lit (.bool false)], args := [d] }
  | _ => none }
def FnExactHueReadWrongFalsely : Prop := fnExactHueReadRow.holds Try.pinned (OpenSpec.ofChange fnExactHueReadWrong)

/-- 'laws.FnExactHueGrey': WHATEVER THE INPUT: true; the input reads as it did. -/
def fnExactHueGreySpec : ChangeSpec := { name := "fnExactHueGrey", fn := fun _ => fun
  | [d] => { results := [.lit (.bool true)], args := [d] }
  | _ => none }
def fnExactHueGreyRow : OpenClaim := { program := "ytegibpepdndocaa", sum := "24b3f27ebf18aee410f3bffa1e0b22bc04bf122383cf608ecfcf680b174d931b", func := "loop.example/wholelight/laws.FnExactHueGrey", spec := "fnExactHueGrey", apart := false }
def FnExactHueGreySaid : Prop := fnExactHueGreyRow.holds Try.pinned (OpenSpec.ofChange fnExactHueGreySpec)

/-- ITS FALSE NEIGHBOUR: 'it returns false'. Refute it at one input. -/
def fnExactHueGreyWrong : ChangeSpec := { name := "fnExactHueGrey", fn := fun _ => fun
  | [d] => { results := [.lit (.bool false)], args := [d] }
  | _ => none }
def FnExactHueGreyWrongFalsely : Prop := fnExactHueGreyRow.holds Try.pinned (OpenSpec.ofChange fnExactHueGreyWrong)

/-- 'laws.FnHues': WHATEVER THE INPUT: true; the input reads as it did. -/
def fnHuesSpec : ChangeSpec := { name := "fnHues", fn := fun _ => fun
  | [d] => { results := [.lit (.bool true)], args := [d] }
  | _ => none }
def fnHuesRow : OpenClaim := { program := "ytegibpepdndocaa", sum := "24b3f27ebf18aee410f3bffa1e0b22bc04bf122383cf608ecfcf680b174d931b", func := "loop.example/wholelight/laws.FnHues", spec := "fnHues", apart := false }
def FnHuesSaid : Prop := fnHuesRow.holds Try.pinned (OpenSpec.ofChange fnHuesSpec)

/-- ITS FALSE NEIGHBOUR: 'it returns false'. Refute it at one input. -/
def fnHuesWrong : ChangeSpec := { name := "fnHues", fn := fun _ => fun
  | [d] => { results := [.lit (.bool false)], args := [d] }
  | _ => none }
def FnHuesWrongFalsely : Prop := fnHuesRow.holds Try.pinned (OpenSpec.ofChange fnHuesWrong)

/-- 'laws.FnHueNear': WHATEVER THE INPUT: true; the input reads as it did. -/
def fnHueNearSpec : ChangeSpec := { name := "fnHueNear", fn := fun _ => fun
  | [d] => { results := [.lit (.bool true)], args := [d] }
  | _ => none }
def fnHueNearRow : OpenClaim := { program := "ytegibpepdndocaa", sum := "24b3f27ebf18aee410f3bffa1e0b22bc04bf122383cf608ecfcf680b174d931b", func := "loop.example/wholelight/laws.FnHueNear", spec := "fnHueNear", apart := false }
def FnHueNearSaid : Prop := fnHueNearRow.holds Try.pinned (OpenSpec.ofChange fnHueNearSpec)

/-- ITS FALSE NEIGHBOUR: 'it returns false'. Refute it at one input. -/
def fnHueNearWrong : ChangeSpec := { name := "fnHueNear", fn := fun _ => fun
  | [d] => { results := [.lit (.bool false)], args := [d] }
  | _ => none }
def FnHueNearWrongFalsely : Prop := fnHueNearRow.holds Try.pinned (OpenSpec.ofChange fnHueNearWrong)

/-- 'laws.FnHueText': WHATEVER THE INPUT: true; the input reads as it did. -/
def fnHueTextSpec : ChangeSpec := { name := "fnHueText", fn := fun _ => fun
  | [d] => { results := [.lit (.bool true)], args := [d] }
  | _ => none }
def fnHueTextRow : OpenClaim := { program := "ytegibpepdndocaa", sum := "24b3f27ebf18aee410f3bffa1e0b22bc04bf122383cf608ecfcf680b174d931b", func := "loop.example/wholelight/laws.FnHueText", spec := "fnHueText", inPlace := ["internal/bytealg.IndexByteString"], apart := false }
def FnHueTextSaid : Prop := fnHueTextRow.holds Try.pinned (OpenSpec.ofChange fnHueTextSpec)

/-- ITS FALSE NEIGHBOUR: 'it returns false'. Refute it at one input. -/
def fnHueTextWrong : ChangeSpec := { name := "fnHueText", fn := fun _ => fun
  | [d] => { results := [.lit (.bool false)], args := [d] }
  | _ => none }
def FnHueTextWrongFalsely : Prop := fnHueTextRow.holds Try.pinned (OpenSpec.ofChange fnHueTextWrong)

/- THE SECOND FORM. 'bulk': how many values and letters a reading holds, each counted each time it is reached (what is shared counts as often as it is met; a slice's spare places count too). A statement '..UptoSaid' is the law's where the arguments, and the package variables that the reading takes, are together of bulk at most 1048576: NARROWER than '..Said'. Prove '..Said' where nothing that the law and all that it calls make is longer than what came in: it says more and counts as full. Else prove '..UptoSaid'. A law counts once. -/
mutual
def uptoBulk {H : Type} : DataW H → Nat
  | .lit (.string bytes) => bytes.length + 1
  | .lit _ => 1
  | .nil => 1
  | .ptr d => uptoBulk d + 1
  | .slice elems spare => uptoBulkAll elems + uptoBulkAll spare + 1
  | .agg parts => uptoBulkAll parts + 1
  | .iface _ d => uptoBulk d + 1
  | .map entries => uptoBulkEntries entries + 1
  | .held _ => 1
def uptoBulkAll {H : Type} : List (DataW H) → Nat
  | [] => 0
  | d :: r => uptoBulk d + uptoBulkAll r
def uptoBulkEntries {H : Type} : List (Lit × DataW H) → Nat
  | [] => 0
  | x :: r => uptoBulkEntry x + uptoBulkEntries r
def uptoBulkEntry {H : Type} : Lit × DataW H → Nat
  | (.string bytes, d) => bytes.length + uptoBulk d + 1
  | (_, d) => uptoBulk d + 1
 end
def uptoSmall : (H : Type) → List (DataW H) → Bool := fun _ ds => decide (uptoBulkAll ds ≤ 1048576)
def OpenSpec.upto (s : _root_.Go.ChangeSpec) : _root_.Go.OpenSpec := { _root_.Go.OpenSpec.ofChange s with cond := some uptoSmall }

/-- 'laws.FnExactHueOk', WHERE WHAT IT READS IS OF BULK AT MOST 1048576: true; the input reads as it did. -/
def fnExactHueOkUptoRow : OpenClaim := { program := "ytegibpepdndocaa", sum := "24b3f27ebf18aee410f3bffa1e0b22bc04bf122383cf608ecfcf680b174d931b", func := "loop.example/wholelight/laws.FnExactHueOk", spec := "fnExactHueOk", apart := false, narrowed := true }
def FnExactHueOkUptoSaid : Prop := fnExactHueOkUptoRow.holds Try.pinned (OpenSpec.upto fnExactHueOkSpec)

/-- 'laws.FnExactHueMix', WHERE WHAT IT READS IS OF BULK AT MOST 1048576: true; the input reads as it did. -/
def fnExactHueMixUptoRow : OpenClaim := { program := "ytegibpepdndocaa", sum := "24b3f27ebf18aee410f3bffa1e0b22bc04bf122383cf608ecfcf680b174d931b", func := "loop.example/wholelight/laws.FnExactHueMix", spec := "fnExactHueMix", apart := false, narrowed := true }
def FnExactHueMixUptoSaid : Prop := fnExactHueMixUptoRow.holds Try.pinned (OpenSpec.upto fnExactHueMixSpec)

/-- 'laws.FnExactHueTimes', WHERE WHAT IT READS IS OF BULK AT MOST 1048576: true; the input reads as it did. -/
def fnExactHueTimesUptoRow : OpenClaim := { program := "ytegibpepdndocaa", sum := "24b3f27ebf18aee410f3bffa1e0b22bc04bf122383cf608ecfcf680b174d931b", func := "loop.example/wholelight/laws.FnExactHueTimes", spec := "fnExactHueTimes", apart := false, narrowed := true }
def FnExactHueTimesUptoSaid : Prop := fnExactHueTimesUptoRow.holds Try.pinned (OpenSpec.upto fnExactHueTimesSpec)

/-- 'laws.FnExactHuePlus', WHERE WHAT IT READS IS OF BULK AT MOST 1048576: true; the input reads as it did. -/
def fnExactHuePlusUptoRow : OpenClaim := { program := "ytegibpepdndocaa", sum := "24b3f27ebf18aee410f3bffa1e0b22bc04bf122383cf608ecfcf680b174d931b", func := "loop.example/wholelight/laws.FnExactHuePlus", spec := "fnExactHuePlus", apart := false, narrowed := true }
def FnExactHuePlusUptoSaid : Prop := fnExactHuePlusUptoRow.holds Try.pinned (OpenSpec.upto fnExactHuePlusSpec)

/-- 'laws.FnExactHueThrough', WHERE WHAT IT READS IS OF BULK AT MOST 1048576: true; the input reads as it did. -/
def fnExactHueThroughUptoRow : OpenClaim := { program := "ytegibpepdndocaa", sum := "24b3f27ebf18aee410f3bffa1e0b22bc04bf122383cf608ecfcf680b174d931b", func := "loop.example/wholelight/laws.FnExactHueThrough", spec := "fnExactHueThrough", apart := false, narrowed := true }
def FnExactHueThroughUptoSaid : Prop := fnExactHueThroughUptoRow.holds Try.pinned (OpenSpec.upto fnExactHueThroughSpec)

/-- 'laws.FnExactHueFar', WHERE WHAT IT READS IS OF BULK AT MOST 1048576: true; the input reads as it did. -/
def fnExactHueFarUptoRow : OpenClaim := { program := "ytegibpepdndocaa", sum := "24b3f27ebf18aee410f3bffa1e0b22bc04bf122383cf608ecfcf680b174d931b", func := "loop.example/wholelight/laws.FnExactHueFar", spec := "fnExactHueFar", apart := false, narrowed := true }
def FnExactHueFarUptoSaid : Prop := fnExactHueFarUptoRow.holds Try.pinned (OpenSpec.upto fnExactHueFarSpec)

/-- 'laws.FnExactHueNear', WHERE WHAT IT READS IS OF BULK AT MOST 1048576: true; the input reads as it did. -/
def fnExactHueNearUptoRow : OpenClaim := { program := "ytegibpepdndocaa", sum := "24b3f27ebf18aee410f3bffa1e0b22bc04bf122383cf608ecfcf680b174d931b", func := "loop.example/wholelight/laws.FnExactHueNear", spec := "fnExactHueNear", apart := false, narrowed := true }
def FnExactHueNearUptoSaid : Prop := fnExactHueNearUptoRow.holds Try.pinned (OpenSpec.upto fnExactHueNearSpec)

/-- 'laws.FnExactHueText', WHERE WHAT IT READS IS OF BULK AT MOST 1048576: true; the input reads as it did. -/
def fnExactHueTextUptoRow : OpenClaim := { program := "ytegibpepdndocaa", sum := "24b3f27ebf18aee410f3bffa1e0b22bc04bf122383cf608ecfcf680b174d931b", func := "loop.example/wholelight/laws.FnExactHueText", spec := "fnExactHueText", apart := false, narrowed := true }
def FnExactHueTextUptoSaid : Prop := fnExactHueTextUptoRow.holds Try.pinned (OpenSpec.upto fnExactHueTextSpec)

/-- 'laws.FnExactHueRead', WHERE WHAT IT READS IS OF BULK AT MOST 1048576: true; the input reads as it did. -/
def fnExactHueReadUptoRow : OpenClaim := { program := "ytegibpepdndocaa", sum := "24b3f27ebf18aee410f3bffa1e0b22bc04bf122383cf608ecfcf680b174d931b", func := "loop.example/wholelight/laws.FnExactHueRead", spec := "fnExactHueRead", inPlace := ["internal/bytealg.IndexByteString"], apart := false, narrowed := true }
def FnExactHueReadUptoSaid : Prop := fnExactHueReadUptoRow.holds Try.pinned (OpenSpec.upto fnExactHueReadSpec)

/-- 'laws.FnExactHueGrey', WHERE WHAT IT READS IS OF BULK AT MOST 1048576: true; the input reads as it did. -/
def fnExactHueGreyUptoRow : OpenClaim := { program := "ytegibpepdndocaa", sum := "24b3f27ebf18aee410f3bffa1e0b22bc04bf122383cf608ecfcf680b174d931b", func := "loop.example/wholelight/laws.FnExactHueGrey", spec := "fnExactHueGrey", apart := false, narrowed := true }
def FnExactHueGreyUptoSaid : Prop := fnExactHueGreyUptoRow.holds Try.pinned (OpenSpec.upto fnExactHueGreySpec)

/-- 'laws.FnHues', WHERE WHAT IT READS IS OF BULK AT MOST 1048576: true; the input reads as it did. -/
def fnHuesUptoRow : OpenClaim := { program := "ytegibpepdndocaa", sum := "24b3f27ebf18aee410f3bffa1e0b22bc04bf122383cf608ecfcf680b174d931b", func := "loop.example/wholelight/laws.FnHues", spec := "fnHues", apart := false, narrowed := true }
def FnHuesUptoSaid : Prop := fnHuesUptoRow.holds Try.pinned (OpenSpec.upto fnHuesSpec)

/-- 'laws.FnHueNear', WHERE WHAT IT READS IS OF BULK AT MOST 1048576: true; the input reads as it did. -/
def fnHueNearUptoRow : OpenClaim := { program := "ytegibpepdndocaa", sum := "24b3f27ebf18aee410f3bffa1e0b22bc04bf122383cf608ecfcf680b174d931b", func := "loop.example/wholelight/laws.FnHueNear", spec := "fnHueNear", apart := false, narrowed := true }
def FnHueNearUptoSaid : Prop := fnHueNearUptoRow.holds Try.pinned (OpenSpec.upto fnHueNearSpec)

/-- 'laws.FnHueText', WHERE WHAT IT READS IS OF BULK AT MOST 1048576: true; the input reads as it did. -/
def fnHueTextUptoRow : OpenClaim := { program := "ytegibpepdndocaa", sum := "24b3f27ebf18aee410f3bffa1e0b22bc04bf122383cf608ecfcf680b174d931b", func := "loop.example/wholelight/laws.FnHueText", spec := "fnHueText", inPlace := ["internal/bytealg.IndexByteString"], apart := false, narrowed := true }
def FnHueTextUptoSaid : Prop := fnHueTextUptoRow.holds Try.pinned (OpenSpec.upto fnHueTextSpec)

end Rows
end Go.Proofs.Ytegibpepdndocaa
