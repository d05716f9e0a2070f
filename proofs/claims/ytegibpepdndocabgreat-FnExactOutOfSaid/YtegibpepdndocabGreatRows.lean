/-
  No cell of these rows narrows 'for every input' (looked for: loops, veiled, ifaces, maps, wideKeys, modest, calm, conditions, laid).
  DERIVED. THE GIVEN ROWS OF THIS SEAT. 12 by the template 'for every input the law returns true; each argument reads behind the call as it read before'; 0 by the template 'total and deterministic' (their statements: YtegibpepdndocabGreatTotals.lean).
  GIVEN WITH THE SEED: the statements are not yours to turn. If you find one false, say at which input.
  Laid BY PROGRAM, IN A SANDBOX (cutbox-rows.mjs): the forced cells as the released guide's own fill.sh prints them over the translation 11640403a7d590c5… (all of the seat's roots in one cut). By AI agents, Wed Nov 11 2026. No macro, syntax, notation, axiom, sorry.
-/
import Derived.Test.YtegibpepdndocabGreatChecked
import GoSem.Claim
import GoSem.ClaimJoined
import GoSem.ClaimMapViews
import Derived.JoinedTies
import Derived.KernelRfl
namespace Go.Proofs.YtegibpepdndocabGreat
/- THE CELL 'sum', in the pinned program and in every row, IS THE sha256 OF THE DUMP (.gsa) THAT YtegibpepdndocabGreatProg.lean LOADS. Nothing in Lean hashes anything: it is a label: what it is worth is what the hold of that sum in a sandbox is worth. -/
noncomputable def Tryz.pinned : Pinned := { name := "ytegibpepdndocabgreat", sum := "11640403a7d590c5ab88ea3701b25b58761b9057187607eb149202a729e9530f", checked := Tryz.checked }
namespace Rows
def none {H : Type} : Left H := { results := [], args := [] }

/-- 'laws.FnExactOutOf': WHATEVER THE INPUT: true; the input reads as it did. -/
def fnExactOutOfSpec : ChangeSpec := { name := "fnExactOutOf", fn := fun _ => fun
  | [d1, d2, d3] => { results := [.lit (.bool true)], args := [d1, d2, d3] }
  | _ => none }
def fnExactOutOfRow : OpenClaim := { program := "ytegibpepdndocabgreat", sum := "11640403a7d590c5ab88ea3701b25b58761b9057187607eb149202a729e9530f", func := "loop.example/wholelight/laws.FnExactOutOf", spec := "fnExactOutOf", unfollowed := true, recurses := true, apart := false }
def FnExactOutOfSaid : Prop := fnExactOutOfRow.holds Tryz.pinned (OpenSpec.ofChange fnExactOutOfSpec)

/-- ITS FALSE NEIGHBOUR: 'it returns false'. Refute it at one input. -/
def fnExactOutOfWrong : ChangeSpec := { name := "fnExactOutOf", fn := fun _ => fun
  | [d1, d2, d3] => { results := [.lit (.bool false)], args := [d1, d2, d3] }
  | _ => none }
def FnExactOutOfWrongFalsely : Prop := fnExactOutOfRow.holds Tryz.pinned (OpenSpec.ofChange fnExactOutOfWrong)

/-- 'laws.FnExactBlocked': WHATEVER THE INPUT: true; the input reads as it did. -/
def fnExactBlockedSpec : ChangeSpec := { name := "fnExactBlocked", fn := fun _ => fun
  | [d1, d2, d3, d4] => { results := [.lit (.bool true)], args := [d1, d2, d3, d4] }
  | _ => none }
def fnExactBlockedRow : OpenClaim := { program := "ytegibpepdndocabgreat", sum := "11640403a7d590c5ab88ea3701b25b58761b9057187607eb149202a729e9530f", func := "loop.example/wholelight/laws.FnExactBlocked", spec := "fnExactBlocked", unfollowed := true, recurses := true, apart := false }
def FnExactBlockedSaid : Prop := fnExactBlockedRow.holds Tryz.pinned (OpenSpec.ofChange fnExactBlockedSpec)

/-- ITS FALSE NEIGHBOUR: 'it returns false'. Refute it at one input. -/
def fnExactBlockedWrong : ChangeSpec := { name := "fnExactBlocked", fn := fun _ => fun
  | [d1, d2, d3, d4] => { results := [.lit (.bool false)], args := [d1, d2, d3, d4] }
  | _ => none }
def FnExactBlockedWrongFalsely : Prop := fnExactBlockedRow.holds Tryz.pinned (OpenSpec.ofChange fnExactBlockedWrong)

/-- 'laws.FnExactFirstMeet': WHATEVER THE INPUT: true; the input reads as it did. -/
def fnExactFirstMeetSpec : ChangeSpec := { name := "fnExactFirstMeet", fn := fun _ => fun
  | [d1, d2, d3] => { results := [.lit (.bool true)], args := [d1, d2, d3] }
  | _ => none }
def fnExactFirstMeetRow : OpenClaim := { program := "ytegibpepdndocabgreat", sum := "11640403a7d590c5ab88ea3701b25b58761b9057187607eb149202a729e9530f", func := "loop.example/wholelight/laws.FnExactFirstMeet", spec := "fnExactFirstMeet", unfollowed := true, recurses := true, apart := false }
def FnExactFirstMeetSaid : Prop := fnExactFirstMeetRow.holds Tryz.pinned (OpenSpec.ofChange fnExactFirstMeetSpec)

/-- ITS FALSE NEIGHBOUR: 'it returns false'. Refute it at one input. -/
def fnExactFirstMeetWrong : ChangeSpec := { name := "fnExactFirstMeet", fn := fun _ => fun
  | [d1, d2, d3] => { results := [.lit (.bool false)], args := [d1, d2, d3] }
  | _ => none }
def FnExactFirstMeetWrongFalsely : Prop := fnExactFirstMeetRow.holds Tryz.pinned (OpenSpec.ofChange fnExactFirstMeetWrong)

/-- 'laws.FnExactAllMeets': WHATEVER THE INPUT: true; the input reads as it did. -/
def fnExactAllMeetsSpec : ChangeSpec := { name := "fnExactAllMeets", fn := fun _ => fun
  | [d1, d2, d3] => { results := [.lit (.bool true)], args := [d1, d2, d3] }
  | _ => none }
def fnExactAllMeetsRow : OpenClaim := { program := "ytegibpepdndocabgreat", sum := "11640403a7d590c5ab88ea3701b25b58761b9057187607eb149202a729e9530f", func := "loop.example/wholelight/laws.FnExactAllMeets", spec := "fnExactAllMeets", unfollowed := true, recurses := true, apart := false }
def FnExactAllMeetsSaid : Prop := fnExactAllMeetsRow.holds Tryz.pinned (OpenSpec.ofChange fnExactAllMeetsSpec)

/-- ITS FALSE NEIGHBOUR: 'it returns false'. Refute it at one input. -/
def fnExactAllMeetsWrong : ChangeSpec := { name := "fnExactAllMeets", fn := fun _ => fun
  | [d1, d2, d3] => { results := [.lit (.bool false)], args := [d1, d2, d3] }
  | _ => none }
def FnExactAllMeetsWrongFalsely : Prop := fnExactAllMeetsRow.holds Tryz.pinned (OpenSpec.ofChange fnExactAllMeetsWrong)

/-- 'laws.FnSolidCut': WHATEVER THE INPUT: true; the input reads as it did. -/
def fnSolidCutSpec : ChangeSpec := { name := "fnSolidCut", fn := fun _ => fun
  | [d] => { results := [.lit (.bool true)], args := [d] }
  | _ => none }
def fnSolidCutRow : OpenClaim := { program := "ytegibpepdndocabgreat", sum := "11640403a7d590c5ab88ea3701b25b58761b9057187607eb149202a729e9530f", func := "loop.example/wholelight/laws.FnSolidCut", spec := "fnSolidCut", unfollowed := true, recurses := true, apart := false }
def FnSolidCutSaid : Prop := fnSolidCutRow.holds Tryz.pinned (OpenSpec.ofChange fnSolidCutSpec)

/-- ITS FALSE NEIGHBOUR: 'it returns false'. Refute it at one input. -/
def fnSolidCutWrong : ChangeSpec := { name := "fnSolidCut", fn := fun _ => fun
  | [d] => { results := [.lit (.bool false)], args := [d] }
  | _ => none }
def FnSolidCutWrongFalsely : Prop := fnSolidCutRow.holds Tryz.pinned (OpenSpec.ofChange fnSolidCutWrong)

/-- 'laws.FnSolidHas': WHATEVER THE INPUT: true; the input reads as it did. -/
def fnSolidHasSpec : ChangeSpec := { name := "fnSolidHas", fn := fun _ => fun
  | [d] => { results := [.lit (.bool true)], args := [d] }
  | _ => none }
def fnSolidHasRow : OpenClaim := { program := "ytegibpepdndocabgreat", sum := "11640403a7d590c5ab88ea3701b25b58761b9057187607eb149202a729e9530f", func := "loop.example/wholelight/laws.FnSolidHas", spec := "fnSolidHas", unfollowed := true, recurses := true, apart := false }
def FnSolidHasSaid : Prop := fnSolidHasRow.holds Tryz.pinned (OpenSpec.ofChange fnSolidHasSpec)

/-- ITS FALSE NEIGHBOUR: 'it returns false'. Refute it at one input. -/
def fnSolidHasWrong : ChangeSpec := { name := "fnSolidHas", fn := fun _ => fun
  | [d] => { results := [.lit (.bool false)], args := [d] }
  | _ => none }
def FnSolidHasWrongFalsely : Prop := fnSolidHasRow.holds Tryz.pinned (OpenSpec.ofChange fnSolidHasWrong)

/-- 'laws.FnSolidMoved': WHATEVER THE INPUT: true; the input reads as it did. -/
def fnSolidMovedSpec : ChangeSpec := { name := "fnSolidMoved", fn := fun _ => fun
  | [d] => { results := [.lit (.bool true)], args := [d] }
  | _ => none }
def fnSolidMovedRow : OpenClaim := { program := "ytegibpepdndocabgreat", sum := "11640403a7d590c5ab88ea3701b25b58761b9057187607eb149202a729e9530f", func := "loop.example/wholelight/laws.FnSolidMoved", spec := "fnSolidMoved", unfollowed := true, recurses := true, apart := false }
def FnSolidMovedSaid : Prop := fnSolidMovedRow.holds Tryz.pinned (OpenSpec.ofChange fnSolidMovedSpec)

/-- ITS FALSE NEIGHBOUR: 'it returns false'. Refute it at one input. -/
def fnSolidMovedWrong : ChangeSpec := { name := "fnSolidMoved", fn := fun _ => fun
  | [d] => { results := [.lit (.bool false)], args := [d] }
  | _ => none }
def FnSolidMovedWrongFalsely : Prop := fnSolidMovedRow.holds Tryz.pinned (OpenSpec.ofChange fnSolidMovedWrong)

/-- 'laws.FnSolidWith': WHATEVER THE INPUT: true; the input reads as it did. -/
def fnSolidWithSpec : ChangeSpec := { name := "fnSolidWith", fn := fun _ => fun
  | [d] => { results := [.lit (.bool true)], args := [d] }
  | _ => none }
def fnSolidWithRow : OpenClaim := { program := "ytegibpepdndocabgreat", sum := "11640403a7d590c5ab88ea3701b25b58761b9057187607eb149202a729e9530f", func := "loop.example/wholelight/laws.FnSolidWith", spec := "fnSolidWith", unfollowed := true, recurses := true, apart := false }
def FnSolidWithSaid : Prop := fnSolidWithRow.holds Tryz.pinned (OpenSpec.ofChange fnSolidWithSpec)

/-- ITS FALSE NEIGHBOUR: 'it returns false'. Refute it at one input. -/
def fnSolidWithWrong : ChangeSpec := { name := "fnSolidWith", fn := fun _ => fun
  | [d] => { results := [.lit (.bool false)], args := [d] }
  | _ => none }
def FnSolidWithWrongFalsely : Prop := fnSolidWithRow.holds Tryz.pinned (OpenSpec.ofChange fnSolidWithWrong)

/-- 'laws.FnOutOf': WHATEVER THE INPUT: true; the input reads as it did. -/
def fnOutOfSpec : ChangeSpec := { name := "fnOutOf", fn := fun _ => fun
  | [d] => { results := [.lit (.bool true)], args := [d] }
  | _ => none }
def fnOutOfRow : OpenClaim := { program := "ytegibpepdndocabgreat", sum := "11640403a7d590c5ab88ea3701b25b58761b9057187607eb149202a729e9530f", func := "loop.example/wholelight/laws.FnOutOf", spec := "fnOutOf", unfollowed := true, recurses := true, apart := false }
def FnOutOfSaid : Prop := fnOutOfRow.holds Tryz.pinned (OpenSpec.ofChange fnOutOfSpec)

/-- ITS FALSE NEIGHBOUR: 'it returns false'. Refute it at one input. -/
def fnOutOfWrong : ChangeSpec := { name := "fnOutOf", fn := fun _ => fun
  | [d] => { results := [.lit (.bool false)], args := [d] }
  | _ => none }
def FnOutOfWrongFalsely : Prop := fnOutOfRow.holds Tryz.pinned (OpenSpec.ofChange fnOutOfWrong)

/-- 'laws.FnFirstMeet': WHATEVER THE INPUT: true; the input reads as it did. -/
def fnFirstMeetSpec : ChangeSpec := { name := "fnFirstMeet", fn := fun _ => fun
  | [d] => { results := [.lit (.bool true)], args := [d] }
  | _ => none }
def fnFirstMeetRow : OpenClaim := { program := "ytegibpepdndocabgreat", sum := "11640403a7d590c5ab88ea3701b25b58761b9057187607eb149202a729e9530f", func := "loop.example/wholelight/laws.FnFirstMeet", spec := "fnFirstMeet", unfollowed := true, recurses := true, apart := false }
def FnFirstMeetSaid : Prop := fnFirstMeetRow.holds Tryz.pinned (OpenSpec.ofChange fnFirstMeetSpec)

/-- ITS FALSE NEIGHBOUR: 'it returns false'. Refute it at one input. -/
def fnFirstMeetWrong : ChangeSpec := { name := "fnFirstMeet", fn := fun _ => fun
  | [d] => { results := [.lit (.bool false)], args := [d] }
  | _ => none }
def FnFirstMeetWrongFalsely : Prop := fnFirstMeetRow.holds Tryz.pinned (OpenSpec.ofChange fnFirstMeetWrong)

/-- 'laws.FnAllMeets': WHATEVER THE INPUT: true; the input reads as it did. -/
def fnAllMeetsSpec : ChangeSpec := { name := "fnAllMeets", fn := fun _ => fun
  | [d] => { results := [.lit (.bool true)], args := [d] }
  | _ => none }
def fnAllMeetsRow : OpenClaim := { program := "ytegibpepdndocabgreat", sum := "11640403a7d590c5ab88ea3701b25b58761b9057187607eb149202a729e9530f", func := "loop.example/wholelight/laws.FnAllMeets", spec := "fnAllMeets", unfollowed := true, recurses := true, apart := false }
def FnAllMeetsSaid : Prop := fnAllMeetsRow.holds Tryz.pinned (OpenSpec.ofChange fnAllMeetsSpec)

/-- ITS FALSE NEIGHBOUR: 'it returns false'. Refute it at one input. -/
def fnAllMeetsWrong : ChangeSpec := { name := "fnAllMeets", fn := fun _ => fun
  | [d] => { results := [.lit (.bool false)], args := [d] }
  | _ => none }
def FnAllMeetsWrongFalsely : Prop := fnAllMeetsRow.holds Tryz.pinned (OpenSpec.ofChange fnAllMeetsWrong)

/-- 'laws.FnBlocked': WHATEVER THE INPUT: true; the input reads as it did. -/
def fnBlockedSpec : ChangeSpec := { name := "fnBlocked", fn := fun _ => fun
  | [d] => { results := [.lit (.bool true)], args := [d] }
  | _ => none }
def fnBlockedRow : OpenClaim := { program := "ytegibpepdndocabgreat", sum := "11640403a7d590c5ab88ea3701b25b58761b9057187607eb149202a729e9530f", func := "loop.example/wholelight/laws.FnBlocked", spec := "fnBlocked", unfollowed := true, recurses := true, apart := false }
def FnBlockedSaid : Prop := fnBlockedRow.holds Tryz.pinned (OpenSpec.ofChange fnBlockedSpec)

/-- ITS FALSE NEIGHBOUR: 'it returns false'. Refute it at one input. -/
def fnBlockedWrong : ChangeSpec := { name := "fnBlocked", fn := fun _ => fun
  | [d] => { results := [.lit (.bool false)], args := [d] }
  | _ => none }
def FnBlockedWrongFalsely : Prop := fnBlockedRow.holds Tryz.pinned (OpenSpec.ofChange fnBlockedWrong)

/- THE SECOND FORM. 'bulk': how many values and letters a reading holds, each counted each time it is reached (what is shared counts as often as it is met; a slice's spare places count too). A statement '..UptoSaid' is the law's where the arguments, and the package variables that the reading takes, are together of bulk at most 1048576: NARROWER than '..Said'. Prove '..Said' where nothing that the law and all that it calls make is longer than what came in: it says more and counts as full. Else prove '..UptoSaid'. A law counts once. -/
mutual
def uptoBulk {H : Type} : DataW H → Nat
  | .lit (.string bytes) => bytes.length + 1
  | .lit _ => 1
  | .nil => 1
  | .ptr d => uptoBulk d + 1
  | .slice elems spare => uptoBulkAll elems + uptoBulkAll spare + 1
  | .agg parts => uptoBulkAll parts + 1
  | .iface _ d => uptoBulk d + 1
  | .map entries => uptoBulkEntries entries + 1
  | .held _ => 1
def uptoBulkAll {H : Type} : List (DataW H) → Nat
  | [] => 0
  | d :: r => uptoBulk d + uptoBulkAll r
def uptoBulkEntries {H : Type} : List (Lit × DataW H) → Nat
  | [] => 0
  | x :: r => uptoBulkEntry x + uptoBulkEntries r
def uptoBulkEntry {H : Type} : Lit × DataW H → Nat
  | (.string bytes, d) => bytes.length + uptoBulk d + 1
  | (_, d) => uptoBulk d + 1
 end
def uptoSmall : (H : Type) → List (DataW H) → Bool := fun _ ds => decide (uptoBulkAll ds ≤ 1048576)
def OpenSpec.upto (s : _root_.Go.ChangeSpec) : _root_.Go.OpenSpec := { _root_.Go.OpenSpec.ofChange s with cond := some uptoSmall }

/-- 'laws.FnExactOutOf', WHERE WHAT IT READS IS OF BULK AT MOST 1048576: true; the input reads as it did. -/
def fnExactOutOfUptoRow : OpenClaim := { program := "ytegibpepdndocabgreat", sum := "11640403a7d590c5ab88ea3701b25b58761b9057187607eb149202a729e9530f", func := "loop.example/wholelight/laws.FnExactOutOf", spec := "fnExactOutOf", unfollowed := true, recurses := true, apart := false, narrowed := true }
def FnExactOutOfUptoSaid : Prop := fnExactOutOfUptoRow.holds Tryz.pinned (OpenSpec.upto fnExactOutOfSpec)

/-- 'laws.FnExactBlocked', WHERE WHAT IT READS IS OF BULK AT MOST 1048576: true; the input reads as it did. -/
def fnExactBlockedUptoRow : OpenClaim := { program := "ytegibpepdndocabgreat", sum := "11640403a7d590c5ab88ea3701b25b58761b9057187607eb149202a729e9530f", func := "loop.example/wholelight/laws.FnExactBlocked", spec := "fnExactBlocked", unfollowed := true, recurses := true, apart := false, narrowed := true }
def FnExactBlockedUptoSaid : Prop := fnExactBlockedUptoRow.holds Tryz.pinned (OpenSpec.upto fnExactBlockedSpec)

/-- 'laws.FnExactFirstMeet', WHERE WHAT IT READS IS OF BULK AT MOST 1048576: true; the input reads as it did. -/
def fnExactFirstMeetUptoRow : OpenClaim := { program := "ytegibpepdndocabgreat", sum := "11640403a7d590c5ab88ea3701b25b58761b9057187607eb149202a729e9530f", func := "loop.example/wholelight/laws.FnExactFirstMeet", spec := "fnExactFirstMeet", unfollowed := true, recurses := true, apart := false, narrowed := true }
def FnExactFirstMeetUptoSaid : Prop := fnExactFirstMeetUptoRow.holds Tryz.pinned (OpenSpec.upto fnExactFirstMeetSpec)

/-- 'laws.FnExactAllMeets', WHERE WHAT IT READS IS OF BULK AT MOST 1048576: true; the input reads as it did. -/
def fnExactAllMeetsUptoRow : OpenClaim := { program := "ytegibpepdndocabgreat", sum := "11640403a7d590c5ab88ea3701b25b58761b9057187607eb149202a729e9530f", func := "loop.example/wholelight/laws.FnExactAllMeets", spec := "fnExactAllMeets", unfollowed := true, recurses := true, apart := false, narrowed := true }
def FnExactAllMeetsUptoSaid : Prop := fnExactAllMeetsUptoRow.holds Tryz.pinned (OpenSpec.upto fnExactAllMeetsSpec)

/-- 'laws.FnSolidCut', WHERE WHAT IT READS IS OF BULK AT MOST 1048576: true; the input reads as it did. -/
def fnSolidCutUptoRow : OpenClaim := { program := "ytegibpepdndocabgreat", sum := "11640403a7d590c5ab88ea3701b25b58761b9057187607eb149202a729e9530f", func := "loop.example/wholelight/laws.FnSolidCut", spec := "fnSolidCut", unfollowed := true, recurses := true, apart := false, narrowed := true }
def FnSolidCutUptoSaid : Prop := fnSolidCutUptoRow.holds Tryz.pinned (OpenSpec.upto fnSolidCutSpec)

/-- 'laws.FnSolidHas', WHERE WHAT IT READS IS OF BULK AT MOST 1048576: true; the input reads as it did. -/
def fnSolidHasUptoRow : OpenClaim := { program := "ytegibpepdndocabgreat", sum := "11640403a7d590c5ab88ea3701b25b58761b9057187607eb149202a729e9530f", func := "loop.example/wholelight/laws.FnSolidHas", spec := "fnSolidHas", unfollowed := true, recurses := true, apart := false, narrowed := true }
def FnSolidHasUptoSaid : Prop := fnSolidHasUptoRow.holds Tryz.pinned (OpenSpec.upto fnSolidHasSpec)

/-- 'laws.FnSolidMoved', WHERE WHAT IT READS IS OF BULK AT MOST 1048576: true; the input reads as it did. -/
def fnSolidMovedUptoRow : OpenClaim := { program := "ytegibpepdndocabgreat", sum := "11640403a7d590c5ab88ea3701b25b58761b9057187607eb149202a729e9530f", func := "loop.example/wholelight/laws.FnSolidMoved", spec := "fnSolidMoved", unfollowed := true, recurses := true, apart := false, narrowed := true }
def FnSolidMovedUptoSaid : Prop := fnSolidMovedUptoRow.holds Tryz.pinned (OpenSpec.upto fnSolidMovedSpec)

/-- 'laws.FnSolidWith', WHERE WHAT IT READS IS OF BULK AT MOST 1048576: true; the input reads as it did. -/
def fnSolidWithUptoRow : OpenClaim := { program := "ytegibpepdndocabgreat", sum := "11640403a7d590c5ab88ea3701b25b58761b9057187607eb149202a729e9530f", func := "loop.example/wholelight/laws.FnSolidWith", spec := "fnSolidWith", unfollowed := true, recurses := true, apart := false, narrowed := true }
def FnSolidWithUptoSaid : Prop := fnSolidWithUptoRow.holds Tryz.pinned (OpenSpec.upto fnSolidWithSpec)

/-- 'laws.FnOutOf', WHERE WHAT IT READS IS OF BULK AT MOST 1048576: true; the input reads as it did. -/
def fnOutOfUptoRow : OpenClaim := { program := "ytegibpepdndocabgreat", sum := "11640403a7d590c5ab88ea3701b25b58761b9057187607eb149202a729e9530f", func := "loop.example/wholelight/laws.FnOutOf", spec := "fnOutOf", unfollowed := true, recurses := true, apart := false, narrowed := true }
def FnOutOfUptoSaid : Prop := fnOutOfUptoRow.holds Tryz.pinned (OpenSpec.upto fnOutOfSpec)

/-- 'laws.FnFirstMeet', WHERE WHAT IT READS IS OF BULK AT MOST 1048576: true; the input reads as it did. -/
def fnFirstMeetUptoRow : OpenClaim := { program := "ytegibpepdndocabgreat", sum := "11640403a7d590c5ab88ea3701b25b58761b9057187607eb149202a729e9530f", func := "loop.example/wholelight/laws.FnFirstMeet", spec := "fnFirstMeet", unfollowed := true, recurses := true, apart := false, narrowed := true }
def FnFirstMeetUptoSaid : Prop := fnFirstMeetUptoRow.holds Tryz.pinned (OpenSpec.upto fnFirstMeetSpec)

/-- 'laws.FnAllMeets', WHERE WHAT IT READS IS OF BULK AT MOST 1048576: true; the input reads as it did. -/
def fnAllMeetsUptoRow : OpenClaim := { program := "ytegibpepdndocabgreat", sum := "11640403a7d590c5ab88ea3701b25b58761b9057187607eb149202a729e9530f", func := "loop.example/wholelight/laws.FnAllMeets", spec := "fnAllMeets", unfollowed := true, recurses := true, apart := false, narrowed := true }
def FnAllMeetsUptoSaid : Prop := fnAllMeetsUptoRow.holds Tryz.pinned (OpenSpec.upto fnAllMeetsSpec)

/-- 'laws.FnBlocked', WHERE WHAT IT READS IS OF BULK AT MOST 1048576: true; the input reads as it did. -/
def fnBlockedUptoRow : OpenClaim := { program := "ytegibpepdndocabgreat", sum := "11640403a7d590c5ab88ea3701b25b58761b9057187607eb149202a729e9530f", func := "loop.example/wholelight/laws.FnBlocked", spec := "fnBlocked", unfollowed := true, recurses := true, apart := false, narrowed := true }
def FnBlockedUptoSaid : Prop := fnBlockedUptoRow.holds Tryz.pinned (OpenSpec.upto fnBlockedSpec)

end Rows
end Go.Proofs.YtegibpepdndocabGreat
