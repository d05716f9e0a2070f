/-
  No cell of these rows narrows 'for every input' (looked for: loops, veiled, ifaces, maps, wideKeys, modest, calm, conditions, laid).
  DERIVED. THE GIVEN ROWS OF THIS SEAT. 8 by the template 'for every input the law returns true; each argument reads behind the call as it read before'; 0 by the template 'total and deterministic' (their statements: YtckenfomnenknaaGreatTotals.lean).
  GIVEN WITH THE SEED: the statements are not yours to turn. If you find one false, say at which input.
  Laid BY PROGRAM, IN A SANDBOX (cutbox-rows.mjs): the forced cells as the released guide's own fill.sh prints them over the translation 8bdb22ec308924cc… (all of the seat's roots in one cut). By AI agents, Wed Nov 11 2026. No macro, syntax, notation, axiom, sorry.
-/
import Derived.Test.YtckenfomnenknaaGreatChecked
import GoSem.Claim
import GoSem.ClaimJoined
import GoSem.ClaimMapViews
import Derived.JoinedTies
import Derived.KernelRfl
namespace Go.Proofs.YtckenfomnenknaaGreat
/- THE CELL 'sum', in the pinned program and in every row, IS THE sha256 OF THE DUMP (.gsa) THAT YtckenfomnenknaaGreatProg.lean LOADS. Nothing in Lean hashes anything: it is a label: what it is worth is what the hold of that sum in a sandbox is worth. -/
noncomputable def Tryz.pinned : Pinned := { name := "ytckenfomnenknaagreat", sum := "8bdb22ec308924cc3337ab2e674a8f98a483d7117d106f5ca83a5bdf70500514", checked := Tryz.checked }
namespace Rows
def none {H : Type} : Left H := { results := [], args := [] }

/-- 'laws.FnSolidCut': WHATEVER THE INPUT: true; the input reads as it did. -/
def fnSolidCutSpec : ChangeSpec := { name := "fnSolidCut", fn := fun _ => fun
  | [d] => { results := [.lit (.bool true)], args := [d] }
  | _ => none }
def fnSolidCutRow : OpenClaim := { program := "ytckenfomnenknaagreat", sum := "8bdb22ec308924cc3337ab2e674a8f98a483d7117d106f5ca83a5bdf70500514", func := "loop.example/wholelight/laws.FnSolidCut", spec := "fnSolidCut", unfollowed := true, recurses := true, apart := false }
def FnSolidCutSaid : Prop := fnSolidCutRow.holds Tryz.pinned (OpenSpec.ofChange fnSolidCutSpec)

/-- ITS FALSE NEIGHBOUR: 'it returns false'. Refute it at one input. -/
def fnSolidCutWrong : ChangeSpec := { name := "fnSolidCut", fn := fun _ => fun
  | [d] => { results := [.lit (.bool false)], args := [d] }
  | _ => none }
def FnSolidCutWrongFalsely : Prop := fnSolidCutRow.holds Tryz.pinned (OpenSpec.ofChange fnSolidCutWrong)

/-- 'laws.FnSolidHas': WHATEVER THE INPUT: true; the input reads as it did. -/
def fnSolidHasSpec : ChangeSpec := { name := "fnSolidHas", fn := fun _ => fun
  | [d] => { results := [.lit (.bool true)], args := [d] }
  | _ => none }
def fnSolidHasRow : OpenClaim := { program := "ytckenfomnenknaagreat", sum := "8bdb22ec308924cc3337ab2e674a8f98a483d7117d106f5ca83a5bdf70500514", func := "loop.example/wholelight/laws.FnSolidHas", spec := "fnSolidHas", unfollowed := true, recurses := true, apart := false }
def FnSolidHasSaid : Prop := fnSolidHasRow.holds Tryz.pinned (OpenSpec.ofChange fnSolidHasSpec)

/-- ITS FALSE NEIGHBOUR: 'it returns false'. Refute it at one input. -/
def fnSolidHasWrong : ChangeSpec := { name := "fnSolidHas", fn := fun _ => fun
  | [d] => { results := [.lit (.bool false)], args := [d] }
  | _ => none }
def FnSolidHasWrongFalsely : Prop := fnSolidHasRow.holds Tryz.pinned (OpenSpec.ofChange fnSolidHasWrong)

/-- 'laws.FnSolidMoved': WHATEVER THE INPUT: true; the input reads as it did. -/
def fnSolidMovedSpec : ChangeSpec := { name := "fnSolidMoved", fn := fun _ => fun
  | [d] => { results := [.lit (.bool true)], args := [d] }
  | _ => none }
def fnSolidMovedRow : OpenClaim := { program := "ytckenfomnenknaagreat", sum := "8bdb22ec308924cc3337ab2e674a8f98a483d7117d106f5ca83a5bdf70500514", func := "loop.example/wholelight/laws.FnSolidMoved", spec := "fnSolidMoved", unfollowed := true, recurses := true, apart := false }
def FnSolidMovedSaid : Prop := fnSolidMovedRow.holds Tryz.pinned (OpenSpec.ofChange fnSolidMovedSpec)

/-- ITS FALSE NEIGHBOUR: 'it returns false'. Refute it at one input. -/
def fnSolidMovedWrong : ChangeSpec := { name := "fnSolidMoved", fn := fun _ => fun
  | [d] => { results := [.lit (.bool false)], args := [d] }
  | _ => none }
def FnSolidMovedWrongFalsely : Prop := fnSolidMovedRow.holds Tryz.pinned (OpenSpec.ofChange fnSolidMovedWrong)

/-- 'laws.FnSolidWith': WHATEVER THE INPUT: true; the input reads as it did. -/
def fnSolidWithSpec : ChangeSpec := { name := "fnSolidWith", fn := fun _ => fun
  | [d] => { results := [.lit (.bool true)], args := [d] }
  | _ => none }
def fnSolidWithRow : OpenClaim := { program := "ytckenfomnenknaagreat", sum := "8bdb22ec308924cc3337ab2e674a8f98a483d7117d106f5ca83a5bdf70500514", func := "loop.example/wholelight/laws.FnSolidWith", spec := "fnSolidWith", unfollowed := true, recurses := true, apart := false }
def FnSolidWithSaid : Prop := fnSolidWithRow.holds Tryz.pinned (OpenSpec.ofChange fnSolidWithSpec)

/-- ITS FALSE NEIGHBOUR: 'it returns false'. Refute it at one input. -/
def fnSolidWithWrong : ChangeSpec := { name := "fnSolidWith", fn := fun _ => fun
  | [d] => { results := [.lit (.bool false)], args := [d] }
  | _ => none }
def FnSolidWithWrongFalsely : Prop := fnSolidWithRow.holds Tryz.pinned (OpenSpec.ofChange fnSolidWithWrong)

/-- 'laws.FnExactSolidHas': WHATEVER THE INPUT: true; the input reads as it did. -/
def fnExactSolidHasSpec : ChangeSpec := { name := "fnExactSolidHas", fn := fun _ => fun
  | [d1, d2] => { results := [.lit (.bool true)], args := [d1, d2] }
  | _ => none }
def fnExactSolidHasRow : OpenClaim := { program := "ytckenfomnenknaagreat", sum := "8bdb22ec308924cc3337ab2e674a8f98a483d7117d106f5ca83a5bdf70500514", func := "loop.example/wholelight/laws.FnExactSolidHas", spec := "fnExactSolidHas", unfollowed := true, recurses := true, apart := false }
def FnExactSolidHasSaid : Prop := fnExactSolidHasRow.holds Tryz.pinned (OpenSpec.ofChange fnExactSolidHasSpec)

/-- ITS FALSE NEIGHBOUR: 'it returns false'. Refute it at one input. -/
def fnExactSolidHasWrong : ChangeSpec := { name := "fnExactSolidHas", fn := fun _ => fun
  | [d1, d2] => { results := [.lit (.bool false)], args := [d1, d2] }
  | _ => none }
def FnExactSolidHasWrongFalsely : Prop := fnExactSolidHasRow.holds Tryz.pinned (OpenSpec.ofChange fnExactSolidHasWrong)

/-- 'laws.FnExactSolidCut': WHATEVER THE INPUT: true; the input reads as it did. -/
def fnExactSolidCutSpec : ChangeSpec := { name := "fnExactSolidCut", fn := fun _ => fun
  | [d1, d2] => { results := [.lit (.bool true)], args := [d1, d2] }
  | _ => none }
def fnExactSolidCutRow : OpenClaim := { program := "ytckenfomnenknaagreat", sum := "8bdb22ec308924cc3337ab2e674a8f98a483d7117d106f5ca83a5bdf70500514", func := "loop.example/wholelight/laws.FnExactSolidCut", spec := "fnExactSolidCut", unfollowed := true, recurses := true, apart := false }
def FnExactSolidCutSaid : Prop := fnExactSolidCutRow.holds Tryz.pinned (OpenSpec.ofChange fnExactSolidCutSpec)

/-- ITS FALSE NEIGHBOUR: 'it returns false'. Refute it at one input. -/
def fnExactSolidCutWrong : ChangeSpec := { name := "fnExactSolidCut", fn := fun _ => fun
  | [d1, d2] => { results := [.lit (.bool false)], args := [d1, d2] }
  | _ => none }
def FnExactSolidCutWrongFalsely : Prop := fnExactSolidCutRow.holds Tryz.pinned (OpenSpec.ofChange fnExactSolidCutWrong)

/-- 'laws.FnExactSolidBox': WHATEVER THE INPUT: true; the input reads as it did. -/
def fnExactSolidBoxSpec : ChangeSpec := { name := "fnExactSolidBox", fn := fun _ => fun
  | [d] => { results := [.lit (.bool true)], args := [d] }
  | _ => none }
def fnExactSolidBoxRow : OpenClaim := { program := "ytckenfomnenknaagreat", sum := "8bdb22ec308924cc3337ab2e674a8f98a483d7117d106f5ca83a5bdf70500514", func := "loop.example/wholelight/laws.FnExactSolidBox", spec := "fnExactSolidBox", unfollowed := true, recurses := true, apart := false }
def FnExactSolidBoxSaid : Prop := fnExactSolidBoxRow.holds Tryz.pinned (OpenSpec.ofChange fnExactSolidBoxSpec)

/-- ITS FALSE NEIGHBOUR: 'it returns false'. Refute it at one input. -/
def fnExactSolidBoxWrong : ChangeSpec := { name := "fnExactSolidBox", fn := fun _ => fun
  | [d] => { results := [.lit (.bool false)], args := [d] }
  | _ => none }
def FnExactSolidBoxWrongFalsely : Prop := fnExactSolidBoxRow.holds Tryz.pinned (OpenSpec.ofChange fnExactSolidBoxWrong)

/-- 'laws.FnExactOutOf': WHATEVER THE INPUT: true; the input reads as it did. -/
def fnExactOutOfSpec : ChangeSpec := { name := "fnExactOutOf", fn := fun _ => fun
  | [d1, d2, d3] => { results := [.lit (.bool true)], args := [d1, d2, d3] }
  | _ => none }
def fnExactOutOfRow : OpenClaim := { program := "ytckenfomnenknaagreat", sum := "8bdb22ec308924cc3337ab2e674a8f98a483d7117d106f5ca83a5bdf70500514", func := "loop.example/wholelight/laws.FnExactOutOf", spec := "fnExactOutOf", unfollowed := true, recurses := true, apart := false }
def FnExactOutOfSaid : Prop := fnExactOutOfRow.holds Tryz.pinned (OpenSpec.ofChange fnExactOutOfSpec)

/-- ITS FALSE NEIGHBOUR: 'it returns false'. Refute it at one input. -/
def fnExactOutOfWrong : ChangeSpec := { name := "fnExactOutOf", fn := fun _ => fun
  | [d1, d2, d3] => { results := [.lit (.bool false)], args := [d1, d2, d3] }
  | _ => none }
def FnExactOutOfWrongFalsely : Prop := fnExactOutOfRow.holds Tryz.pinned (OpenSpec.ofChange fnExactOutOfWrong)

/- THE SECOND FORM. 'bulk': how many values and letters a reading holds, each counted each time it is reached (what is shared counts as often as it is met; a slice's spare places count too). A statement '..UptoSaid' is the law's where the arguments, and the package variables that the reading takes, are together of bulk at most 1048576: NARROWER than '..Said'. Prove '..Said' where nothing that the law and all that it calls make is longer than what came in: it says more and counts as full. Else prove '..UptoSaid'. A law counts once. -/
mutual
def uptoBulk {H : Type} : DataW H → Nat
  | .lit (.string bytes) => bytes.length + 1
  | .lit _ => 1
  | .nil => 1
  | .ptr d => uptoBulk d + 1
  | .slice elems spare => uptoBulkAll elems + uptoBulkAll spare + 1
  | .agg parts => uptoBulkAll parts + 1
  | .iface _ d => uptoBulk d + 1
  | .map entries => uptoBulkEntries entries + 1
  | .held _ => 1
def uptoBulkAll {H : Type} : List (DataW H) → Nat
  | [] => 0
  | d :: r => uptoBulk d + uptoBulkAll r
def uptoBulkEntries {H : Type} : List (Lit × DataW H) → Nat
  | [] => 0
  | x :: r => uptoBulkEntry x + uptoBulkEntries r
def uptoBulkEntry {H : Type} : Lit × DataW H → Nat
  | (.string bytes, d) => bytes.length + uptoBulk d + 1
  | (_, d) => uptoBulk d + 1
 end
def uptoSmall : (H : Type) → List (DataW H) → Bool := fun _ ds => decide (uptoBulkAll ds ≤ 1048576)
def OpenSpec.upto (s : _root_.Go.ChangeSpec) : _root_.Go.OpenSpec := { _root_.Go.OpenSpec.ofChange s with cond := some uptoSmall }

/-- 'laws.FnSolidCut', WHERE WHAT IT READS IS OF BULK AT MOST 1048576: true; the input reads as it did. -/
def fnSolidCutUptoRow : OpenClaim := { program := "ytckenfomnenknaagreat", sum := "8bdb22ec308924cc3337ab2e674a8f98a483d7117d106f5ca83a5bdf70500514", func := "loop.example/wholelight/laws.FnSolidCut", spec := "fnSolidCut", unfollowed := true, recurses := true, apart := false, narrowed := true }
def FnSolidCutUptoSaid : Prop := fnSolidCutUptoRow.holds Tryz.pinned (OpenSpec.upto fnSolidCutSpec)

/-- 'laws.FnSolidHas', WHERE WHAT IT READS IS OF BULK AT MOST 1048576: true; the input reads as it did. -/
def fnSolidHasUptoRow : OpenClaim := { program := "ytckenfomnenknaagreat", sum := "8bdb22ec308924cc3337ab2e674a8f98a483d7117d106f5ca83a5bdf70500514", func := "loop.example/wholelight/laws.FnSolidHas", spec := "fnSolidHas", unfollowed := true, recurses := true, apart := false, narrowed := true }
def FnSolidHasUptoSaid : Prop := fnSolidHasUptoRow.holds Tryz.pinned (OpenSpec.upto fnSolidHasSpec)

/-- 'laws.FnSolidMoved', WHERE WHAT IT READS IS OF BULK AT MOST 1048576: true; the input reads as it did. -/
def fnSolidMovedUptoRow : OpenClaim := { program := "ytckenfomnenknaagreat", sum := "8bdb22ec308924cc3337ab2e674a8f98a483d7117d106f5ca83a5bdf70500514", func := "loop.example/wholelight/laws.FnSolidMoved", spec := "fnSolidMoved", unfollowed := true, recurses := true, apart := false, narrowed := true }
def FnSolidMovedUptoSaid : Prop := fnSolidMovedUptoRow.holds Tryz.pinned (OpenSpec.upto fnSolidMovedSpec)

/-- 'laws.FnSolidWith', WHERE WHAT IT READS IS OF BULK AT MOST 1048576: true; the input reads as it did. -/
def fnSolidWithUptoRow : OpenClaim := { program := "ytckenfomnenknaagreat", sum := "8bdb22ec308924cc3337ab2e674a8f98a483d7117d106f5ca83a5bdf70500514", func := "loop.example/wholelight/laws.FnSolidWith", spec := "fnSolidWith", unfollowed := true, recurses := true, apart := false, narrowed := true }
def FnSolidWithUptoSaid : Prop := fnSolidWithUptoRow.holds Tryz.pinned (OpenSpec.upto fnSolidWithSpec)

/-- 'laws.FnExactSolidHas', WHERE WHAT IT READS IS OF BULK AT MOST 1048576: true; the input reads as it did. -/
def fnExactSolidHasUptoRow : OpenClaim := { program := "ytckenfomnenknaagreat", sum := "8bdb22ec308924cc3337ab2e674a8f98a483d7117d106f5ca83a5bdf70500514", func := "loop.example/wholelight/laws.FnExactSolidHas", spec := "fnExactSolidHas", unfollowed := true, recurses := true, apart := false, narrowed := true }
def FnExactSolidHasUptoSaid : Prop := fnExactSolidHasUptoRow.holds Tryz.pinned (OpenSpec.upto fnExactSolidHasSpec)

/-- 'laws.FnExactSolidCut', WHERE WHAT IT READS IS OF BULK AT MOST 1048576: true; the input reads as it did. -/
def fnExactSolidCutUptoRow : OpenClaim := { program := "ytckenfomnenknaagreat", sum := "8bdb22ec308924cc3337ab2e674a8f98a483d7117d106f5ca83a5bdf70500514", func := "loop.example/wholelight/laws.FnExactSolidCut", spec := "fnExactSolidCut", unfollowed := true, recurses := true, apart := false, narrowed := true }
def FnExactSolidCutUptoSaid : Prop := fnExactSolidCutUptoRow.holds Tryz.pinned (OpenSpec.upto fnExactSolidCutSpec)

/-- 'laws.FnExactSolidBox', WHERE WHAT IT READS IS OF BULK AT MOST 1048576: true; the input reads as it did. -/
def fnExactSolidBoxUptoRow : OpenClaim := { program := "ytckenfomnenknaagreat", sum := "8bdb22ec308924cc3337ab2e674a8f98a483d7117d106f5ca83a5bdf70500514", func := "loop.example/wholelight/laws.FnExactSolidBox", spec := "fnExactSolidBox", unfollowed := true, recurses := true, apart := false, narrowed := true }
def FnExactSolidBoxUptoSaid : Prop := fnExactSolidBoxUptoRow.holds Tryz.pinned (OpenSpec.upto fnExactSolidBoxSpec)

/-- 'laws.FnExactOutOf', WHERE WHAT IT READS IS OF BULK AT MOST 1048576: true; the input reads as it did. -/
def fnExactOutOfUptoRow : OpenClaim := { program := "ytckenfomnenknaagreat", sum := "8bdb22ec308924cc3337ab2e674a8f98a483d7117d106f5ca83a5bdf70500514", func := "loop.example/wholelight/laws.FnExactOutOf", spec := "fnExactOutOf", unfollowed := true, recurses := true, apart := false, narrowed := true }
def FnExactOutOfUptoSaid : Prop := fnExactOutOfUptoRow.holds Tryz.pinned (OpenSpec.upto fnExactOutOfSpec)

end Rows
end Go.Proofs.YtckenfomnenknaaGreat
