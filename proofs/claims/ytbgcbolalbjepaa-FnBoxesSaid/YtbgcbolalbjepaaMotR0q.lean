import Derived.Deep.Cut
import Derived.LoopN
import Derived.Outline
import Derived.OwnWalk
import Derived.Test.YtbgcbolalbjepaaEndq
import Derived.Test.YtbgcbolalbjepaaIntsq
import Derived.Test.YtbgcbolalbjepaaMotHq
import Derived.Test.YtbgcbolalbjepaaMotPq
namespace Go.Proofs.Ytbgcbolalbjepaa
open Go.ChangeShapes Go.WideShapes Go.ChangeAt Go.RowKit
set_option maxHeartbeats 4000000
set_option maxRecDepth 8000

/- the 48 motions that do not move, cell by cell -/
def axs : Nat → Int × Int × Int
  | 0 => (0, 1, 2)
  | 1 => (0, 2, 1)
  | 2 => (1, 0, 2)
  | 3 => (1, 2, 0)
  | 4 => (2, 0, 1)
  | _ => (2, 1, 0)
def bt (d k : Nat) : Bool := d / 2 ^ k % 2 == 1
def moC (a b c : Int) (k l n : Bool) (x y z : Int) : List Value := [.int .i64 a, .int .i64 b, .int .i64 c, .bool k, .bool l, .bool n, .int .i64 x, .int .i64 y, .int .i64 z]
def moN (i : Nat) : List Value := moC (axs (i / 8)).1 (axs (i / 8)).2.1 (axs (i / 8)).2.2 (bt (i % 8) 0) (bt (i % 8) 1) (bt (i % 8) 2) 0 0 0
def mots (n : Nat) : List Value := (List.range n).flatMap moN
abbrev MRow (w : World) (B : Nat) (v : Value) (n : Nat) : Prop := w.ownsRow B 54 9 v n (mots n)
theorem MRow.alloc {w : World} {B n : Nat} {v : Value} (h : MRow w B v n) (o : Obj) : MRow (w.alloc o) B v n := World.ownsRow.alloc h o
theorem MRow.below {w w' : World} {B n : Nat} {v : Value} (h : MRow w B v n) (hb : Below w.heap.size w w') : MRow w' B v n :=
  World.ownsRow.kept h (row := none) ⟨hb.os, hb.tape, hb.output, hb.size, fun k hk _ => hb.block k hk⟩ (by cases v.ownBlock <;> simp)
end Go.Proofs.Ytbgcbolalbjepaa
