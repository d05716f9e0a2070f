import Derived.ChangeAlike
import Derived.Deep.Cut
import Derived.LoopN
import Derived.RegionTactic
import Derived.Test.YtbgcbolalbjepaaEndu
import Derived.Test.YtbgcbolalbjepaaMotMu
namespace Go.Proofs.Ytbgcbolalbjepaa
open Go.ChangeShapes Go.WideShapes Go.ChangeAt Go.RowKit
set_option maxHeartbeats 1000000
set_option linter.unusedSimpArgs false

def fl (s : Prop) [Decidable s] (x : Int) : Int := if s then -x else x
/- the hand so far: the program's order, and the model's -/
def hi (a b c : Int) (k l n : Bool) : Nat → Int
  | 0 => 1
  | 1 => fl (c < a) (fl (b < a) (fl (k = true) 1))
  | 2 => fl (c < b) (fl (l = true) (fl (c < a) (fl (b < a) (fl (k = true) 1))))
  | _ => fl (n = true) (fl (c < b) (fl (l = true) (fl (c < a) (fl (b < a) (fl (k = true) 1)))))
def hs (a b c : Int) (k l n : Bool) : Nat → Int
  | 0 => 1
  | 1 => fl (k = true) 1
  | 2 => fl (b < a) (fl (l = true) (fl (k = true) 1))
  | _ => fl (c < b) (fl (c < a) (fl (n = true) (fl (b < a) (fl (l = true) (fl (k = true) 1)))))
attribute [local go_sem] ix0 ix1 ix2 VGo_value VGo_skip VGo_enter
end Go.Proofs.Ytbgcbolalbjepaa
