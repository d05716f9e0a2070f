import Derived.Deep.Cut
import Derived.LoopN
import Derived.Test.YtbgcbolalbjepaaDrawVq
import Derived.Test.YtbgcbolalbjepaaEndq
import Derived.Test.YtbgcbolalbjepaaMotPq
import Derived.Test.YtbgcbolalbjepaaMotR0q
import Derived.Test.YtbgcbolalbjepaaUndq
namespace Go.Proofs.Ytbgcbolalbjepaa
open Go.ChangeShapes Go.WideShapes Go.ChangeAt Go.RowKit
set_option linter.unusedSimpArgs false
set_option maxHeartbeats 1000000
set_option maxRecDepth 8000

theorem three (v : Int) (h0 : 0 ≤ v) (h1 : v < 3 ∨ v = 0) : v = 0 ∨ v = 1 ∨ v = 2 := by omega
end Go.Proofs.Ytbgcbolalbjepaa
