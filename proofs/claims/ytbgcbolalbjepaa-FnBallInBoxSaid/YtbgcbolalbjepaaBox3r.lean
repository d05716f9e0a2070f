import Derived.Deep.Cut
import Derived.Test.YtbgcbolalbjepaaBoxr
namespace Go.Proofs.Ytbgcbolalbjepaa
open Go.ChangeShapes Go.WideShapes Go.ChangeAt Go.RowKit
set_option linter.unusedSimpArgs false
set_option maxHeartbeats 1000000

attribute [local go_sem] VGo_value VGo_skip VGo_enter
/- the greater part, as the model has it -/
def hw (a x : Int) : Int := wrap64 (-(min (wrap64 (-a)) (wrap64 (-x))))
end Go.Proofs.Ytbgcbolalbjepaa
