import Derived.Deep.Cut
import Derived.Test.YtckenfomnenknaaBoxv
section
namespace Go.Proofs.Ytckenfomnenknaa
open Go.ChangeShapes Go.WideShapes Go.ChangeAt Go.RowKit
set_option linter.unusedSimpArgs false
set_option maxHeartbeats 1000000

attribute [local go_sem] VGo_value VGo_skip VGo_enter
/- the greater part, as the model has it -/
def hw (a x : Int) : Int := wrap64 (-(min (wrap64 (-a)) (wrap64 (-x))))
end Go.Proofs.Ytckenfomnenknaa
end
section
namespace Go.Proofs.Ytckenfomnenknaa
open Go.ChangeShapes Go.WideShapes Go.ChangeAt Go.RowKit
set_option linter.unusedSimpArgs false
set_option linter.unusedVariables false
set_option maxHeartbeats 2000000

attribute [local go_sem] VGo_value VGo_skip VGo_enter
theorem vok8 {a b c m : Int} (h : Vok a b c m) (hm : m ≤ 1048576) : Vok a b c 1048576 := by unfold Vok at *; omega
end Go.Proofs.Ytckenfomnenknaa
end
