import Derived.Test.YtfcafomjldomfaaBox3q
namespace Go.Proofs.Ytfcafomjldomfaa
open Go.ChangeShapes Go.WideShapes Go.ChangeAt Go.RowKit
set_option linter.unusedSimpArgs false
set_option linter.unusedVariables false
set_option maxHeartbeats 2000000

attribute [local go_sem] VGo_value VGo_skip VGo_enter
theorem vok8 {a b c m : Int} (h : Vok a b c m) (hm : m ≤ 1048576) : Vok a b c 1048576 := by unfold Vok at *; omega
end Go.Proofs.Ytfcafomjldomfaa
