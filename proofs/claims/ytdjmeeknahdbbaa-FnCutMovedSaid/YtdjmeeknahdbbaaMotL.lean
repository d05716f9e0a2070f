
import Derived.Test.YtdjmeeknahdbbaaMotM
import Derived.Test.YtdjmeeknahdbbaaEnd
import Derived.Deep.Cut
import Derived.LoopN
namespace Go.Proofs.Ytdjmeeknahdbbaa
open Go.ChangeShapes Go.WideShapes Go.ChangeAt Go.RowKit
set_option linter.unusedSimpArgs false
set_option maxHeartbeats 2000000

attribute [local go_sem] VGo_value VGo_skip VGo_enter
end Go.Proofs.Ytdjmeeknahdbbaa
