
import Derived.Test.YtlppeodjekpijaaMotM
import Derived.Test.YtlppeodjekpijaaEnd
import Derived.Deep.Cut
import Derived.LoopN
namespace Go.Proofs.Ytlppeodjekpijaa
open Go.ChangeShapes Go.WideShapes Go.ChangeAt Go.RowKit
set_option linter.unusedSimpArgs false
set_option maxHeartbeats 2000000

attribute [local go_sem] VGo_value VGo_skip VGo_enter
end Go.Proofs.Ytlppeodjekpijaa
