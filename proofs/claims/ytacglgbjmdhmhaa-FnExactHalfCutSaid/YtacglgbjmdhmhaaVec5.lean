
import Derived.Test.YtacglgbjmdhmhaaVec4
namespace Go.Proofs.Ytacglgbjmdhmhaa
open Go.ChangeShapes Go.WideShapes Go.ChangeAt Go.RowKit

attribute [local go_sem] VGo_value VGo_skip VGo_enter
end Go.Proofs.Ytacglgbjmdhmhaa
