import Derived.BigQuiet
import Derived.Deep.QuietTactic
import Derived.LoopTactic
import Derived.Outline
import Derived.Shelf.Small.Bits
import Derived.Shelf.Strconv.Itoa0
import Derived.Test.YtbgcbolalbjepaaNumu
import Derived.Test.YtbgcbolalbjepaaProg
namespace Go.Proofs.Ytbgcbolalbjepaa
open Go.ChangeShapes Go.WideShapes Go.ChangeAt Go.RowKit

def p0 (n : Nat) : Nat := 2 ^ ((Lib.bitLen n + 1) / 2)
end Go.Proofs.Ytbgcbolalbjepaa
