
import Derived.Test.YtegibpepdndocaaHeld
namespace Go.Proofs.Ytegibpepdndocaa
open Go Go.RowKit
/- a draw of the order makes nothing -/
theorem undrew {w w' : World} (h : Below w.drew.heap.size w.drew w') : Below w.heap.size w w' := ⟨h.os, h.tape, h.output, h.size, h.block⟩
end Go.Proofs.Ytegibpepdndocaa
