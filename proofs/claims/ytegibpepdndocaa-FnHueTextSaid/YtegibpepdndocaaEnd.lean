
import Derived.Test.YtegibpepdndocaaHeld
namespace Go.Proofs.Ytegibpepdndocaa
open Go Go.RowKit
/- a result that lies in a block that is known whole -/
theorem bodyPost_has {P : Program} {fn : Func} {R : Ending → World → Prop} {a : Act} {w : World} {b : Nat} {cs : Array Value} {T : TypeId} (hB : Has w b cs T)
    (hr : ∀ w, Has w b cs T → (results fn a.tmps).run P w = .ok (.agg cs) w) (hd : a.defers = []) (hR : R (.returned (.agg cs)) w) : bodyPost P fn R .ret a w := bodyPost_ret (hr w hB) hd hR
end Go.Proofs.Ytegibpepdndocaa
