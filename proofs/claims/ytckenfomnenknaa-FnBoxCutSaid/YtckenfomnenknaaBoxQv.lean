import Derived.ChangeAlike
import Derived.RegionTactic
import Derived.Test.YtckenfomnenknaaBoxRv
import Derived.Test.YtckenfomnenknaaEndv
import Derived.Test.YtckenfomnenknaaOpenv
namespace Go.Proofs.Ytckenfomnenknaa
open Go.ChangeShapes Go.WideShapes Go.ChangeAt Go.RowKit
set_option linter.unusedSimpArgs false
set_option linter.unusedVariables false
set_option maxHeartbeats 2000000
set_option maxRecDepth 8000

attribute [local go_sem] VGo_value VGo_skip VGo_enter
theorem bCode.alloc {w : World} {n : Nat} {A : Option Addr} (h : Code w w.heap.size A n) (o : Obj) : Code (w.alloc o) (w.alloc o).heap.size A n := fun hn => by
  obtain ⟨b, off, rfl, hb, hc⟩ := h hn
  refine ⟨b, off, rfl, by rw [World.size_alloc]; omega, fun j hj => ?_⟩
  obtain ⟨x, h0, h1, h2⟩ := hc j hj
  exact ⟨x, h0, h1, by rw [World.cell?_alloc_past _ _ _ hb]; exact h2⟩
theorem bodyPost_two {P : Program} {fn : Func} {R : Ending → World → Prop} {a : Act} {w : World} {b b' : Nat} {cs cs' : Array Value} {T T' : TypeId} (hB : Has w b cs T) (hB' : Has w b' cs' T')
    (hr : ∀ w, Has w b cs T → Has w b' cs' T' → (results fn a.tmps).run P w = .ok (.tuple #[.agg cs, .agg cs']) w) (hd : a.defers = []) (hR : R (.returned (.tuple #[.agg cs, .agg cs'])) w) : bodyPost P fn R .ret a w := bodyPost_ret (hr w hB hB') hd hR
end Go.Proofs.Ytckenfomnenknaa
