import Derived.Test.YtckenfomnenknaaHeldv
import Derived.Test.YtckenfomnenknaaRowv
import Derived.Test.YtckenfomnenknaaVec2v
section
namespace Go.Proofs.Ytckenfomnenknaa
open Go.ChangeShapes Go.WideShapes Go.ChangeAt Go.RowKit

/- a cell of an array of three -/
theorem ix0 (a b c : Int) (w : World) : (Instr.index 48 (.agg #[.int .i64 (a), .int .i64 (b), .int .i64 (c)]) (.int .i64 0)).run Try.prog w = .ok (.int .i64 a) w := by kernel_rfl
theorem ix1 (a b c : Int) (w : World) : (Instr.index 48 (.agg #[.int .i64 (a), .int .i64 (b), .int .i64 (c)]) (.int .i64 1)).run Try.prog w = .ok (.int .i64 b) w := by kernel_rfl
theorem ix2 (a b c : Int) (w : World) : (Instr.index 48 (.agg #[.int .i64 (a), .int .i64 (b), .int .i64 (c)]) (.int .i64 2)).run Try.prog w = .ok (.int .i64 c) w := by kernel_rfl
end Go.Proofs.Ytckenfomnenknaa
end
section
namespace Go.Proofs.Ytckenfomnenknaa
open Go Go.RowKit
/- a result that lies in a block that is known whole -/
theorem bodyPost_has {P : Program} {fn : Func} {R : Ending → World → Prop} {a : Act} {w : World} {b : Nat} {cs : Array Value} {T : TypeId} (hB : Has w b cs T)
    (hr : ∀ w, Has w b cs T → (results fn a.tmps).run P w = .ok (.agg cs) w) (hd : a.defers = []) (hR : R (.returned (.agg cs)) w) : bodyPost P fn R .ret a w := bodyPost_ret (hr w hB) hd hR
end Go.Proofs.Ytckenfomnenknaa
end
