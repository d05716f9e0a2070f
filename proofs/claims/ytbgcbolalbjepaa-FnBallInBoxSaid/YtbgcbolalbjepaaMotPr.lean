import Derived.Test.YtbgcbolalbjepaaRowr
import Derived.Test.YtbgcbolalbjepaaVec2r
namespace Go.Proofs.Ytbgcbolalbjepaa
open Go.ChangeShapes Go.WideShapes Go.ChangeAt Go.RowKit

/- a cell of an array of three -/
theorem ix0 (a b c : Int) (w : World) : (Instr.index 48 (.agg #[.int .i64 (a), .int .i64 (b), .int .i64 (c)]) (.int .i64 0)).run Try.prog w = .ok (.int .i64 a) w := by kernel_rfl
theorem ix1 (a b c : Int) (w : World) : (Instr.index 48 (.agg #[.int .i64 (a), .int .i64 (b), .int .i64 (c)]) (.int .i64 1)).run Try.prog w = .ok (.int .i64 b) w := by kernel_rfl
theorem ix2 (a b c : Int) (w : World) : (Instr.index 48 (.agg #[.int .i64 (a), .int .i64 (b), .int .i64 (c)]) (.int .i64 2)).run Try.prog w = .ok (.int .i64 c) w := by kernel_rfl
end Go.Proofs.Ytbgcbolalbjepaa
