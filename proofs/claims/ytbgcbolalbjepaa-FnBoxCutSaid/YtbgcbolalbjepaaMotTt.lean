import Derived.Deep.Cut
import Derived.LoopN
import Derived.Test.YtbgcbolalbjepaaEndt
namespace Go.Proofs.Ytbgcbolalbjepaa
open Go.ChangeShapes Go.WideShapes Go.ChangeAt Go.RowKit
set_option linter.unusedSimpArgs false
set_option maxHeartbeats 8000000

attribute [local go_sem] ix0 ix1 ix2 VGo_value VGo_skip VGo_enter
theorem ipartsOf_any (x y z : Int) (w : World) : Calls Try.prog 63 #[.agg #[.int .i64 (x), .int .i64 (y), .int .i64 (z)]] w fun e w' => e = .returned (.agg #[.int .i64 (x), .int .i64 (y), .int .i64 (z)]) ∧ Below w.heap.size w w' := by
  go_enter Try.func63, Try.ntmps63
  go_wp2
  refine bodyPost_ret (v := .agg #[.int .i64 (x), .int .i64 (y), .int .i64 (z)]) (by simp [results, Try.results63, go_sem]) rfl ⟨vec_eq (by first | rfl | omega) (by first | rfl | omega) (by first | rfl | omega), ?_⟩; (repeat' (first | with_reducible exact lowRefl _ | with_reducible apply lowSet | with_reducible apply lowDrew | with_reducible apply lowDrewN | with_reducible apply lowAlloc | (with_reducible refine lowCall ?_ (by assumption)) | (show (_ : Nat) ≤ _; first | (simp; done) | (simp; omega) | omega)))
end Go.Proofs.Ytbgcbolalbjepaa
