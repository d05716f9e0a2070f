import Derived.Test.YtbgcbolalbjepaaDrawYt
import Derived.Test.YtbgcbolalbjepaaHeldCt
import Derived.Test.YtbgcbolalbjepaaVec8t
namespace Go.Proofs.Ytbgcbolalbjepaa
open Go.ChangeShapes Go.WideShapes Go.ChangeAt Go.RowKit
set_option linter.unusedSimpArgs false
set_option linter.unusedVariables false
set_option maxHeartbeats 4000000
set_option maxRecDepth 8000
attribute [-go_sem] run_eql_struct run_neq_struct
attribute [local go_sem] VGo_value VGo_skip VGo_enter eqlVec neqVec

/- sums and products of whatever numbers: some numbers -/
theorem l2PlusX (a b c x y z : Int) (w : World) : Calls Try.prog 97 #[.agg #[.int .i64 (a), .int .i64 (b), .int .i64 (c)], .agg #[.int .i64 (x), .int .i64 (y), .int .i64 (z)]] w fun e w' => ∃ p q r, e = .returned (.agg #[.int .i64 (p), .int .i64 (q), .int .i64 (r)]) ∧ Below w.heap.size w w' := by
  go_enter Try.func97, Try.ntmps97
  go_wp2
  refine bodyPost_ret (v := .agg #[.int .i64 _, .int .i64 _, .int .i64 _]) (by simp [results, Try.results97, go_sem]; exact ⟨rfl, rfl, rfl⟩) rfl ⟨_, _, _, rfl, ?_⟩
  repeat' (first | with_reducible exact lowRefl _ | with_reducible apply lowSet | with_reducible apply lowDrew | with_reducible apply lowDrewN | with_reducible apply lowAlloc | (with_reducible refine lowCall ?_ (by assumption)) | (show (_ : Nat) ≤ _; first | (simp; done) | (simp; omega) | omega))
theorem l2TimesX (a b c k : Int) (w : World) : Calls Try.prog 79 #[.agg #[.int .i64 (a), .int .i64 (b), .int .i64 (c)], .int .i64 k] w fun e w' => ∃ p q r, e = .returned (.agg #[.int .i64 (p), .int .i64 (q), .int .i64 (r)]) ∧ Below w.heap.size w w' := by
  go_enter Try.func79, Try.ntmps79
  go_wp2
  refine bodyPost_ret (v := .agg #[.int .i64 _, .int .i64 _, .int .i64 _]) (by simp [results, Try.results79, go_sem]; exact ⟨rfl, rfl, rfl⟩) rfl ⟨_, _, _, rfl, ?_⟩
  repeat' (first | with_reducible exact lowRefl _ | with_reducible apply lowSet | with_reducible apply lowDrew | with_reducible apply lowDrewN | with_reducible apply lowAlloc | (with_reducible refine lowCall ?_ (by assumption)) | (show (_ : Nat) ≤ _; first | (simp; done) | (simp; omega) | omega))
end Go.Proofs.Ytbgcbolalbjepaa
