
import Derived.Test.YtckenfomnenknaaVec3
namespace Go.Proofs.Ytckenfomnenknaa
open Go.ChangeShapes Go.WideShapes Go.ChangeAt Go.RowKit

attribute [local go_sem] VGo_value VGo_skip VGo_enter
theorem l2Neg_any (x y z : Int) (w : World) (h : Vok x y z 1048576) :
    Calls Try.prog 98 #[.agg #[.int .i64 (x), .int .i64 (y), .int .i64 (z)], .int .i64 (-1)] w fun e w' => e = .returned (.agg #[.int .i64 (-x), .int .i64 (-y), .int .i64 (-z)]) ∧ Below w.heap.size w w' :=
  (l2Times_any x y z (-1) w h (by omega) (by omega)).mono fun _ _ ⟨he, hw⟩ => ⟨by rw [he]; exact vec_eq (by omega) (by omega) (by omega), hw⟩
end Go.Proofs.Ytckenfomnenknaa
