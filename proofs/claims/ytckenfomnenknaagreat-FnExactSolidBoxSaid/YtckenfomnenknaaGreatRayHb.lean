import Derived.Test.YtckenfomnenknaaGreatRayb
namespace Go.Proofs.YtckenfomnenknaaGreat
open Go.ChangeShapes Go.WideShapes Go.ChangeAt Go.RowKit
set_option linter.unusedSimpArgs false
set_option maxHeartbeats 1000000

attribute [local go_sem] VGo_value VGo_skip VGo_enter
theorem dot3bb (a b c x y z m k : Int) (h : Vok a b c m) (j : Vok x y z k) : -(3 * (m * k)) ≤ dot3 a b c x y z ∧ dot3 a b c x y z ≤ 3 * (m * k) := by
  obtain ⟨a1, a2, a3, a4, a5, a6⟩ := h
  obtain ⟨k1, k2, k3, k4, k5, k6⟩ := j
  have e1 := mulc a x m k a1 a2 k1 k2
  have e2 := mulc b y m k a3 a4 k3 k4
  have e3 := mulc c z m k a5 a6 k5 k6
  unfold dot3
  omega
theorem iDotX (a b c x y z n : Int) (w : World) (h : Vok a b c 1048576) (k : Vok x y z 1048576) (hn : dot3 a b c x y z = n) :
    Calls Tryz.prog 212 #[.agg #[.int .i64 (a), .int .i64 (b), .int .i64 (c)], .agg #[.int .i64 (x), .int .i64 (y), .int .i64 (z)]] w fun e w' => e = .returned (.int .i64 n) ∧ Below w.heap.size w w' := by
  rw [← hn]; exact iDot_yes a b c x y z w h k
theorem sDotX (a b c x y z n : Int) (w : World) (h : Vok a b c 1048576) (k : Vok x y z 1048576) (hn : dot3 a b c x y z = n) :
    Calls Tryz.prog 165 #[.agg #[.int .i64 (a), .int .i64 (b), .int .i64 (c)], .agg #[.int .i64 (x), .int .i64 (y), .int .i64 (z)]] w fun e w' => e = .returned (.int .i64 n) ∧ Below w.heap.size w w' := by
  rw [← hn]; exact l2Dot_any a b c x y z w h k
theorem vokUp {a b c m : Int} (h : Vok a b c m) (hm : m ≤ 1048576) : Vok a b c 1048576 := by unfold Vok at *; omega

end Go.Proofs.YtckenfomnenknaaGreat
