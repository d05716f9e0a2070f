import Derived.Test.YtckenfomnenknaaRayHv
namespace Go.Proofs.Ytckenfomnenknaa
open Go.ChangeShapes Go.WideShapes Go.ChangeAt Go.RowKit
set_option linter.unusedSimpArgs false
set_option maxHeartbeats 1000000

attribute [local go_sem] VGo_value VGo_skip VGo_enter
theorem sqn (x : Int) : 0 ≤ x * x := by by_cases hx : 0 ≤ x; exact Int.mul_nonneg hx hx; exact Int.mul_nonneg_of_nonpos_of_nonpos (by omega) (by omega)
theorem lagr (a b c x y z : Int) : dot3 a b c a b c * dot3 x y z x y z - dot3 a b c x y z * dot3 a b c x y z = (a*y-b*x)*(a*y-b*x) + (a*z-c*x)*(a*z-c*x) + (b*z-c*y)*(b*z-c*y) := by
  unfold dot3; grind
theorem cauchy (a b c x y z : Int) : dot3 a b c x y z * dot3 a b c x y z ≤ dot3 a b c a b c * dot3 x y z x y z := by
  have h := lagr a b c x y z
  have h1 := sqn (a*y-b*x)
  have h2 := sqn (a*z-c*x)
  have h3 := sqn (b*z-c*y)
  omega
theorem dot_nonneg (a b c : Int) : 0 ≤ dot3 a b c a b c := by
  have h1 := sqn a
  have h2 := sqn b
  have h3 := sqn c
  unfold dot3
  omega
/- from a ball's middle to a place -/
def AwE (a b c x y z p q r : Int) : Prop := x - a = p ∧ y - b = q ∧ z - c = r
theorem awB {a b c x y z p q r : Int} (h : Vok a b c 400) (k : Vok x y z 800) (e : AwE a b c x y z p q r) : Vok p q r 1200 := by
  obtain ⟨rfl, rfl, rfl⟩ := e
  unfold Vok at *
  omega
theorem iMinusV (a b c x y z p q r : Int) (w : World) (h : Vok a b c 1048576) (k : Vok x y z 1048576) (e : AwE x y z a b c p q r) :
    Calls Try.prog 63 #[.agg #[.int .i64 (a), .int .i64 (b), .int .i64 (c)], .agg #[.int .i64 (x), .int .i64 (y), .int .i64 (z)]] w fun e w' => e = .returned (.agg #[.int .i64 (p), .int .i64 (q), .int .i64 (r)]) ∧ Below w.heap.size w w' := by
  obtain ⟨rfl, rfl, rfl⟩ := e
  exact iMinus_yes a b c x y z w h k
theorem sqB {d : Int} (h1 : 1 ≤ d) (h2 : d ≤ 200) : 0 ≤ d * d ∧ d * d ≤ 40000 := by
  have := mulb d d 200 (by omega) (by omega) (by omega) (by omega)
  have := sqn d
  omega
end Go.Proofs.Ytckenfomnenknaa
