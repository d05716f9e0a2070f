import Derived.Test.YtbgcbolalbjepaaVec6r
namespace Go.Proofs.Ytbgcbolalbjepaa
open Go.ChangeShapes Go.WideShapes Go.ChangeAt Go.RowKit

attribute [local go_sem] VGo_value VGo_skip VGo_enter
def dot3 (a b c x y z : Int) : Int := a * x + b * y + c * z
theorem mulc (x n m k : Int) (h1 : -m ≤ x) (h2 : x ≤ m) (h3 : -k ≤ n) (h4 : n ≤ k) : -(m * k) ≤ x * n ∧ x * n ≤ m * k := by
  have e1 := Int.mul_nonneg (show 0 ≤ m - x by omega) (show 0 ≤ k - n by omega)
  have e2 := Int.mul_nonneg (show 0 ≤ m + x by omega) (show 0 ≤ k + n by omega)
  have e3 := Int.mul_nonneg (show 0 ≤ m - x by omega) (show 0 ≤ k + n by omega)
  have e4 := Int.mul_nonneg (show 0 ≤ m + x by omega) (show 0 ≤ k - n by omega)
  simp only [Int.sub_mul, Int.mul_sub, Int.add_mul, Int.mul_add] at e1 e2 e3 e4
  constructor <;> omega
end Go.Proofs.Ytbgcbolalbjepaa
