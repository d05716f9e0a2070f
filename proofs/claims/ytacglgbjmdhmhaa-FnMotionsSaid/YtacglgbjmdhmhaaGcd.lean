
import Derived.Test.YtacglgbjmdhmhaaNum2
import Derived.Outline
namespace Go.Proofs.Ytacglgbjmdhmhaa
open Go.ChangeShapes Go.WideShapes Go.ChangeAt Go.RowKit

def Whole2 (a b : Int) : Prop := -4611686018427387904 ≤ a ∧ a ≤ 4611686018427387904 ∧ -4611686018427387904 ≤ b ∧ b ≤ 4611686018427387904
theorem gcd_step (a b : Int) : Int.gcd b (a.tmod b) = Int.gcd a b := by
  unfold Int.gcd
  rw [Int.natAbs_tmod, Nat.gcd_comm a.natAbs b.natAbs, Nat.gcd_rec b.natAbs a.natAbs, Nat.gcd_comm]
theorem gcd_zero (a : Int) : (Int.gcd a 0 : Int) = max a (-a) := by
  rw [Int.gcd_zero_right]; omega
end Go.Proofs.Ytacglgbjmdhmhaa
