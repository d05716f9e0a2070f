
import Derived.Test.YtckenfomnenknaaNum
import Derived.LoopTactic
import Derived.BigQuiet
import Derived.Deep.QuietTactic
namespace Go.Proofs.Ytckenfomnenknaa
open Go.ChangeShapes Go.WideShapes Go.ChangeAt Go.RowKit

def bnd (n l h : Int) : Int := if (if n > h then h else n) < l then l else (if n > h then h else n)
def InMix (a b v : Int) : Prop := -1073741824 ≤ a ∧ a ≤ 1073741824 ∧ -1073741824 ≤ b ∧ b ≤ 1073741824 ∧ 0 ≤ v ∧ v ≤ 4096
def mixOf (a b v : Int) : Int := a + (v * (b - a)).fdiv 4096
theorem mul_bd (v d : Int) (h0 : 0 ≤ v) (h1 : v ≤ 4096) (h2 : -2147483648 ≤ d) (h3 : d ≤ 2147483648) : -8796093022208 ≤ v * d ∧ v * d ≤ 8796093022208 := by
  have a1 := Int.mul_le_mul_of_nonneg_left h3 h0
  have a2 := Int.mul_le_mul_of_nonneg_left h2 h0
  omega
theorem mix_facts (a b v : Int) (hs : InMix a b v) : -8796093022208 ≤ v * (b - a) ∧ v * (b - a) ≤ 8796093022208 ∧ -2147483648 ≤ (v * (b - a)).fdiv 4096 ∧ (v * (b - a)).fdiv 4096 ≤ 2147483648 := by
  obtain ⟨h0, h1, h2, h3, h4, h5⟩ := hs
  have h := mul_bd v (b - a) h4 h5 (by omega) (by omega)
  rw [Int.fdiv_eq_ediv_of_nonneg _ (by omega)]
  omega
end Go.Proofs.Ytckenfomnenknaa
