import Derived.RowKit
namespace Go.Proofs.Ytbgcbolalbjepaa
open Go.RowKit (wrap64)

theorem wrap64_of (n : Int) (h1 : -9223372036854775808 ≤ n) (h2 : n ≤ 9223372036854775807) : wrap64 n = n := by unfold wrap64; omega

/- the root -/
def rt : Nat → Nat
  | 0 => 0
  | n + 1 => if (rt n + 1) * (rt n + 1) ≤ n + 1 then rt n + 1 else rt n
attribute [irreducible] rt
end Go.Proofs.Ytbgcbolalbjepaa
