import Derived.Test.YtbgcbolalbjepaaRayCr
namespace Go.Proofs.Ytbgcbolalbjepaa
open Go.ChangeShapes Go.WideShapes Go.ChangeAt Go.RowKit
set_option linter.unusedSimpArgs false
set_option linter.unusedVariables false
set_option maxHeartbeats 4000000

theorem rtU {U R R1 Q : Int} (h0 : 0 ≤ U) (hr : RtE U R R1 Q) : R * R ≤ U * 4096 * 4096 ∧ U * 4096 * 4096 < (R + 1) * (R + 1) ∧ R ≤ R1 ∧ R1 ≤ R + 1 ∧ 0 ≤ R := by
  obtain ⟨h1, h2, h3, h4, h5, h6⟩ := hr
  have e : ((U * 4096 * 4096).toNat : Int) = U * 4096 * 4096 := by omega
  obtain ⟨s1, s2⟩ := rt_spec (U * 4096 * 4096).toNat
  have s1' := Int.ofNat_le.2 s1
  have s2' := Int.ofNat_lt.2 s2
  rw [e, Int.natCast_mul, h1] at s1'
  rw [e, Int.natCast_mul, Int.natCast_add, h1] at s2'
  exact ⟨s1', s2', by omega, by omega, by omega⟩
end Go.Proofs.Ytbgcbolalbjepaa
