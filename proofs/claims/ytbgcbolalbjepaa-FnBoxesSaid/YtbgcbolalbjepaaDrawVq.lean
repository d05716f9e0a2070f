import Derived.Deep.Cut
import Derived.Test.YtbgcbolalbjepaaDrawq
import Derived.Test.YtbgcbolalbjepaaEndq
import Derived.Test.YtbgcbolalbjepaaMotPq
import Derived.Test.YtbgcbolalbjepaaRdBq
import Derived.Test.YtbgcbolalbjepaaVecq
namespace Go.Proofs.Ytbgcbolalbjepaa
open Go.ChangeShapes Go.WideShapes Go.ChangeAt Go.RowKit
set_option linter.unusedSimpArgs false
set_option maxHeartbeats 2000000

theorem lit4 (M v : Int) (hM : 10 ≤ M) (h0 : 0 ≤ v) (h1 : v < 4 ∨ v = 0) : ∃ z : Int, (#[Value.int .i64 M, .int .i64 3, .int .i64 10, .int .i64 1] : Array Value)[v.toNat]? = some (.int .i64 z) ∧ 1 ≤ z ∧ z ≤ M := by
  obtain ⟨k, rfl⟩ := Int.eq_ofNat_of_zero_le h0
  obtain rfl | rfl | rfl | rfl : k = 0 ∨ k = 1 ∨ k = 2 ∨ k = 3 := by omega
  · exact ⟨M, rfl, by omega, by omega⟩
  · exact ⟨3, rfl, by omega, by omega⟩
  · exact ⟨10, rfl, by omega, by omega⟩
  · exact ⟨1, rfl, by omega, by omega⟩
end Go.Proofs.Ytbgcbolalbjepaa
