
import Derived.Test.YtdpgeekhkfdgkaaMotR
import Derived.Test.YtdpgeekhkfdgkaaMotN2
import Derived.Test.YtdpgeekhkfdgkaaRd
namespace Go.Proofs.Ytdpgeekhkfdgkaa
open Go.ChangeShapes Go.WideShapes Go.ChangeAt Go.RowKit

theorem wFnAllTurns {A : Option Addr} {n c : Nat} {w : World} (_hnc : n ≤ c) (_hm : c ≤ 9223372036854775807) (_hcode : Code w w.heap.size A n) :
    Calls Try.prog 9 #[.slice A n c] w fun e w' => e = .returned (.bool true) ∧ Below w.heap.size w w' := by
  refine lawAllTurns A n c (n % 48) (n / 48 % 48) w ?_ ?_ (Nat.mod_lt _ (by omega)) (Nat.mod_lt _ (by omega)) (fun w => iAllTurns_any w)
  · exact (Int.ofNat_tmod n 48).symm
  · exact (Int.ofNat_tmod (n / 48) 48).symm
end Go.Proofs.Ytdpgeekhkfdgkaa
