
import Derived.Test.YtbgcbolalbjepabMotX
import Derived.Test.YtbgcbolalbjepabMotV
import Derived.Test.YtbgcbolalbjepabMotH
namespace Go.Proofs.Ytbgcbolalbjepab
open Go.ChangeShapes Go.WideShapes Go.ChangeAt Go.RowKit
set_option maxHeartbeats 4000000

theorem InvE.symm {a b c A B C : Int} {k l n K L N : Bool} (h : InvE a b c k l n A B C K L N) : InvE A B C K L N a b c k l n := by
  rcases h with ⟨⟨rfl, rfl, rfl⟩, ⟨rfl, rfl, rfl⟩, rfl, rfl, rfl⟩ | ⟨⟨rfl, rfl, rfl⟩, ⟨rfl, rfl, rfl⟩, rfl, rfl, rfl⟩ | ⟨⟨rfl, rfl, rfl⟩, ⟨rfl, rfl, rfl⟩, rfl, rfl, rfl⟩ | ⟨⟨rfl, rfl, rfl⟩, ⟨rfl, rfl, rfl⟩, rfl, rfl, rfl⟩ | ⟨⟨rfl, rfl, rfl⟩, ⟨rfl, rfl, rfl⟩, rfl, rfl, rfl⟩ | ⟨⟨rfl, rfl, rfl⟩, ⟨rfl, rfl, rfl⟩, rfl, rfl, rfl⟩ <;> simp [InvE]
/- what is undone is as it was -/
theorem undo_back {a b c A B C : Int} {k l n K L N : Bool} (h : InvE a b c k l n A B C K L N) (x y z p q r : Int) :
    tu A K (tu a k x y z + p) (tu b l x y z + q) (tu c n x y z + r) + -(tu A K p q r) = x ∧
    tu B L (tu a k x y z + p) (tu b l x y z + q) (tu c n x y z + r) + -(tu B L p q r) = y ∧
    tu C N (tu a k x y z + p) (tu b l x y z + q) (tu c n x y z + r) + -(tu C N p q r) = z := by
  rcases h with ⟨⟨rfl, rfl, rfl⟩, ⟨rfl, rfl, rfl⟩, rfl, rfl, rfl⟩ | ⟨⟨rfl, rfl, rfl⟩, ⟨rfl, rfl, rfl⟩, rfl, rfl, rfl⟩ | ⟨⟨rfl, rfl, rfl⟩, ⟨rfl, rfl, rfl⟩, rfl, rfl, rfl⟩ | ⟨⟨rfl, rfl, rfl⟩, ⟨rfl, rfl, rfl⟩, rfl, rfl, rfl⟩ | ⟨⟨rfl, rfl, rfl⟩, ⟨rfl, rfl, rfl⟩, rfl, rfl, rfl⟩ | ⟨⟨rfl, rfl, rfl⟩, ⟨rfl, rfl, rfl⟩, rfl, rfl, rfl⟩ <;> cases K <;> cases L <;> cases N <;> simp [tu, sg, pk] <;> omega
theorem undo_move {a b c A B C : Int} {k l n K L N : Bool} (h : InvE a b c k l n A B C K L N) (p q r : Int) :
    -(tu a k (-(tu A K p q r)) (-(tu B L p q r)) (-(tu C N p q r))) = p ∧
    -(tu b l (-(tu A K p q r)) (-(tu B L p q r)) (-(tu C N p q r))) = q ∧
    -(tu c n (-(tu A K p q r)) (-(tu B L p q r)) (-(tu C N p q r))) = r := by
  rcases h with ⟨⟨rfl, rfl, rfl⟩, ⟨rfl, rfl, rfl⟩, rfl, rfl, rfl⟩ | ⟨⟨rfl, rfl, rfl⟩, ⟨rfl, rfl, rfl⟩, rfl, rfl, rfl⟩ | ⟨⟨rfl, rfl, rfl⟩, ⟨rfl, rfl, rfl⟩, rfl, rfl, rfl⟩ | ⟨⟨rfl, rfl, rfl⟩, ⟨rfl, rfl, rfl⟩, rfl, rfl, rfl⟩ | ⟨⟨rfl, rfl, rfl⟩, ⟨rfl, rfl, rfl⟩, rfl, rfl, rfl⟩ | ⟨⟨rfl, rfl, rfl⟩, ⟨rfl, rfl, rfl⟩, rfl, rfl, rfl⟩ <;> cases K <;> cases L <;> cases N <;> simp [tu, sg, pk]
/- both at once is one behind the other -/
theorem tog_one {a b c d A : Int} {k l n g K : Bool} (hd : inA d) (hA : pk d a b c = A) (hK : (g != pkb d k l n) = K) (x y z p q r s : Int) :
    tu A K x y z + (tu d g p q r + s) = tu d g (tu a k x y z + p) (tu b l x y z + q) (tu c n x y z + r) + s := by
  subst hA
  subst hK
  rcases hd with rfl | rfl | rfl <;> cases k <;> cases l <;> cases n <;> cases g <;> simp [tu, sg, pk, pkb] <;> (repeat' split) <;> omega
theorem hand_tog {a b c d e1 f A B C : Int} {k l n g h i K L N : Bool} (t : TogE a b c k l n d e1 f g h i A B C K L N) (ha : Perm a b c) (hd : Perm d e1 f) :
    hi A B C K L N 3 = hi a b c k l n 3 * hi d e1 f g h i 3 := by
  obtain ⟨⟨rfl, rfl, rfl⟩, rfl, rfl, rfl⟩ := t
  rcases ha with ⟨rfl, rfl, rfl⟩ | ⟨rfl, rfl, rfl⟩ | ⟨rfl, rfl, rfl⟩ | ⟨rfl, rfl, rfl⟩ | ⟨rfl, rfl, rfl⟩ | ⟨rfl, rfl, rfl⟩ <;> rcases hd with ⟨rfl, rfl, rfl⟩ | ⟨rfl, rfl, rfl⟩ | ⟨rfl, rfl, rfl⟩ | ⟨rfl, rfl, rfl⟩ | ⟨rfl, rfl, rfl⟩ | ⟨rfl, rfl, rfl⟩ <;> revert k l n g h i <;> decide +kernel
end Go.Proofs.Ytbgcbolalbjepab
