
import Derived.Test.YtbgcbolalbjepabMotH
namespace Go.Proofs.Ytbgcbolalbjepab
open Go.ChangeShapes Go.WideShapes Go.ChangeAt Go.RowKit

/- what a turn keeps: dot products, and cross products but for the hand -/
def dt (a b c x y z : Int) : Int := a * x + b * y + c * z
theorem dot_tu {a b c : Int} (h : Perm a b c) (k l n : Bool) (x y z u v t : Int) :
    dt (tu a k x y z) (tu b l x y z) (tu c n x y z) (tu a k u v t) (tu b l u v t) (tu c n u v t) = dt x y z u v t := by
  rcases h with ⟨rfl, rfl, rfl⟩ | ⟨rfl, rfl, rfl⟩ | ⟨rfl, rfl, rfl⟩ | ⟨rfl, rfl, rfl⟩ | ⟨rfl, rfl, rfl⟩ | ⟨rfl, rfl, rfl⟩ <;> cases k <;> cases l <;> cases n <;> simp [dt, tu, sg, pk] <;> grind
theorem cross_tu {a b c : Int} (h : Perm a b c) (k l n : Bool) (x y z u v t : Int) :
    tu a k (y * t - z * v) (z * u - x * t) (x * v - y * u) * hi a b c k l n 3 = tu b l x y z * tu c n u v t - tu c n x y z * tu b l u v t ∧
    tu b l (y * t - z * v) (z * u - x * t) (x * v - y * u) * hi a b c k l n 3 = tu c n x y z * tu a k u v t - tu a k x y z * tu c n u v t ∧
    tu c n (y * t - z * v) (z * u - x * t) (x * v - y * u) * hi a b c k l n 3 = tu a k x y z * tu b l u v t - tu b l x y z * tu a k u v t := by
  rcases h with ⟨rfl, rfl, rfl⟩ | ⟨rfl, rfl, rfl⟩ | ⟨rfl, rfl, rfl⟩ | ⟨rfl, rfl, rfl⟩ | ⟨rfl, rfl, rfl⟩ | ⟨rfl, rfl, rfl⟩ <;> cases k <;> cases l <;> cases n <;> simp [tu, sg, pk, hi, fl] <;> grind
end Go.Proofs.Ytbgcbolalbjepab
