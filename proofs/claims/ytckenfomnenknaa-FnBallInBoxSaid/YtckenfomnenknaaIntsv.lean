import Derived.Below
import Derived.BigQuiet
import Derived.Deep.OwnRows
import Derived.Deep.QuietTactic
import Derived.LoopTactic
import Derived.Outline
import Derived.OwnWalk
import Derived.Test.YtckenfomnenknaaShelfv
import Derived.Test.YtckenfomnenknaaVec6v
section
namespace Go.Proofs.Ytckenfomnenknaa
open Go.ChangeShapes Go.WideShapes Go.ChangeAt Go.RowKit

attribute [local go_sem] VGo_value VGo_skip VGo_enter
def dot3 (a b c x y z : Int) : Int := a * x + b * y + c * z
theorem mulc (x n m k : Int) (h1 : -m ≤ x) (h2 : x ≤ m) (h3 : -k ≤ n) (h4 : n ≤ k) : -(m * k) ≤ x * n ∧ x * n ≤ m * k := by
  have e1 := Int.mul_nonneg (show 0 ≤ m - x by omega) (show 0 ≤ k - n by omega)
  have e2 := Int.mul_nonneg (show 0 ≤ m + x by omega) (show 0 ≤ k + n by omega)
  have e3 := Int.mul_nonneg (show 0 ≤ m - x by omega) (show 0 ≤ k + n by omega)
  have e4 := Int.mul_nonneg (show 0 ≤ m + x by omega) (show 0 ≤ k - n by omega)
  simp only [Int.sub_mul, Int.mul_sub, Int.add_mul, Int.mul_add] at e1 e2 e3 e4
  constructor <;> omega
end Go.Proofs.Ytckenfomnenknaa
end
section
namespace Go.Proofs.Ytckenfomnenknaa
open Go.ChangeShapes Go.WideShapes Go.ChangeAt Go.RowKit

attribute [local go_sem] VGo_value VGo_skip VGo_enter
theorem nz3 (a b c : Int) (h : a ≠ 0 ∨ b ≠ 0 ∨ c ≠ 0) : a ≠ 0 ∨ (a = 0 ∧ b ≠ 0) ∨ (a = 0 ∧ b = 0 ∧ c ≠ 0) := by omega
/- how much two directions agree -/
theorem iRootV (n v : Int) (w : World) (h0 : 0 ≤ n) (h1 : n ≤ 4611686018427387904) (hv : (rt n.toNat : Int) = v) :
    Calls Try.prog 69 #[.int .i64 n] w fun e w' => e = .returned (.int .i64 v) ∧ w = w' := by rw [← hv]; exact iRootL n w h0 h1
theorem iFloorV (a b v : Int) (w : World) (h : Small a b) (hv : a.fdiv b = v) :
    Calls Try.prog 60 #[.int .i64 a, .int .i64 b] w fun e w' => e = .returned (.int .i64 v) ∧ w = w' := by rw [← hv]; exact floor_yes a b w h
theorem sFloorV (a b v : Int) (w : World) (h : Small a b) (hv : a.fdiv b = v) :
    Calls Try.prog 139 #[.int .i64 a, .int .i64 b] w fun e w' => e = .returned (.int .i64 v) ∧ w = w' := by rw [← hv]; exact l1Floor_yes a b w h
theorem dot_pos (a b c : Int) (h : a ≠ 0 ∨ b ≠ 0 ∨ c ≠ 0) : 1 ≤ dot3 a b c a b c := by
  have sq : ∀ x : Int, 0 ≤ x * x := fun x => by by_cases hx : 0 ≤ x; exact Int.mul_nonneg hx hx; exact Int.mul_nonneg_of_nonpos_of_nonpos (by omega) (by omega)
  have sp : ∀ x : Int, x ≠ 0 → 0 < x * x := fun x hx => by
    have h1 := sq x
    have h2 : x * x ≠ 0 := fun e => by rcases Int.mul_eq_zero.1 e with e | e <;> exact hx e
    omega
  have s1 := sq a
  have s2 := sq b
  have s3 := sq c
  unfold dot3
  rcases h with h | h | h
  · have := sp a h; omega
  · have := sp b h; omega
  · have := sp c h; omega
end Go.Proofs.Ytckenfomnenknaa
end
section
namespace Go.Proofs.Ytckenfomnenknaa
open Go.ChangeShapes Go.WideShapes Go.ChangeAt Go.RowKit

theorem by_trans {a b c : World} {r : Option Nat} (h : a.grownBy b r) (k : b.grownBy c r) : a.grownBy c r :=
  ⟨k.os.trans h.os, k.tape.trans h.tape, k.output.trans h.output, Nat.le_trans h.size k.size, fun i hi hn => (k.block i (Nat.lt_of_lt_of_le hi h.size) hn).trans (h.block i hi hn)⟩

end Go.Proofs.Ytckenfomnenknaa
end
