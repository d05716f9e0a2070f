import Derived.BigQuiet
import Derived.Deep.DrawnRows
import Derived.Deep.QuietTactic
import Derived.Deep.RegionHeld3
import Derived.StillTailTactics
import Derived.Test.YtckenfomnenknaaGreatRootb
import Derived.Test.YtckenfomnenknaaGreatVec2b
import Derived.WalkLawsBesides
section
namespace Go.Proofs.YtckenfomnenknaaGreat
open Go.ChangeShapes Go.WideShapes Go.ChangeAt Go.RowKit

/- a number divided by another one above 1, nearer to 0 -/
def cut (x n : Int) : Int := if n ≤ 1 then x else x.tdiv n
theorem max_if (a b : Int) : (if b > a then b else a) = max a b := by omega
theorem run_max6 (P : Program) (w : World) (ts : Array TypeId) (t : TypeId) (k : IntKind) (a b c x y z : Int) :
    (Builtin.max_ ts t #[.int k a, .int k b, .int k c, .int k x, .int k y, .int k z]).run P w = .ok (.int k (max (max (max (max (max a b) c) x) y) z)) w := by
  simp only [← max_if]
  simp [Builtin.max_, Builtin.max2]
attribute [local go_sem] run_max6
attribute [local go_sem] VGo_value VGo_skip VGo_enter
end Go.Proofs.YtckenfomnenknaaGreat
end
section
namespace Go.Proofs.YtckenfomnenknaaGreat
open Go.ChangeShapes Go.WideShapes Go.ChangeAt Go.RowKit

attribute [local go_sem] VGo_value VGo_skip VGo_enter
def dot3 (a b c x y z : Int) : Int := a * x + b * y + c * z
theorem mulc (x n m k : Int) (h1 : -m ≤ x) (h2 : x ≤ m) (h3 : -k ≤ n) (h4 : n ≤ k) : -(m * k) ≤ x * n ∧ x * n ≤ m * k := by
  have e1 := Int.mul_nonneg (show 0 ≤ m - x by omega) (show 0 ≤ k - n by omega)
  have e2 := Int.mul_nonneg (show 0 ≤ m + x by omega) (show 0 ≤ k + n by omega)
  have e3 := Int.mul_nonneg (show 0 ≤ m - x by omega) (show 0 ≤ k + n by omega)
  have e4 := Int.mul_nonneg (show 0 ≤ m + x by omega) (show 0 ≤ k - n by omega)
  simp only [Int.sub_mul, Int.mul_sub, Int.add_mul, Int.mul_add] at e1 e2 e3 e4
  constructor <;> omega
end Go.Proofs.YtckenfomnenknaaGreat
end
section
namespace Go.Proofs.YtckenfomnenknaaGreat
open Go.ChangeShapes Go.WideShapes Go.ChangeAt Go.RowKit

attribute [local go_sem] VGo_value VGo_skip VGo_enter
theorem nz3 (a b c : Int) (h : a ≠ 0 ∨ b ≠ 0 ∨ c ≠ 0) : a ≠ 0 ∨ (a = 0 ∧ b ≠ 0) ∨ (a = 0 ∧ b = 0 ∧ c ≠ 0) := by omega
end Go.Proofs.YtckenfomnenknaaGreat
end
section
namespace Go.Proofs.YtckenfomnenknaaGreat
open Go.ChangeShapes Go.WideShapes Go.ChangeAt Go.RowKit

/- motions as plain words -/
def Perm (a b c : Int) : Prop := (a = 0 ∧ b = 1 ∧ c = 2) ∨ (a = 0 ∧ b = 2 ∧ c = 1) ∨ (a = 1 ∧ b = 0 ∧ c = 2) ∨ (a = 1 ∧ b = 2 ∧ c = 0) ∨ (a = 2 ∧ b = 0 ∧ c = 1) ∨ (a = 2 ∧ b = 1 ∧ c = 0)
def Mok (a b c x y z : Int) : Prop := Perm a b c ∧ Vok x y z 400
/- the part with an index -/
def pk (p x y z : Int) : Int := if p = 0 then x else if p = 1 then y else z
def pkb (p : Int) (x y z : Bool) : Bool := if p = 0 then x else if p = 1 then y else z
/- turned round or not -/
def sg (k : Bool) (x : Int) : Int := if k = true then -x else x
/- a part of a turned vector -/
def tu (p : Int) (k : Bool) (x y z : Int) : Int := sg k (pk p x y z)
/- a cell of an array of three -/
theorem ix0 (a b c : Int) (w : World) : (Instr.index 49 (.agg #[.int .i64 (a), .int .i64 (b), .int .i64 (c)]) (.int .i64 0)).run Tryz.prog w = .ok (.int .i64 a) w := by kernel_rfl
theorem ix1 (a b c : Int) (w : World) : (Instr.index 49 (.agg #[.int .i64 (a), .int .i64 (b), .int .i64 (c)]) (.int .i64 1)).run Tryz.prog w = .ok (.int .i64 b) w := by kernel_rfl
theorem ix2 (a b c : Int) (w : World) : (Instr.index 49 (.agg #[.int .i64 (a), .int .i64 (b), .int .i64 (c)]) (.int .i64 2)).run Tryz.prog w = .ok (.int .i64 c) w := by kernel_rfl
theorem perm_cases {a b c : Int} (h : ¬ Perm a b c) : (a < 0 ∨ 2 < a) ∨ ((0 ≤ a ∧ a ≤ 2) ∧ ((b < 0 ∨ 2 < b) ∨ b = a ∨ ((0 ≤ b ∧ b ≤ 2) ∧ b ≠ a ∧ ((c < 0 ∨ 2 < c) ∨ c = a ∨ c = b)))) := by
  unfold Perm at h; omega
theorem tu_vok {p x y z m : Int} {k : Bool} (h : Vok x y z m) : -m ≤ tu p k x y z ∧ tu p k x y z ≤ m := by
  unfold Vok at h
  unfold tu sg pk
  repeat' split
  all_goals omega
theorem tu3_vok {p q r x y z m : Int} {k l n : Bool} (h : Vok x y z m) : Vok (tu p k x y z) (tu q l x y z) (tu r n x y z) m := by
  have h1 := tu_vok (p := p) (k := k) h
  have h2 := tu_vok (p := q) (k := l) h
  have h3 := tu_vok (p := r) (k := n) h
  unfold Vok
  omega
/- the turned parts so far -/
def toc (X Y Z : Int) : Nat → Array Value
  | 0 => #[.int .i64 (0), .int .i64 (0), .int .i64 (0)]
  | 1 => #[.int .i64 (X), .int .i64 (0), .int .i64 (0)]
  | 2 => #[.int .i64 (X), .int .i64 (Y), .int .i64 (0)]
  | _ => #[.int .i64 (X), .int .i64 (Y), .int .i64 (Z)]
def inA (a : Int) : Prop := a = 0 ∨ a = 1 ∨ a = 2
theorem perm_in {a b c : Int} (h : Perm a b c) : inA a ∧ inA b ∧ inA c := by unfold Perm inA at *; omega
end Go.Proofs.YtckenfomnenknaaGreat
end
