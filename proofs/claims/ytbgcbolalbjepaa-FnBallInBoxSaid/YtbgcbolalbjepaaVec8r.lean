import Derived.Test.YtbgcbolalbjepaaVec7r
namespace Go.Proofs.Ytbgcbolalbjepaa
open Go.ChangeShapes Go.WideShapes Go.ChangeAt Go.RowKit

attribute [local go_sem] VGo_value VGo_skip VGo_enter
/- how much two directions agree -/
theorem iRootV (n v : Int) (w : World) (h0 : 0 ≤ n) (h1 : n ≤ 4611686018427387904) (hv : (rt n.toNat : Int) = v) :
    Calls Try.prog 94 #[.int .i64 n] w fun e w' => e = .returned (.int .i64 v) ∧ w = w' := by rw [← hv]; exact iRootL n w h0 h1
theorem iFloorV (a b v : Int) (w : World) (h : Small a b) (hv : a.fdiv b = v) :
    Calls Try.prog 88 #[.int .i64 a, .int .i64 b] w fun e w' => e = .returned (.int .i64 v) ∧ w = w' := by rw [← hv]; exact floor_yes a b w h
theorem dot_pos (a b c : Int) (h : a ≠ 0 ∨ b ≠ 0 ∨ c ≠ 0) : 1 ≤ dot3 a b c a b c := by
  have sq : ∀ x : Int, 0 ≤ x * x := fun x => by by_cases hx : 0 ≤ x; exact Int.mul_nonneg hx hx; exact Int.mul_nonneg_of_nonpos_of_nonpos (by omega) (by omega)
  have sp : ∀ x : Int, x ≠ 0 → 0 < x * x := fun x hx => by
    have h1 := sq x
    have h2 : x * x ≠ 0 := fun e => by rcases Int.mul_eq_zero.1 e with e | e <;> exact hx e
    omega
  have s1 := sq a
  have s2 := sq b
  have s3 := sq c
  unfold dot3
  rcases h with h | h | h
  · have := sp a h; omega
  · have := sp b h; omega
  · have := sp c h; omega
end Go.Proofs.Ytbgcbolalbjepaa
