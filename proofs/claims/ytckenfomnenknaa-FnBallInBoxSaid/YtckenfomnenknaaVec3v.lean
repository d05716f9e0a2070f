import Derived.BigQuiet
import Derived.Deep.DrawnRows
import Derived.Deep.QuietTactic
import Derived.Deep.RegionHeld3
import Derived.StillTailTactics
import Derived.Test.YtckenfomnenknaaVec2v
import Derived.WalkLawsBesides
namespace Go.Proofs.Ytckenfomnenknaa
open Go.ChangeShapes Go.WideShapes Go.ChangeAt Go.RowKit

/- a number divided by another one above 1, nearer to 0 -/
def cut (x n : Int) : Int := if n ≤ 1 then x else x.tdiv n
theorem tdivb (x n m : Int) (h1 : -m ≤ x) (h2 : x ≤ m) : -m ≤ x.tdiv n ∧ x.tdiv n ≤ m := by
  have e : (x.tdiv n).natAbs = x.natAbs / n.natAbs := Int.natAbs_tdiv x n
  have hle := Nat.div_le_self x.natAbs n.natAbs
  omega
/- the greatest part without its sign -/
def big (x y z : Int) : Int := max x (max (-x) (max y (max (-y) (max z (-z)))))
theorem cut_one (x n : Int) (h : n ≤ 1) : cut x n = x := if_pos h
theorem cut_more (x n : Int) (h : 1 < n) : cut x n = x.tdiv n := if_neg (by omega)

theorem l2Cut_any (x n : Int) (w : World) (h1 : -1152921504606846976 ≤ x) (h2 : x ≤ 1152921504606846976) (hn : 1 < n) :
    Calls Try.prog 138 #[.int .i64 x, .int .i64 n] w fun e w' => e = .returned (.int .i64 (x.tdiv n)) ∧ w = w' := by
  have ⟨p1, p2⟩ := tdivb x n _ h1 h2
  have hz : (n == 0) = false := by simp; omega
  have hz2 : ¬ n = 0 := by omega
  go_enter Try.func138, Try.ntmps138
  go_wp2
  go_ret
  exact ⟨rfl, rfl⟩
theorem l2Most_any (x y z : Int) (w : World) (h : Vok x y z 1152921504606846976) :
    Calls Try.prog 137 #[.agg #[.int .i64 (x), .int .i64 (y), .int .i64 (z)]] w fun e w' => e = .returned (.int .i64 (big x y z)) ∧ Below w.heap.size w w' := by
  obtain ⟨a1, a2, a3, a4, a5, a6⟩ := h
  go_enter Try.func137, Try.ntmps137
  go_wp2_with ((go_at_call 158; ((with_reducible refine (abs_any _ _ (by omega) (by omega)).mono ?_); rintro e w' ⟨rfl, rfl⟩)))
  all_goals
    go_ret
    refine ⟨ret_int (by unfold big; omega), ?_⟩
    repeat' (first | with_reducible exact lowRefl _ | with_reducible apply lowSet | with_reducible apply lowDrew | with_reducible apply lowDrewN | with_reducible apply lowAlloc | (with_reducible refine lowCall ?_ (by assumption)) | (show (_ : Nat) ≤ _; first | (simp; done) | (simp; omega) | omega))
def gcd3 (x y z : Int) : Int := (Int.gcd (Int.gcd x y : Int) z : Int)
theorem gcdb (x y m : Int) (h1 : -m ≤ x) (h2 : x ≤ m) (h3 : -m ≤ y) (h4 : y ≤ m) : 0 ≤ (Int.gcd x y : Int) ∧ (Int.gcd x y : Int) ≤ m := by
  refine ⟨by omega, ?_⟩
  by_cases hx : x = 0
  · subst hx; rw [Int.gcd_zero_left]; omega
  · have hle : Int.gcd x y ≤ x.natAbs := Nat.gcd_le_left _ (by omega)
    omega
theorem bigb (x y z m : Int) (h : Vok x y z m) : 0 ≤ big x y z ∧ big x y z ≤ m := by
  obtain ⟨a1, a2, a3, a4, a5, a6⟩ := h
  unfold big
  omega
def sby (x y z c : Int) : Int := -((-(big (cut x c) (cut y c) (cut z c))).fdiv 200)
def sh (x y z t : Int) : Int := cut (cut t (gcd3 x y z)) (sby x y z (gcd3 x y z))
theorem max_if (a b : Int) : (if b > a then b else a) = max a b := by omega
theorem run_max6 (P : Program) (w : World) (ts : Array TypeId) (t : TypeId) (k : IntKind) (a b c x y z : Int) :
    (Builtin.max_ ts t #[.int k a, .int k b, .int k c, .int k x, .int k y, .int k z]).run P w = .ok (.int k (max (max (max (max (max a b) c) x) y) z)) w := by
  simp only [← max_if]
  simp [Builtin.max_, Builtin.max2]
attribute [local go_sem] run_max6
attribute [local go_sem] VGo_value VGo_skip VGo_enter
end Go.Proofs.Ytckenfomnenknaa
