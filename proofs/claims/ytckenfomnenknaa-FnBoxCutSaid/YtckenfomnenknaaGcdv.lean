import Derived.BigQuiet
import Derived.Deep.QuietTactic
import Derived.LoopTactic
import Derived.Outline
import Derived.Test.YtckenfomnenknaaShelfv
namespace Go.Proofs.Ytckenfomnenknaa
open Go.ChangeShapes Go.WideShapes Go.ChangeAt Go.RowKit

def Whole2 (a b : Int) : Prop := -4611686018427387904 ≤ a ∧ a ≤ 4611686018427387904 ∧ -4611686018427387904 ≤ b ∧ b ≤ 4611686018427387904
theorem abs_any (n : Int) (w : World) (h1 : -4611686018427387904 ≤ n) (h2 : n ≤ 4611686018427387904) :
    Calls Try.prog 158 #[.int .i64 n] w fun e w' => e = .returned (.int .i64 (n.natAbs : Int)) ∧ w = w' := by
  go_enter Try.func158, Try.ntmps158
  go_wp2
  all_goals
    go_ret
    exact ⟨ret_int (by omega), rfl⟩
theorem scommon_yes (a b : Int) (w : World) (hs : Whole2 a b) :
    Calls Try.prog 135 #[.int .i64 a, .int .i64 b] w fun e w' => e = .returned (.int .i64 (Int.gcd a b)) ∧ w = w' := by
  obtain ⟨h1, h2, h3, h4⟩ := hs
  go_enter Try.func135, Try.ntmps135
  go_wp2_with (first | (go_at_call 67; (with_reducible refine (l1In_yes _ _ _ _ (by omega) (by omega)).mono ?_); rintro e w' ⟨rfl, rfl⟩) | (go_at_call 158; refine (abs_any _ _ (by omega) (by omega)).mono ?_; rintro e w' ⟨rfl, rfl⟩))
  go_loop [0, 1, 5] (fun x y _ => ∃ p q : Nat, (p : Int) ≤ 4611686018427387904 ∧ (q : Int) ≤ 4611686018427387904 ∧ Nat.gcd p q = Int.gcd a b ∧ x = .int .i64 p ∧ y = .int .i64 q) (fun _ y _ => (intOf y).toNat)
  case atStart => exact ⟨a.natAbs, b.natAbs, by omega, by omega, rfl, rfl, rfl⟩
  case round =>
    obtain ⟨p, q, hp, hq, hg, rfl, rfl⟩ := hrel
    by_cases hc : 0 < q
    · have hm1 := Nat.mod_lt p hc
      have hg2 : Nat.gcd q (p % q) = Int.gcd a b := by rw [← hg, Nat.gcd_comm p q, Nat.gcd_rec q p, Nat.gcd_comm]
      have Hg := Lib.hid hg2
      clear hg hg2
      go_wp2
      go_round
      case rel => exact ⟨q, p % q, hq, by omega, Hg.out, rfl, rfl⟩
      case measure => simp [intOf]; omega
    · obtain rfl : q = 0 := by omega
      have hg2 : p = Int.gcd a b := by rw [← hg]; simp
      have Hg := Lib.hid hg2
      clear hg hg2
      go_wp2
      go_ret
      exact ⟨ret_int (by exact_mod_cast Hg.out), rfl⟩
end Go.Proofs.Ytckenfomnenknaa
