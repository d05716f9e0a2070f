import Derived.BigQuiet
import Derived.Deep.QuietTactic
import Derived.LoopTactic
import Derived.Outline
import Derived.Test.YtckenfomnenknaaShelfv
namespace Go.Proofs.Ytckenfomnenknaa
open Go.ChangeShapes Go.WideShapes Go.ChangeAt Go.RowKit

theorem bitLenAux_gt : ∀ (f n : Nat), n < 2 ^ f → n < 2 ^ Lib.bitLenAux f n
  | 0, n, h => by simpa [Lib.bitLenAux] using h
  | f + 1, n, h => by
    unfold Lib.bitLenAux
    split
    · rename_i e; subst e; simp
    · have := bitLenAux_gt f (n / 2) (by rw [Nat.pow_succ] at h; omega)
      rw [Nat.add_comm 1, Nat.pow_succ]; omega
theorem bitLenAux_le : ∀ (f k n : Nat), n < 2 ^ k → Lib.bitLenAux f n ≤ k
  | 0, k, n, h => by simp [Lib.bitLenAux]
  | f + 1, k, n, h => by
    unfold Lib.bitLenAux
    split
    · omega
    · cases k with
      | zero => simp at h; omega
      | succ k =>
        have := bitLenAux_le f k (n / 2) (by rw [Nat.pow_succ] at h; omega)
        omega
def p0 (n : Nat) : Nat := 2 ^ ((Lib.bitLen n + 1) / 2)
theorem bitLen_le63 (n : Nat) (h : n ≤ 4611686018427387904) : Lib.bitLen n ≤ 63 := bitLenAux_le 64 63 n (by omega)
theorem p0_facts (n : Nat) (h : n ≤ 4611686018427387904) : n < p0 n * p0 n ∧ p0 n ≤ 4294967296 ∧ 1 ≤ p0 n := by
  have h1 := bitLenAux_gt 64 n (by omega)
  have h2 := bitLen_le63 n h
  unfold p0
  rw [← Nat.pow_add]
  refine ⟨?_, ?_, Nat.one_le_two_pow⟩
  · exact Nat.lt_of_lt_of_le h1 (Nat.pow_le_pow_right (by omega) (by unfold Lib.bitLen; omega))
  · exact Nat.le_trans (Nat.pow_le_pow_right (by omega) (show (Lib.bitLen n + 1) / 2 ≤ 32 by omega)) (by decide)
/- one step of the tangent never falls below the root -/
theorem newton (n r k : Nat) (hr : 1 ≤ r) (hk : k * k ≤ n) : k ≤ (r + n / r) / 2 := by
  have h : 2 * k - r ≤ n / r := by
    rw [Nat.le_div_iff_mul_le (by omega)]
    refine Nat.le_trans ?_ hk
    by_cases h : 2 * k ≤ r
    · rw [Nat.sub_eq_zero_of_le h]; simp
    · by_cases hc : k ≤ r
      · obtain ⟨d, rfl⟩ : ∃ d, r = k + d := ⟨r - k, by omega⟩
        obtain ⟨e, he⟩ : ∃ e, k = d + e := ⟨k - d, by omega⟩
        rw [show 2 * k - (k + d) = e by omega, he]
        simp only [Nat.mul_add, Nat.add_mul]
        have := Nat.mul_comm d e
        omega
      · obtain ⟨d, he⟩ : ∃ d, k = r + d := ⟨k - r, by omega⟩
        rw [show 2 * k - r = r + 2 * d by omega, he]
        simp only [Nat.mul_add, Nat.add_mul]
        rw [Nat.mul_assoc 2 d r]
        have := Nat.mul_comm d r
        omega
  omega
theorem root_end (n r : Nat) (hr : 1 ≤ r) (h : rt n ≤ r) (hq : r ≤ n / r) : rt n = r := by
  rw [Nat.le_div_iff_mul_le (by omega)] at hq
  have := le_rt n r hq
  omega

theorem root_yes (n : Nat) (w : World) (hs : n ≤ 4611686018427387904) :
    Calls Try.prog 69 #[.int .i64 n] w fun e w' => e = .returned (.int .i64 (rt n)) ∧ w = w' := by
  by_cases h0 : n = 0
  · subst h0
    go_enter Try.func69, Try.ntmps69
    go_wp2_with (go_at_call 66; refine (within_yes _ _ _ _ (by omega) (by omega)).mono ?_; rintro e w' ⟨rfl, rfl⟩)
    go_ret
    exact ⟨ret_int (by unfold rt; rfl), rfl⟩
  · have hb := bitLen_le63 n hs
    obtain ⟨hp, hp2, hp3⟩ := p0_facts n hs
    have hz : ((n : Int) == 0) = false := by simp; omega
    have e1 : ((p0 n : Nat) : Int) = (2 : Int) ^ ((Lib.bitLen n + 1) / 2) := by unfold p0; push_cast; rfl
    have hk1 : (1 : Int) ≤ (2 : Int) ^ ((Lib.bitLen n + 1) / 2) := by rw [← e1]; omega
    have hk2 : (2 : Int) ^ ((Lib.bitLen n + 1) / 2) ≤ 4294967296 := by rw [← e1]; omega
    have E1 := Lib.hid e1
    have hq0 : (0 : Int) ≤ (n : Int) / (2 : Int) ^ ((Lib.bitLen n + 1) / 2) := Int.ediv_nonneg (by omega) (by omega)
    have hq1 : (n : Int) / (2 : Int) ^ ((Lib.bitLen n + 1) / 2) ≤ n := by rw [← e1]; exact_mod_cast Nat.div_le_self n (p0 n)
    have hrt : rt n ≤ p0 n := Nat.le_of_lt (rt_lt n _ hp)
    clear e1 hp
    go_enter Try.func69, Try.ntmps69
    go_wp2_with (first | (go_at_call 66; refine (within_yes _ _ _ _ (by omega) (by omega)).mono ?_; rintro e w' ⟨rfl, rfl⟩) | (go_at_call 107; refine (Try.bits_Len _ _ (by omega) (by omega)).mono ?_; rintro e w' ⟨rfl, rfl⟩))
    rw [← E1.out]
    go_loop [3, 4] (fun r q => ∃ k : Nat, 1 ≤ k ∧ k ≤ 4294967296 ∧ rt n ≤ k ∧ r = .int .i64 k ∧ q = .int .i64 ((n : Int) / k)) (fun r _ => (intOf r).toNat)
    case atStart => exact ⟨p0 n, hp3, hp2, hrt, rfl, rfl⟩
    case round =>
      obtain ⟨k, hk1, hk2, hk3, rfl, rfl⟩ := hrel
      have hq0 : (0 : Int) ≤ (n : Int) / k := Int.ediv_nonneg (by omega) (by omega)
      have hq1 : (n : Int) / k ≤ n := by exact_mod_cast Nat.div_le_self n k
      by_cases hc : n / k < k
      · have hc' : (n : Int) / k < k := by exact_mod_cast hc
        have hnew := newton n k (rt n) hk1 (rt_spec n).1
        have h1r := le_rt n 1 (by omega)
        obtain ⟨j, hj⟩ : ∃ j, j = (k + n / k) / 2 := ⟨_, rfl⟩
        rw [← hj] at hnew
        have hj' : ((k : Int) + (n : Int) / k) / 2 = (j : Int) := by rw [hj]; push_cast; rfl
        have hj2 : j < k := by omega
        have hjk : (j : Int) < k := by omega
        have hs0 : (0 : Int) ≤ (k : Int) + (n : Int) / k := by omega
        have hA : 1 ≤ ((k : Int) + (n : Int) / k) / 2 := by omega
        have hB : 0 ≤ (n : Int) / (((k : Int) + (n : Int) / k) / 2) := Int.ediv_nonneg (by omega) (by omega)
        have hC : (n : Int) / (((k : Int) + (n : Int) / k) / 2) ≤ n := by rw [hj']; exact_mod_cast Nat.div_le_self n j
        have HJ := Lib.hid hj'
        clear hj hj'
        go_wp2
        rw [HJ.out]
        go_round
        case rel => exact ⟨j, by omega, by omega, hnew, rfl, rfl⟩
        case measure => simp [intOf]; omega
      · have hc' : (k : Int) ≤ (n : Int) / k := by exact_mod_cast (by omega : k ≤ n / k)
        go_wp2
        go_ret
        exact ⟨ret_int (by rw [root_end n k hk1 hk3 (by omega)]), rfl⟩

/- the root from above -/
def rtUp (n : Nat) : Int := if rt n * rt n < n then (rt n : Int) + 1 else rt n
theorem rootUp_yes (n : Nat) (w : World) (hs : n ≤ 4611686018427387904) :
    Calls Try.prog 68 #[.int .i64 n] w fun e w' => e = .returned (.int .i64 (rtUp n)) ∧ w = w' := by
  have hr := rt_lt n 2147483649 (by omega)
  have hr2 := (rt_spec n).1
  have hr3 : (rt n : Int) * (rt n : Int) ≤ n := by exact_mod_cast hr2
  have hr4 : 0 ≤ (rt n : Int) * (rt n : Int) := by exact_mod_cast Nat.zero_le _
  by_cases hc : rt n * rt n < n
  · have hc' : (rt n : Int) * (rt n : Int) < n := by exact_mod_cast hc
    have hf : rtUp n = rt n + 1 := by unfold rtUp; rw [if_pos hc]
    rw [hf]
    clear hf hc
    go_enter Try.func68, Try.ntmps68
    go_wp2_with (go_at_call 69; refine (root_yes _ _ hs).mono ?_; rintro e w' ⟨rfl, rfl⟩)
    go_ret
    exact ⟨rfl, rfl⟩
  · have hc' : ¬ (rt n : Int) * (rt n : Int) < n := by exact_mod_cast hc
    have hf : rtUp n = rt n := by unfold rtUp; rw [if_neg hc]
    rw [hf]
    clear hf hc
    go_enter Try.func68, Try.ntmps68
    go_wp2_with (go_at_call 69; refine (root_yes _ _ hs).mono ?_; rintro e w' ⟨rfl, rfl⟩)
    go_ret
    exact ⟨rfl, rfl⟩
end Go.Proofs.Ytckenfomnenknaa
