
import Derived.RowKit
namespace Go.Proofs.Ytegibpepdndocaa
open Go.RowKit (wrap64)

def Small (a b : Int) : Prop := b ≠ 0 ∧ -4611686018427387904 ≤ a ∧ a ≤ 4611686018427387904 ∧ -4611686018427387904 ≤ b ∧ b ≤ 4611686018427387904
theorem small_or (a b : Int) : Small a b ∨ ¬ Small a b := Classical.em _

theorem tdiv_bd (a b : Int) (hs : Small a b) : -4611686018427387904 ≤ a.tdiv b ∧ a.tdiv b ≤ 4611686018427387904 := by
  obtain ⟨h0, h1, h2, h3, h4⟩ := hs
  have := Int.natAbs_tdiv_le_natAbs a b
  omega
theorem tdiv_mul_bd (a b : Int) (hs : Small a b) : -4611686018427387904 ≤ a.tdiv b * b ∧ a.tdiv b * b ≤ 4611686018427387904 := by
  obtain ⟨h0, h1, h2, h3, h4⟩ := hs
  have h5 := Int.mul_tdiv_add_tmod a b
  rw [Int.mul_comm] at h5
  by_cases ha : 0 ≤ a
  · have := Int.tmod_nonneg b ha
    have h6 : (a.tdiv b * b).natAbs ≤ a.natAbs := by
      rw [Int.natAbs_mul, Int.natAbs_tdiv]; exact Nat.div_mul_le_self _ _
    omega
  · have h6 : (a.tdiv b * b).natAbs ≤ a.natAbs := by
      rw [Int.natAbs_mul, Int.natAbs_tdiv]; exact Nat.div_mul_le_self _ _
    omega
theorem wrap64_of (n : Int) (h1 : -9223372036854775808 ≤ n) (h2 : n ≤ 9223372036854775807) : wrap64 n = n := by unfold wrap64; omega

theorem fdiv_of (a b q r : Int) (h : b * q + r = a) (hr : (0 < b ∧ 0 ≤ r ∧ r < b) ∨ (b < 0 ∧ b < r ∧ r ≤ 0)) : a.fdiv b = q := by
  subst h
  rcases hr with ⟨hb, h1, h2⟩ | ⟨hb, h1, h2⟩
  · rw [Int.fdiv_eq_ediv_of_nonneg _ (by omega), Int.add_comm, Int.add_mul_ediv_left _ _ (by omega), Int.ediv_eq_zero_of_lt h1 h2]; omega
  · have : (b * q + r).fdiv b = (-(b * q + r)).fdiv (-b) := by rw [Int.neg_fdiv_neg]
    rw [this, Int.fdiv_eq_ediv_of_nonneg _ (by omega)]
    have e : -(b * q + r) = -r + (-b) * q := by rw [Int.neg_mul]; omega
    rw [e, Int.add_mul_ediv_left _ _ (by omega), Int.ediv_eq_zero_of_lt (by omega) (by omega)]; omega
theorem tmod_fact (a b : Int) (hb : b ≠ 0) : ∃ r, b * a.tdiv b + r = a ∧ r = a.tmod b ∧ (0 ≤ a → 0 ≤ r) ∧ (a ≤ 0 → r ≤ 0) ∧ (r < b ∨ r < -b) ∧ (-b < r ∨ b < r) ∧ (a.tdiv b * b = a ↔ r = 0) := by
  have h5 := Int.mul_tdiv_add_tmod a b
  have hn : (a.tmod b).natAbs < b.natAbs := by rw [Int.natAbs_tmod]; exact Nat.mod_lt _ (by omega)
  refine ⟨a.tmod b, h5, rfl, fun h => Int.tmod_nonneg b h, fun h => ?_, by omega, by omega, ?_⟩
  · have h6 : (-a).tmod b = -(a.tmod b) := Int.neg_tmod ..
    have := Int.tmod_nonneg b (show 0 ≤ -a by omega)
    omega
  · rw [Int.mul_comm]; omega
/- the floor, from the quotient that drops -/
theorem floor_down (a b : Int) (hb : b ≠ 0) (h : a.tdiv b * b ≠ a) (hx : ¬ (a < 0 ↔ b < 0)) : a.tdiv b - 1 = a.fdiv b := by
  obtain ⟨r, h1, _, h2, h3, h4, h5, h6⟩ := tmod_fact a b hb
  refine (fdiv_of a b _ (r + b) (by rw [Int.mul_sub]; omega) ?_).symm
  have : r ≠ 0 := fun e => h (h6.2 e)
  omega
theorem floor_same (a b : Int) (hb : b ≠ 0) (h : a.tdiv b * b = a ∨ (a < 0 ↔ b < 0)) : a.tdiv b = a.fdiv b := by
  obtain ⟨r, h1, _, h2, h3, h4, h5, h6⟩ := tmod_fact a b hb
  refine (fdiv_of a b _ r h1 ?_).symm
  rcases h with h | h
  · have := h6.1 h; omega
  · omega
theorem ceil_up (a b : Int) (hb : b ≠ 0) (h : a.tdiv b * b ≠ a) (hx : a < 0 ↔ b < 0) : a.tdiv b + 1 = -((-a).fdiv b) := by
  obtain ⟨r, h1, _, h2, h3, h4, h5, h6⟩ := tmod_fact a b hb
  have : r ≠ 0 := fun e => h (h6.2 e)
  have := fdiv_of (-a) b (-(a.tdiv b) - 1) (b - r) (by rw [Int.mul_sub, Int.mul_neg]; omega) (by
    omega)
  omega
theorem ceil_same (a b : Int) (hb : b ≠ 0) (h : a.tdiv b * b = a ∨ ¬ (a < 0 ↔ b < 0)) : a.tdiv b = -((-a).fdiv b) := by
  obtain ⟨r, h1, _, h2, h3, h4, h5, h6⟩ := tmod_fact a b hb
  have := fdiv_of (-a) b (-(a.tdiv b)) (-r) (by rw [Int.mul_neg]; omega) (by
    rcases h with h | h
    · have := h6.1 h; omega
    · omega)
  omega
theorem fmod_eq (a b : Int) : a.fmod b = a - b * a.fdiv b := by have := Int.mul_fdiv_add_fmod a b; omega
theorem rest_up (a b : Int) (hb : b ≠ 0) (h : a.tmod b ≠ 0) (hx : ¬ (a.tmod b < 0 ↔ b < 0)) : a.tmod b + b = a.fmod b := by
  obtain ⟨_, h1, rfl, h2, h3, h4, h5, h6⟩ := tmod_fact a b hb
  rw [fmod_eq]
  rw [fdiv_of a b (a.tdiv b - 1) (a.tmod b + b) (by rw [Int.mul_sub]; omega) (by
    omega)]
  rw [Int.mul_sub]; omega
theorem rest_same (a b : Int) (hb : b ≠ 0) (h : a.tmod b = 0 ∨ (a.tmod b < 0 ↔ b < 0)) : a.tmod b = a.fmod b := by
  obtain ⟨_, h1, rfl, h2, h3, h4, h5, h6⟩ := tmod_fact a b hb
  rw [fmod_eq]
  rw [fdiv_of a b (a.tdiv b) (a.tmod b) h1 (by
    rcases h with h | h
    · omega
    · omega)]
  omega
theorem fdiv_bd (a b : Int) (hs : Small a b) : -4611686018427387905 ≤ a.fdiv b ∧ a.fdiv b ≤ 4611686018427387904 := by
  have h := tdiv_bd a b hs
  obtain ⟨h0, -⟩ := hs
  by_cases e : a.tdiv b * b = a
  · have := floor_same a b h0 (.inl e); omega
  · by_cases e2 : (a < 0 ↔ b < 0)
    · have := floor_same a b h0 (.inr e2); omega
    · have := floor_down a b h0 e e2; omega
theorem fmod_bd (a b : Int) (h0 : b ≠ 0) : (0 < b ∧ 0 ≤ a.fmod b ∧ a.fmod b < b) ∨ (b < 0 ∧ b < a.fmod b ∧ a.fmod b ≤ 0) := by
  by_cases hb : 0 < b
  · exact .inl ⟨hb, Int.fmod_nonneg_of_pos a hb, Int.fmod_lt_of_pos a hb⟩
  · have h1 := Int.fmod_nonneg_of_pos (-a) (b := -b) (by omega)
    have h2 := Int.fmod_lt_of_pos (-a) (b := -b) (by omega)
    have e : (-a).fmod (-b) = -(a.fmod b) := by rw [fmod_eq, fmod_eq, Int.neg_fdiv_neg, Int.neg_mul]; omega
    right; omega

/- the root -/
def rt : Nat → Nat
  | 0 => 0
  | n + 1 => if (rt n + 1) * (rt n + 1) ≤ n + 1 then rt n + 1 else rt n
theorem rt_spec (n : Nat) : rt n * rt n ≤ n ∧ n < (rt n + 1) * (rt n + 1) := by
  induction n with
  | zero => simp [rt]
  | succ n ih =>
    unfold rt
    split
    · rename_i h
      refine ⟨h, ?_⟩
      have e : (rt n + 1 + 1) * (rt n + 1 + 1) = (rt n + 1) * (rt n + 1) + 2 * (rt n + 1) + 1 := by
        rw [Nat.add_mul (rt n + 1) 1, Nat.mul_add (rt n + 1) (rt n + 1) 1]; omega
      omega
    · omega
theorem sq_le_imp (a b : Nat) (h : a * a < b * b) : a < b := by
  apply Nat.lt_of_not_le
  intro hb
  have := Nat.mul_le_mul hb hb
  omega
theorem rt_of (n r : Nat) (h1 : r * r ≤ n) (h2 : n < (r + 1) * (r + 1)) : rt n = r := by
  have ⟨a, b⟩ := rt_spec n
  have := sq_le_imp (rt n) (r + 1) (by omega)
  have := sq_le_imp r (rt n + 1) (by omega)
  omega
attribute [irreducible] rt
theorem rt_lt (n k : Nat) (h : n < k * k) : rt n < k := by
  have ⟨a, b⟩ := rt_spec n
  exact sq_le_imp _ _ (by omega)
theorem le_rt (n k : Nat) (h : k * k ≤ n) : k ≤ rt n := by
  have ⟨a, b⟩ := rt_spec n
  have := sq_le_imp k (rt n + 1) (by omega)
  omega
end Go.Proofs.Ytegibpepdndocaa
