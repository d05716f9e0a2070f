import Derived.RowKit
namespace Go.Proofs.Ytbgcbolalbjepaa
open Go.RowKit (wrap64)

def Small (a b : Int) : Prop := b ≠ 0 ∧ -4611686018427387904 ≤ a ∧ a ≤ 4611686018427387904 ∧ -4611686018427387904 ≤ b ∧ b ≤ 4611686018427387904
theorem tdiv_bd (a b : Int) (hs : Small a b) : -4611686018427387904 ≤ a.tdiv b ∧ a.tdiv b ≤ 4611686018427387904 := by
  obtain ⟨h0, h1, h2, h3, h4⟩ := hs
  have := Int.natAbs_tdiv_le_natAbs a b
  omega
theorem tdiv_mul_bd (a b : Int) (hs : Small a b) : -4611686018427387904 ≤ a.tdiv b * b ∧ a.tdiv b * b ≤ 4611686018427387904 := by
  obtain ⟨h0, h1, h2, h3, h4⟩ := hs
  have h5 := Int.mul_tdiv_add_tmod a b
  rw [Int.mul_comm] at h5
  by_cases ha : 0 ≤ a
  · have := Int.tmod_nonneg b ha
    have h6 : (a.tdiv b * b).natAbs ≤ a.natAbs := by
      rw [Int.natAbs_mul, Int.natAbs_tdiv]; exact Nat.div_mul_le_self _ _
    omega
  · have h6 : (a.tdiv b * b).natAbs ≤ a.natAbs := by
      rw [Int.natAbs_mul, Int.natAbs_tdiv]; exact Nat.div_mul_le_self _ _
    omega
theorem wrap64_of (n : Int) (h1 : -9223372036854775808 ≤ n) (h2 : n ≤ 9223372036854775807) : wrap64 n = n := by unfold wrap64; omega

theorem fdiv_of (a b q r : Int) (h : b * q + r = a) (hr : (0 < b ∧ 0 ≤ r ∧ r < b) ∨ (b < 0 ∧ b < r ∧ r ≤ 0)) : a.fdiv b = q := by
  subst h
  rcases hr with ⟨hb, h1, h2⟩ | ⟨hb, h1, h2⟩
  · rw [Int.fdiv_eq_ediv_of_nonneg _ (by omega), Int.add_comm, Int.add_mul_ediv_left _ _ (by omega), Int.ediv_eq_zero_of_lt h1 h2]; omega
  · have : (b * q + r).fdiv b = (-(b * q + r)).fdiv (-b) := by rw [Int.neg_fdiv_neg]
    rw [this, Int.fdiv_eq_ediv_of_nonneg _ (by omega)]
    have e : -(b * q + r) = -r + (-b) * q := by rw [Int.neg_mul]; omega
    rw [e, Int.add_mul_ediv_left _ _ (by omega), Int.ediv_eq_zero_of_lt (by omega) (by omega)]; omega
theorem tmod_fact (a b : Int) (hb : b ≠ 0) : ∃ r, b * a.tdiv b + r = a ∧ r = a.tmod b ∧ (0 ≤ a → 0 ≤ r) ∧ (a ≤ 0 → r ≤ 0) ∧ (r < b ∨ r < -b) ∧ (-b < r ∨ b < r) ∧ (a.tdiv b * b = a ↔ r = 0) := by
  have h5 := Int.mul_tdiv_add_tmod a b
  have hn : (a.tmod b).natAbs < b.natAbs := by rw [Int.natAbs_tmod]; exact Nat.mod_lt _ (by omega)
  refine ⟨a.tmod b, h5, rfl, fun h => Int.tmod_nonneg b h, fun h => ?_, by omega, by omega, ?_⟩
  · have h6 : (-a).tmod b = -(a.tmod b) := Int.neg_tmod ..
    have := Int.tmod_nonneg b (show 0 ≤ -a by omega)
    omega
  · rw [Int.mul_comm]; omega
/- the floor, from the quotient that drops -/
theorem floor_down (a b : Int) (hb : b ≠ 0) (h : a.tdiv b * b ≠ a) (hx : ¬ (a < 0 ↔ b < 0)) : a.tdiv b - 1 = a.fdiv b := by
  obtain ⟨r, h1, _, h2, h3, h4, h5, h6⟩ := tmod_fact a b hb
  refine (fdiv_of a b _ (r + b) (by rw [Int.mul_sub]; omega) ?_).symm
  have : r ≠ 0 := fun e => h (h6.2 e)
  omega
theorem floor_same (a b : Int) (hb : b ≠ 0) (h : a.tdiv b * b = a ∨ (a < 0 ↔ b < 0)) : a.tdiv b = a.fdiv b := by
  obtain ⟨r, h1, _, h2, h3, h4, h5, h6⟩ := tmod_fact a b hb
  refine (fdiv_of a b _ r h1 ?_).symm
  rcases h with h | h
  · have := h6.1 h; omega
  · omega
theorem fdiv_bd (a b : Int) (hs : Small a b) : -4611686018427387905 ≤ a.fdiv b ∧ a.fdiv b ≤ 4611686018427387904 := by
  have h := tdiv_bd a b hs
  obtain ⟨h0, -⟩ := hs
  by_cases e : a.tdiv b * b = a
  · have := floor_same a b h0 (.inl e); omega
  · by_cases e2 : (a < 0 ↔ b < 0)
    · have := floor_same a b h0 (.inr e2); omega
    · have := floor_down a b h0 e e2; omega
/- the root -/
def rt : Nat → Nat
  | 0 => 0
  | n + 1 => if (rt n + 1) * (rt n + 1) ≤ n + 1 then rt n + 1 else rt n
attribute [irreducible] rt
end Go.Proofs.Ytbgcbolalbjepaa
