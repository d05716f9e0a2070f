import Derived.Test.YtckenfomnenknaaIntsv
import Derived.Test.YtckenfomnenknaaRayCv
section
namespace Go.Proofs.Ytckenfomnenknaa
open Go.ChangeShapes Go.WideShapes Go.ChangeAt Go.RowKit
set_option linter.unusedSimpArgs false
set_option linter.unusedVariables false
set_option maxHeartbeats 4000000

theorem rtU {U R R1 Q : Int} (h0 : 0 ≤ U) (hr : RtE U R R1 Q) : R * R ≤ U * 4096 * 4096 ∧ U * 4096 * 4096 < (R + 1) * (R + 1) ∧ R ≤ R1 ∧ R1 ≤ R + 1 ∧ 0 ≤ R := by
  obtain ⟨h1, h2, h3, h4, h5, h6⟩ := hr
  have e : ((U * 4096 * 4096).toNat : Int) = U * 4096 * 4096 := by omega
  obtain ⟨s1, s2⟩ := rt_spec (U * 4096 * 4096).toNat
  have s1' := Int.ofNat_le.2 s1
  have s2' := Int.ofNat_lt.2 s2
  rw [e, Int.natCast_mul, h1] at s1'
  rw [e, Int.natCast_mul, Int.natCast_add, h1] at s2'
  exact ⟨s1', s2', by omega, by omega, by omega⟩
end Go.Proofs.Ytckenfomnenknaa
end
section
namespace Go.Proofs.Ytckenfomnenknaa

/- from where to where a ray is between two numbers on an axis -/
def SlE (l h f t X Y : Int) : Prop :=
  (0 < t ∧ ((l - f) * 4096).fdiv t = X ∧ ((h - f) * 4096).fdiv t = Y) ∨ (t < 0 ∧ ((h - f) * 4096).fdiv t = X ∧ ((l - f) * 4096).fdiv t = Y) ∨
  (t = 0 ∧ l ≤ f ∧ f ≤ h ∧ X = -1073741824 ∧ Y = 1073741824) ∨ (t = 0 ∧ (f < l ∨ h < f) ∧ X = 0 ∧ Y = 0)
theorem slE (l h f t : Int) : ∃ X Y, SlE l h f t X Y := by
  by_cases h1 : 0 < t
  · exact ⟨_, _, .inl ⟨h1, rfl, rfl⟩⟩
  · by_cases h2 : t < 0
    · exact ⟨_, _, .inr (.inl ⟨h2, rfl, rfl⟩)⟩
    · by_cases h3 : l ≤ f ∧ f ≤ h
      · exact ⟨_, _, .inr (.inr (.inl ⟨by omega, h3.1, h3.2, rfl, rfl⟩))⟩
      · exact ⟨_, _, .inr (.inr (.inr ⟨by omega, by omega, rfl, rfl⟩))⟩
/- three axes together: the beginnings and the ends so far -/
def CtE (X1 Y1 X2 Y2 X3 Y3 B1 E1 B2 E2 B3 E3 : Int) : Prop := (max (-1073741824) X1 = B1 ∧ min 1073741824 Y1 = E1) ∧ (max B1 X2 = B2 ∧ min E1 Y2 = E2) ∧ (max B2 X3 = B3 ∧ min E2 Y3 = E3)
/- what is left of a cut -/
def LfE (B E X Y : Int) : Prop := (B < E ∧ X = B ∧ Y = E) ∨ (E ≤ B ∧ X = 0 ∧ Y = 0)
theorem lfE (B E : Int) : ∃ X Y, LfE B E X Y := by
  by_cases h : B < E
  · exact ⟨_, _, .inl ⟨h, rfl, rfl⟩⟩
  · exact ⟨_, _, .inr ⟨by omega, rfl, rfl⟩⟩
end Go.Proofs.Ytckenfomnenknaa
end
