import Derived.Test.YtbgcbolalbjepaaBoxIt
import Derived.Test.YtbgcbolalbjepaaRayHt
namespace Go.Proofs.Ytbgcbolalbjepaa
open Go.ChangeShapes Go.WideShapes Go.ChangeAt Go.RowKit
set_option linter.unusedSimpArgs false
set_option linter.unusedVariables false
set_option maxHeartbeats 4000000

/- two half-spaces of a box against its slab on that axis: x1 y1 of the lower face, x2 y2 of the upper one -/
theorem faces {l h f t F1 F2 x1 y1 x2 y2 X Y : Int} (hl : -800 ≤ l ∧ l ≤ 800) (hh : -800 ≤ h ∧ h ≤ 800) (hf : -800 ≤ f ∧ f ≤ 800) (s : SlE l h f t X Y)
    (e1 : ((-l - -f) * 4096).fdiv (-t) = F1) (c1 : CutE (-l) (-f) (-t) F1 x1 y1) (e2 : ((h - f) * 4096).fdiv t = F2) (c2 : CutE h f t F2 x2 y2) :
    max x1 x2 = X ∧ min y1 y2 = Y ∧ (-1073741824 ≤ X ∧ X ≤ 1073741824 ∧ -1073741824 ≤ Y ∧ Y ≤ 1073741824) ∧ (x1 = y1 ∨ x2 = y2 → X = 0 ∧ Y = 0) := by
  have dv : ∀ {k t : Int}, 0 < t → -6553600 ≤ k → k ≤ 6553600 → -6553600 ≤ k.fdiv t ∧ k.fdiv t ≤ 6553600 := fun {k t} ht h1 h2 => by
    constructor
    · rw [fdiv_le ht]
      have : 6553600 * 1 ≤ 6553600 * t := Int.mul_le_mul_of_nonneg_left (by omega) (by omega)
      omega
    · false_or_by_contra
      rename_i hc
      have h3 : (6553601 : Int) ≤ k.fdiv t := by omega
      rw [fdiv_le ht] at h3
      have : 6553601 * 1 ≤ 6553601 * t := Int.mul_le_mul_of_nonneg_left (by omega) (by omega)
      omega
  have g1 : ((l - f) * 4096).fdiv t = F1 := by rw [← e1, fdiv_neg' _ t]; congr 1; omega
  have b1 : t ≠ 0 → -6553600 ≤ F1 ∧ F1 ≤ 6553600 := fun h0 => by
    by_cases ht : 0 < t
    · rw [← g1]; exact dv ht (by omega) (by omega)
    · rw [← e1]; exact dv (by omega) (by omega) (by omega)
  have b2 : t ≠ 0 → -6553600 ≤ F2 ∧ F2 ≤ 6553600 := fun h0 => by
    by_cases ht : 0 < t
    · rw [← e2]; exact dv ht (by omega) (by omega)
    · rw [← e2, fdiv_neg' _ t]; exact dv (by omega) (by omega) (by omega)
  unfold CutE at c1 c2
  rcases s with ⟨c, h1, h2⟩ | ⟨c, h1, h2⟩ | ⟨rfl, h1, h2, rfl, rfl⟩ | ⟨rfl, h1, rfl, rfl⟩
  · have b1 := b1 (by omega)
    have b2 := b2 (by omega)
    omega
  · have b1 := b1 (by omega)
    have b2 := b2 (by omega)
    omega
  · omega
  · omega
end Go.Proofs.Ytbgcbolalbjepaa
