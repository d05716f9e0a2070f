
import Derived.Test.YtckenfomnenknaaVec6
namespace Go.Proofs.Ytckenfomnenknaa
open Go.ChangeShapes Go.WideShapes Go.ChangeAt Go.RowKit

attribute [local go_sem] VGo_value VGo_skip VGo_enter
def dot3 (a b c x y z : Int) : Int := a * x + b * y + c * z
theorem dot3b (a b c x y z m : Int) (h : Vok a b c m) (k : Vok x y z m) : -(3 * (m * m)) ≤ dot3 a b c x y z ∧ dot3 a b c x y z ≤ 3 * (m * m) := by
  obtain ⟨a1, a2, a3, a4, a5, a6⟩ := h
  obtain ⟨k1, k2, k3, k4, k5, k6⟩ := k
  have e1 := mulb a x m a1 a2 k1 k2
  have e2 := mulb b y m a3 a4 k3 k4
  have e3 := mulb c z m a5 a6 k5 k6
  unfold dot3
  omega
theorem iDotV (a b c x y z n : Int) (w : World) (h : Vok a b c 200) (k : Vok x y z 200) (hn : dot3 a b c x y z = n) :
    Calls Try.prog 59 #[.agg #[.int .i64 (a), .int .i64 (b), .int .i64 (c)], .agg #[.int .i64 (x), .int .i64 (y), .int .i64 (z)]] w fun e w' => e = .returned (.int .i64 n) ∧ Below w.heap.size w w' := by
  rw [← hn]; exact iDot_yes a b c x y z w (by unfold Vok at *; omega) (by unfold Vok at *; omega)
theorem sDotV (a b c x y z n : Int) (w : World) (h : Vok a b c 200) (k : Vok x y z 200) (hn : dot3 a b c x y z = n) :
    Calls Try.prog 161 #[.agg #[.int .i64 (a), .int .i64 (b), .int .i64 (c)], .agg #[.int .i64 (x), .int .i64 (y), .int .i64 (z)]] w fun e w' => e = .returned (.int .i64 n) ∧ Below w.heap.size w w' := by
  rw [← hn]; exact l2Dot_any a b c x y z w (by unfold Vok at *; omega) (by unfold Vok at *; omega)
theorem sTimesV (x y z n p q r : Int) (w : World) (h : Vok x y z 200) (h1 : -1048576 ≤ n) (h2 : n ≤ 1048576) (hp : x * n = p) (hq : y * n = q) (hr : z * n = r) :
    Calls Try.prog 98 #[.agg #[.int .i64 (x), .int .i64 (y), .int .i64 (z)], .int .i64 n] w fun e w' => e = .returned (.agg #[.int .i64 (p), .int .i64 (q), .int .i64 (r)]) ∧ Below w.heap.size w w' := by
  rw [← hp, ← hq, ← hr]; exact l2Times_any x y z n w (by unfold Vok at *; omega) h1 h2
theorem sShortV (x y z p q r : Int) (w : World) (h : Vok x y z 1073741824) (hp : sh x y z x = p) (hq : sh x y z y = q) (hr : sh x y z z = r) :
    Calls Try.prog 99 #[.agg #[.int .i64 (x), .int .i64 (y), .int .i64 (z)]] w fun e w' => e = .returned (.agg #[.int .i64 (p), .int .i64 (q), .int .i64 (r)]) ∧ Below w.heap.size w w' := by
  rw [← hp, ← hq, ← hr]; exact l2Short_any x y z w h
theorem mulc (x n m k : Int) (h1 : -m ≤ x) (h2 : x ≤ m) (h3 : -k ≤ n) (h4 : n ≤ k) : -(m * k) ≤ x * n ∧ x * n ≤ m * k := by
  have e1 := Int.mul_nonneg (show 0 ≤ m - x by omega) (show 0 ≤ k - n by omega)
  have e2 := Int.mul_nonneg (show 0 ≤ m + x by omega) (show 0 ≤ k + n by omega)
  have e3 := Int.mul_nonneg (show 0 ≤ m - x by omega) (show 0 ≤ k + n by omega)
  have e4 := Int.mul_nonneg (show 0 ≤ m + x by omega) (show 0 ≤ k - n by omega)
  simp only [Int.sub_mul, Int.mul_sub, Int.add_mul, Int.mul_add] at e1 e2 e3 e4
  constructor <;> omega
/- what is thrown back, ahead of Short -/
def thr (a x D F : Int) : Int := a * D + x * F
def ThrB (a b c x y z p q r s t u D E : Int) : Prop :=
  (-120000 ≤ D ∧ D ≤ 120000 ∧ -120000 ≤ E ∧ E ≤ 120000) ∧ Vok p q r 24000000 ∧ Vok s t u 48000000 ∧
  (dot3 x y z x y z = D ∧ dot3 a b c x y z = E) ∧ (a * D = p ∧ b * D = q ∧ c * D = r) ∧ (x * (-2 * E) = s ∧ y * (-2 * E) = t ∧ z * (-2 * E) = u)
theorem thrB (a b c x y z : Int) (h : Vok a b c 200) (k : Vok x y z 200) :
    ∃ p q r s t u D E, ThrB a b c x y z p q r s t u D E := by
  have hD := dot3b x y z x y z 200 k k
  have hE := dot3b a b c x y z 200 h k
  obtain ⟨D, hD'⟩ : ∃ D, dot3 x y z x y z = D := ⟨_, rfl⟩
  obtain ⟨E, hE'⟩ : ∃ E, dot3 a b c x y z = E := ⟨_, rfl⟩
  rw [hD'] at hD
  rw [hE'] at hE
  obtain ⟨a1, a2, a3, a4, a5, a6⟩ := h
  obtain ⟨k1, k2, k3, k4, k5, k6⟩ := k
  have e1 := mulc a D 200 120000 a1 a2 (by omega) (by omega)
  have e2 := mulc b D 200 120000 a3 a4 (by omega) (by omega)
  have e3 := mulc c D 200 120000 a5 a6 (by omega) (by omega)
  have e4 := mulc x (-2 * E) 200 240000 k1 k2 (by omega) (by omega)
  have e5 := mulc y (-2 * E) 200 240000 k3 k4 (by omega) (by omega)
  have e6 := mulc z (-2 * E) 200 240000 k5 k6 (by omega) (by omega)
  exact ⟨a * D, b * D, c * D, x * (-2 * E), y * (-2 * E), z * (-2 * E), D, E, ⟨by omega, by omega, by omega, by omega⟩, ⟨by omega, by omega, by omega, by omega, by omega, by omega⟩, ⟨by omega, by omega, by omega, by omega, by omega, by omega⟩,
    ⟨hD', hE'⟩, ⟨rfl, rfl, rfl⟩, rfl, rfl, rfl⟩
end Go.Proofs.Ytckenfomnenknaa
