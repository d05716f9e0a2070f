
import Derived.Test.YtlppeodjekpijaaVct
namespace Go.Proofs.Ytlppeodjekpijaa
open Go.ChangeShapes Go.WideShapes Go.ChangeAt Go.RowKit

theorem vDot (a b c x y z n : Int) (w : World) (h : Vok a b c 1048576) (k : Vok x y z 1048576) (hn : a * x + b * y + c * z = n) :
    Calls Try.prog 19 #[.agg #[.int .i64 (a), .int .i64 (b), .int .i64 (c)], .agg #[.int .i64 (x), .int .i64 (y), .int .i64 (z)]] w fun e w' => e = .returned (.int .i64 n) ∧ Below w.heap.size w w' := by
  rw [← hn]; exact iDot_yes a b c x y z w h k
theorem vCross (a b c x y z p q r : Int) (w : World) (h : Vok a b c 1048576) (k : Vok x y z 1048576) (hp : b * z - c * y = p) (hq : c * x - a * z = q) (hr : a * y - b * x = r) :
    Calls Try.prog 15 #[.agg #[.int .i64 (a), .int .i64 (b), .int .i64 (c)], .agg #[.int .i64 (x), .int .i64 (y), .int .i64 (z)]] w fun e w' => e = .returned (.agg #[.int .i64 (p), .int .i64 (q), .int .i64 (r)]) ∧ Below w.heap.size w w' := by
  rw [← hp, ← hq, ← hr]; exact iCross_yes a b c x y z w h k
theorem vTimes (x y z n p q r : Int) (w : World) (h : Tok x y z n) (hp : x * n = p) (hq : y * n = q) (hr : z * n = r) :
    Calls Try.prog 23 #[.agg #[.int .i64 (x), .int .i64 (y), .int .i64 (z)], .int .i64 n] w fun e w' => e = .returned (.agg #[.int .i64 (p), .int .i64 (q), .int .i64 (r)]) ∧ Below w.heap.size w w' := by
  rw [← hp, ← hq, ← hr]; exact iTimes_yes x y z n w h
theorem vMinus (a b c x y z p q r : Int) (w : World) (h : Vok a b c 1048576) (k : Vok x y z 1048576) (hp : a - x = p) (hq : b - y = q) (hr : c - z = r) :
    Calls Try.prog 14 #[.agg #[.int .i64 (a), .int .i64 (b), .int .i64 (c)], .agg #[.int .i64 (x), .int .i64 (y), .int .i64 (z)]] w fun e w' => e = .returned (.agg #[.int .i64 (p), .int .i64 (q), .int .i64 (r)]) ∧ Below w.heap.size w w' := by
  rw [← hp, ← hq, ← hr]; exact iMinus_yes a b c x y z w h k
theorem vPlus (a b c x y z p q r : Int) (w : World) (h : Vok a b c 1048576) (k : Vok x y z 1048576) (hp : a + x = p) (hq : b + y = q) (hr : c + z = r) :
    Calls Try.prog 13 #[.agg #[.int .i64 (a), .int .i64 (b), .int .i64 (c)], .agg #[.int .i64 (x), .int .i64 (y), .int .i64 (z)]] w fun e w' => e = .returned (.agg #[.int .i64 (p), .int .i64 (q), .int .i64 (r)]) ∧ Below w.heap.size w w' := by
  rw [← hp, ← hq, ← hr]; exact iPlus_yes a b c x y z w h k
theorem okV (a b c : Int) : ∃ v : Bool, (∀ w, Calls Try.prog 21 #[.agg #[.int .i64 (a), .int .i64 (b), .int .i64 (c)], .int .i64 700] w fun e w' => e = .returned (.bool v) ∧ Below w.heap.size w w') ∧ (∀ w, Calls Try.prog 22 #[.agg #[.int .i64 (a), .int .i64 (b), .int .i64 (c)], .int .i64 700] w fun e w' => e = .returned (.bool v) ∧ Below w.heap.size w w') ∧ (v = true ↔ Vok a b c 700) := by
  by_cases h : Vok a b c 700
  · exact ⟨true, fun w => ivecOk_yes a b c 700 w (by omega) (by omega) h, fun w => svecOk_yes a b c 700 w (by omega) (by omega) h, by simp [h]⟩
  · exact ⟨false, fun w => ivecOk_no a b c 700 w (by omega) (by omega) h, fun w => svecOk_no a b c 700 w (by omega) (by omega) h, by simp [h]⟩
theorem vcross_vok {a b c x y z : Int} (h : Vok a b c 700) (k : Vok x y z 700) : Vok (b * z - c * y) (c * x - a * z) (a * y - b * x) 980000 := by
  obtain ⟨a1, a2, a3, a4, a5, a6⟩ := h
  obtain ⟨k1, k2, k3, k4, k5, k6⟩ := k
  have m1 := mulb b z 700 a3 a4 k5 k6
  have m2 := mulb c y 700 a5 a6 k3 k4
  have m3 := mulb c x 700 a5 a6 k1 k2
  have m4 := mulb a z 700 a1 a2 k5 k6
  have m5 := mulb a y 700 a1 a2 k3 k4
  have m6 := mulb b x 700 a3 a4 k1 k2
  unfold Vok
  omega
theorem wFnVectors {A : Option Addr} {n c : Nat} {w : World} (hnc : n ≤ c) (hcap : c ≤ 9223372036854775807) (hcode : Code w w.heap.size A n) :
    Calls Try.prog 3 #[.slice A n c] w fun e w' => e = .returned (.bool true) ∧ Below w.heap.size w w' := by
  refine lawVectors hnc hcap hcode fun a b c3 x y z => ?_
  obtain ⟨va, a1, a2, a3⟩ := okV a b c3
  obtain ⟨vb, b1, b2, b3⟩ := okV x y z
  by_cases hk : Vok a b c3 1048576 ∧ Vok x y z 1048576
  · obtain ⟨h, k⟩ := hk
    refine ⟨_, _, _, _, _, _, _, _, _, _, va, vb, fun w => iPlus_yes a b c3 x y z w h k, fun w => sPlus_yes a b c3 x y z w h k, fun w => iMinus_yes a b c3 x y z w h k, fun w => sMinus_yes a b c3 x y z w h k,
      fun w => iCross_yes a b c3 x y z w h k, fun w => sCross_yes a b c3 x y z w h k, fun w => iDot_yes a b c3 x y z w h k, fun w => sDot_yes a b c3 x y z w h k, a1, a2, b1, b2, ?_⟩
    by_cases h7 : Vok a b c3 700 ∧ Vok x y z 700
    · obtain ⟨h7, k7⟩ := h7
      have hE := vcross_vok k7 h7
      have hC := vcross_vok h7 k7
      have hC' := hC
      obtain ⟨x1, x2, x3, x4, x5, x6⟩ := hC'
      have h7' := h7
      obtain ⟨y1, y2, y3, y4, y5, y6⟩ := h7'
      have k7' := k7
      obtain ⟨z1, z2, z3, z4, z5, z6⟩ := k7'
      have m1 := mulb a (b * z - c3 * y) 1000000 (by omega) (by omega) (by omega) (by omega)
      have m2 := mulb b (c3 * x - a * z) 1000000 (by omega) (by omega) (by omega) (by omega)
      have m3 := mulb c3 (a * y - b * x) 1000000 (by omega) (by omega) (by omega) (by omega)
      have d1 := mulb a x 700 y1 y2 z1 z2
      have d2 := mulb b y 700 y3 y4 z3 z4
      have d3 := mulb c3 z 700 y5 y6 z5 z6
      have d4 := mulb a a 700 y1 y2 y1 y2
      have d5 := mulb b b 700 y3 y4 y3 y4
      have d6 := mulb c3 c3 700 y5 y6 y5 y6
      have d7 := mulb x x 700 z1 z2 z1 z2
      have d8 := mulb y y 700 z3 z4 z3 z4
      have d9 := mulb z z 700 z5 z6 z5 z6
      refine .inr (.inr ⟨a3.2 h7, b3.2 k7, _, _, _, _, _, _, _, _, _, fun w => vMinus _ _ _ x y z a b c3 w (by unfold Vok at *; omega) k (by omega) (by omega) (by omega), fun w => vPlus _ _ _ x y z a b c3 w (by unfold Vok at *; omega) k (by omega) (by omega) (by omega),
        fun w => vDot x y z a b c3 _ w k h (by grind), fun w => vCross x y z a b c3 _ _ _ w k h rfl rfl rfl, fun w => vTimes _ _ _ (-1) _ _ _ w ⟨by unfold Vok at *; omega, by omega, by omega⟩ (by grind) (by grind) (by grind),
        fun w => vDot _ _ _ _ _ _ _ w (by unfold Vok at *; omega) (by unfold Vok at *; omega) rfl, fun w => vDot a b c3 a b c3 _ w h h rfl, fun w => vDot x y z x y z _ w k k rfl, ⟨rfl, rfl, rfl, by grind, by grind⟩,
        by omega, by omega, by omega, by omega, by omega, by omega, by omega, by omega, by omega, by omega, by omega, by omega⟩)
    · cases va
      · exact .inl rfl
      · cases vb
        · exact .inr (.inl ⟨rfl, rfl⟩)
        · exact absurd ⟨a3.1 rfl, b3.1 rfl⟩ h7
  · refine ⟨0, 0, 0, 0, 0, 0, 0, 0, 0, 0, va, vb, fun w => iPlus_no _ _ _ _ _ _ w hk, fun w => sPlus_no _ _ _ _ _ _ w hk, fun w => iMinus_no _ _ _ _ _ _ w hk, fun w => sMinus_no _ _ _ _ _ _ w hk,
      fun w => iCross_no _ _ _ _ _ _ w hk, fun w => sCross_no _ _ _ _ _ _ w hk, fun w => iDot_no _ _ _ _ _ _ w hk, fun w => sDot_no _ _ _ _ _ _ w hk, a1, a2, b1, b2, ?_⟩
    cases va
    · exact .inl rfl
    · cases vb
      · exact .inr (.inl ⟨rfl, rfl⟩)
      · have h1 := a3.1 rfl
        have h2 := b3.1 rfl
        exact absurd ⟨by unfold Vok at *; omega, by unfold Vok at *; omega⟩ hk
end Go.Proofs.Ytlppeodjekpijaa
