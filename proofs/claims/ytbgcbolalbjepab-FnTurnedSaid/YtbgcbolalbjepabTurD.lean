
import Derived.Test.YtbgcbolalbjepabTur
import Derived.Test.YtbgcbolalbjepabTurM
namespace Go.Proofs.Ytbgcbolalbjepab
open Go.ChangeShapes Go.WideShapes Go.ChangeAt Go.RowKit

theorem iDotE (a b c x y z n : Int) (w : World) (h : Vok a b c 1048576) (k : Vok x y z 1048576) (hn : dt a b c x y z = n) :
    Calls Try.prog 44 #[.agg #[.int .i64 (a), .int .i64 (b), .int .i64 (c)], .agg #[.int .i64 (x), .int .i64 (y), .int .i64 (z)]] w fun e w' => e = .returned (.int .i64 n) ∧ Below w.heap.size w w' := by
  rw [← hn]; exact iDot_yes a b c x y z w h k
theorem iCrossE (a b c x y z p q r : Int) (w : World) (h : Vok a b c 1048576) (k : Vok x y z 1048576) (hp : b * z - c * y = p) (hq : c * x - a * z = q) (hr : a * y - b * x = r) :
    Calls Try.prog 45 #[.agg #[.int .i64 (a), .int .i64 (b), .int .i64 (c)], .agg #[.int .i64 (x), .int .i64 (y), .int .i64 (z)]] w fun e w' => e = .returned (.agg #[.int .i64 (p), .int .i64 (q), .int .i64 (r)]) ∧ Below w.heap.size w w' := by
  rw [← hp, ← hq, ← hr]; exact iCross_yes a b c x y z w h k
theorem iTimesE (x y z n p q r : Int) (w : World) (h : Tok x y z n) (hp : x * n = p) (hq : y * n = q) (hr : z * n = r) :
    Calls Try.prog 46 #[.agg #[.int .i64 (x), .int .i64 (y), .int .i64 (z)], .int .i64 n] w fun e w' => e = .returned (.agg #[.int .i64 (p), .int .i64 (q), .int .i64 (r)]) ∧ Below w.heap.size w w' := by
  rw [← hp, ← hq, ← hr]; exact iTimes_yes x y z n w h
theorem iMinusE (a b c x y z p q r : Int) (w : World) (h : Vok a b c 1048576) (k : Vok x y z 1048576) (hp : a - x = p) (hq : b - y = q) (hr : c - z = r) :
    Calls Try.prog 47 #[.agg #[.int .i64 (a), .int .i64 (b), .int .i64 (c)], .agg #[.int .i64 (x), .int .i64 (y), .int .i64 (z)]] w fun e w' => e = .returned (.agg #[.int .i64 (p), .int .i64 (q), .int .i64 (r)]) ∧ Below w.heap.size w w' := by
  rw [← hp, ← hq, ← hr]; exact iMinus_yes a b c x y z w h k
theorem mulk (x n m k : Int) (h1 : -m ≤ x) (h2 : x ≤ m) (h3 : -k ≤ n) (h4 : n ≤ k) : -(m * k) ≤ x * n ∧ x * n ≤ m * k := by
  have hm : 0 ≤ m := by omega
  have hk : 0 ≤ k := by omega
  have a1 := Int.mul_nonneg (show 0 ≤ m - x by omega) (show 0 ≤ k - n by omega)
  have a2 := Int.mul_nonneg (show 0 ≤ m - x by omega) (show 0 ≤ k + n by omega)
  have a3 := Int.mul_nonneg (show 0 ≤ m + x by omega) (show 0 ≤ k - n by omega)
  have a4 := Int.mul_nonneg (show 0 ≤ m + x by omega) (show 0 ≤ k + n by omega)
  grind
theorem cross_vok {x y z u v t : Int} (h : Vok x y z 400) (k : Vok u v t 1000) : Vok (y * t - z * v) (z * u - x * t) (x * v - y * u) 800000 := by
  obtain ⟨a1, a2, a3, a4, a5, a6⟩ := h
  obtain ⟨k1, k2, k3, k4, k5, k6⟩ := k
  have m1 := mulk y t 400 1000 a3 a4 k5 k6
  have m2 := mulk z v 400 1000 a5 a6 k3 k4
  have m3 := mulk z u 400 1000 a5 a6 k1 k2
  have m4 := mulk x t 400 1000 a1 a2 k5 k6
  have m5 := mulk x v 400 1000 a1 a2 k3 k4
  have m6 := mulk y u 400 1000 a3 a4 k1 k2
  unfold Vok
  omega
theorem wFnTurned {A : Option Addr} {n c : Nat} {w : World} (hnc : n ≤ c) (hcap : c ≤ 9223372036854775807) (hcode : Code w w.heap.size A n) :
    Calls Try.prog 10 #[.slice A n c] w fun e w' => e = .returned (.bool true) ∧ Below w.heap.size w w' := by
  refine lawTurned2 hnc hcap hcode fun a b c3 p q r x y z i j k i2 j2 k2 hP hU => ?_
  by_cases hm : Mok a b c3 x y z
  · have hh : ∀ w, Calls Try.prog 40 #[.agg #[.int .i64 (a), .int .i64 (b), .int .i64 (c3), .bool (p), .bool (q), .bool (r), .int .i64 (x), .int .i64 (y), .int .i64 (z)]] w fun e w' => e = .returned (.int .i64 (hi a b c3 p q r 3)) ∧ Below w.heap.size w w' := fun w => by rw [← hs_hi]; exact sHand_yes _ _ _ _ _ _ _ _ _ w hm
    have hU2 : Vok i2 j2 k2 1048576 := by unfold Vok at *; omega
    by_cases hv : Vok i j k 1048576
    · refine ⟨_, _, _, _, _, _, _, _, _, _, true, fun w => iTurned_yes a b c3 p q r x y z i j k _ _ _ w hm hv ⟨rfl, rfl, rfl⟩, fun w => sTurned_yes a b c3 p q r x y z i j k _ _ _ w hm hv ⟨rfl, rfl, rfl⟩, fun w => iTurned_yes a b c3 p q r x y z i2 j2 k2 _ _ _ w hm hU2 ⟨rfl, rfl, rfl⟩,
        fun w => iMoved_yes a b c3 p q r x y z i j k _ _ _ w hm hv ⟨rfl, rfl, rfl⟩, fun w => sMoved_yes a b c3 p q r x y z i j k _ _ _ w hm hv ⟨rfl, rfl, rfl⟩, fun w => iHand_yes _ _ _ _ _ _ _ _ _ w hm, hh, fun w => imotOk_yes _ _ _ _ _ _ _ _ _ w hm, fun w => smotOk_yes _ _ _ _ _ _ _ _ _ w hm, ?_⟩
      by_cases hV : Vok i j k 1000
      · have hV4 : Vok i j k 400 := hP.elim id (fun h => absurd hV h)
        have hE := cross_vok hV4 hU
        have hX := tu3_vok (p := a) (q := b) (r := c3) (k := p) (l := q) (n := r) hV4
        have hY := tu3_vok (p := a) (q := b) (r := c3) (k := p) (l := q) (n := r) hU
        have hT := tu3_vok (p := a) (q := b) (r := c3) (k := p) (l := q) (n := r) hE
        have hb := hi_bd a b c3 p q r 3
        obtain ⟨e1, e2, e3⟩ := cross_tu hm.1 p q r i j k i2 j2 k2
        have hmv := hm.2
        refine .inr (.inr ⟨rfl, hV, _, _, _, _, _, _, _, _, _, _, fun w => iDotE _ _ _ _ _ _ _ w (by unfold Vok at *; omega) (by unfold Vok at *; omega) (dot_tu hm.1 p q r i j k i2 j2 k2), fun w => iDotE i j k i2 j2 k2 _ w hv hU2 rfl,
          fun w => iCrossE _ _ _ _ _ _ _ _ _ w (by unfold Vok at *; omega) (by unfold Vok at *; omega) e1.symm e2.symm e3.symm, fun w => iCrossE i j k i2 j2 k2 _ _ _ w hv hU2 rfl rfl rfl,
          fun w => iTurned_yes a b c3 p q r x y z _ _ _ _ _ _ w hm (by unfold Vok at *; omega) ⟨rfl, rfl, rfl⟩, fun w => iTimesE _ _ _ _ _ _ _ w ⟨by unfold Vok at *; omega, by omega, by omega⟩ rfl rfl rfl,
          fun w => iMinusE _ _ _ _ _ _ x y z w (by unfold Vok at *; omega) (by unfold Vok at *; omega) (by omega) (by omega) (by omega)⟩)
      · exact .inr (.inl ⟨rfl, hV⟩)
    · have hn : ¬ (Mok a b c3 x y z ∧ Vok i j k 1048576) := fun h => hv h.2
      exact ⟨0, 0, 0, _, _, _, 0, 0, 0, _, true, fun w => iTurned_no _ _ _ _ _ _ _ _ _ _ _ _ w hn, fun w => sTurned_no _ _ _ _ _ _ _ _ _ _ _ _ w hn, fun w => iTurned_yes a b c3 p q r x y z i2 j2 k2 _ _ _ w hm hU2 ⟨rfl, rfl, rfl⟩,
        fun w => iMoved_no _ _ _ _ _ _ _ _ _ _ _ _ w hn, fun w => sMoved_no _ _ _ _ _ _ _ _ _ _ _ _ w hn, fun w => iHand_yes _ _ _ _ _ _ _ _ _ w hm, hh, fun w => imotOk_yes _ _ _ _ _ _ _ _ _ w hm, fun w => smotOk_yes _ _ _ _ _ _ _ _ _ w hm, .inr (.inl ⟨rfl, fun h => hv (by unfold Vok at *; omega)⟩)⟩
  · have hn : ∀ u v t : Int, ¬ (Mok a b c3 x y z ∧ Vok u v t 1048576) := fun u v t h => hm h.1
    exact ⟨0, 0, 0, 0, 0, 0, 0, 0, 0, 0, false, fun w => iTurned_no _ _ _ _ _ _ _ _ _ _ _ _ w (hn _ _ _), fun w => sTurned_no _ _ _ _ _ _ _ _ _ _ _ _ w (hn _ _ _), fun w => iTurned_no _ _ _ _ _ _ _ _ _ _ _ _ w (hn _ _ _),
      fun w => iMoved_no _ _ _ _ _ _ _ _ _ _ _ _ w (hn _ _ _), fun w => sMoved_no _ _ _ _ _ _ _ _ _ _ _ _ w (hn _ _ _), fun w => iHand_no _ _ _ _ _ _ _ _ _ w hm, fun w => sHand_no _ _ _ _ _ _ _ _ _ w hm, fun w => imotOk_no _ _ _ _ _ _ _ _ _ w hm, fun w => smotOk_no _ _ _ _ _ _ _ _ _ w hm, .inl rfl⟩
end Go.Proofs.Ytbgcbolalbjepab
