
import Derived.Test.YtlppeodjekpijaaThr
namespace Go.Proofs.Ytlppeodjekpijaa
open Go.ChangeShapes Go.WideShapes Go.ChangeAt Go.RowKit

/- a vector that is short enough -/
theorem tdiv_le (u s m : Int) (hs : 0 < s) (h1 : -(m * s) ≤ u) (h2 : u ≤ m * s) : -m ≤ u.tdiv s ∧ u.tdiv s ≤ m := by
  rcases Int.le_total 0 u with h | h
  · rw [Int.tdiv_eq_ediv_of_nonneg h]
    have a1 : u / s ≤ m := by
      have := Int.ediv_lt_of_lt_mul hs (show u < (m + 1) * s by rw [Int.add_mul]; omega)
      omega
    have a2 : 0 ≤ u / s := Int.ediv_nonneg h (by omega)
    omega
  · have e : u = -(-u) := by omega
    rw [e, Int.neg_tdiv, Int.tdiv_eq_ediv_of_nonneg (by omega : 0 ≤ -u)]
    have a1 : -u / s ≤ m := by
      have := Int.ediv_lt_of_lt_mul hs (show -u < (m + 1) * s by rw [Int.add_mul]; omega)
      omega
    have a2 : 0 ≤ -u / s := Int.ediv_nonneg (by omega) (by omega)
    omega
theorem cut_le (u s B : Int) (h1 : -B ≤ u) (h2 : u ≤ B) (hs : B ≤ 200 * s) : -200 ≤ cut u s ∧ cut u s ≤ 200 := by
  unfold cut
  split
  · omega
  · exact tdiv_le u s 200 (by omega) (by omega) (by omega)
theorem big_ge (x y z : Int) : (-(big x y z) ≤ x ∧ x ≤ big x y z) ∧ (-(big x y z) ≤ y ∧ y ≤ big x y z) ∧ (-(big x y z) ≤ z ∧ z ≤ big x y z) := by unfold big; omega
theorem ceil_ge (B : Int) : B ≤ 200 * -((-B).fdiv 200) := by
  rw [Int.fdiv_eq_ediv_of_nonneg _ (by omega)]
  omega
theorem sh_vok (x y z : Int) : Vok (sh x y z x) (sh x y z y) (sh x y z z) 200 := by
  have hb := big_ge (cut x (gcd3 x y z)) (cut y (gcd3 x y z)) (cut z (gcd3 x y z))
  have hc := ceil_ge (big (cut x (gcd3 x y z)) (cut y (gcd3 x y z)) (cut z (gcd3 x y z)))
  obtain ⟨b1, b2, b3⟩ := hb
  have c1 := cut_le _ _ _ b1.1 b1.2 hc
  have c2 := cut_le _ _ _ b2.1 b2.2 hc
  have c3 := cut_le _ _ _ b3.1 b3.2 hc
  unfold Vok sh sby
  omega

/- thrown back twice: all small directions -/
def five : List Int := [-2, -1, 0, 1, 2]
def le200 (x : Int) : Bool := decide (-200 ≤ x) && decide (x ≤ 200)
def chk2 (a b c x y z X Y Z p q r : Int) : Bool :=
  (X == 0 && Y == 0 && Z == 0) ||
  ((le200 X && le200 Y && le200 Z) && (sh p q r p == sh a b c a && (sh p q r q == sh a b c b && sh p q r r == sh a b c c)) && decide (dot3 X Y Z x y z * dot3 a b c x y z ≤ 0))
def chk1 (a b c x y z X Y Z : Int) : Bool := chk2 a b c x y z X Y Z (X * dot3 x y z x y z + x * (-2 * dot3 X Y Z x y z)) (Y * dot3 x y z x y z + y * (-2 * dot3 X Y Z x y z)) (Z * dot3 x y z x y z + z * (-2 * dot3 X Y Z x y z))
def chk0 (a b c x y z p q r : Int) : Bool := chk1 a b c x y z (sh p q r p) (sh p q r q) (sh p q r r)
def chk (a b c x y z : Int) : Bool := chk0 a b c x y z (a * dot3 x y z x y z + x * (-2 * dot3 a b c x y z)) (b * dot3 x y z x y z + y * (-2 * dot3 a b c x y z)) (c * dot3 x y z x y z + z * (-2 * dot3 a b c x y z))
def chkAB (a b : Int) : Bool := five.all fun c => five.all fun x => five.all fun y => five.all fun z => chk a b c x y z
end Go.Proofs.Ytlppeodjekpijaa
