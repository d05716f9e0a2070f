
import Derived.Test.YtlppeodjekpijaaSho
import Derived.Test.YtlppeodjekpijaaThrM
namespace Go.Proofs.Ytlppeodjekpijaa
open Go.ChangeShapes Go.WideShapes Go.ChangeAt Go.RowKit

theorem cut_sign (t n : Int) : (0 ≤ t → 0 ≤ cut t n) ∧ (t ≤ 0 → cut t n ≤ 0) := by
  unfold cut
  split
  · exact ⟨id, id⟩
  · refine ⟨fun h => Int.tdiv_nonneg h (by omega), fun h => ?_⟩
    have e : t = -(-t) := by omega
    rw [e, Int.neg_tdiv]
    have := Int.tdiv_nonneg (show 0 ≤ -t by omega) (show 0 ≤ n by omega)
    omega
theorem sh_sign (x y z t : Int) : 0 ≤ sh x y z t * t := by
  have h1 := cut_sign t (gcd3 x y z)
  have h2 := cut_sign (cut t (gcd3 x y z)) (sby x y z (gcd3 x y z))
  unfold sh
  rcases Int.le_total 0 t with h | h
  · exact Int.mul_nonneg (h2.1 (h1.1 h)) h
  · exact Int.mul_nonneg_of_nonpos_of_nonpos (h2.2 (h1.2 h)) h
theorem gcd3_dvd (x y z : Int) : gcd3 x y z ∣ x ∧ gcd3 x y z ∣ y ∧ gcd3 x y z ∣ z := by
  unfold gcd3
  have h1 : (Int.gcd (Int.gcd x y : Int) z : Int) ∣ (Int.gcd x y : Int) := Int.gcd_dvd_left ..
  exact ⟨Int.dvd_trans h1 (Int.gcd_dvd_left ..), Int.dvd_trans h1 (Int.gcd_dvd_right ..), Int.gcd_dvd_right ..⟩
theorem gcd3_pos {x y z : Int} (h : ¬ (x = 0 ∧ y = 0 ∧ z = 0)) : 1 ≤ gcd3 x y z := by
  have h0 : 0 ≤ gcd3 x y z := by unfold gcd3; omega
  have hd := gcd3_dvd x y z
  rcases Int.lt_or_le 0 (gcd3 x y z) with k | k
  · omega
  · have e : gcd3 x y z = 0 := by omega
    rw [e, Int.zero_dvd, Int.zero_dvd, Int.zero_dvd] at hd
    exact absurd hd h
theorem cut_mul {x g : Int} (h : g ∣ x) (hg : 1 ≤ g) : cut x g * g = x := by
  unfold cut
  split
  · have : g = 1 := by omega
    rw [this, Int.mul_one]
  · exact Int.tdiv_mul_cancel h
theorem cut_ne {u s B : Int} (hs : s ≤ B) (hB : 1 ≤ B) (hu : u = B ∨ u = -B) : cut u s ≠ 0 := by
  unfold cut
  split
  · omega
  · rcases hu with rfl | rfl
    · rw [Int.tdiv_eq_ediv_of_nonneg (by omega)]
      have := (Int.le_ediv_iff_mul_le (a := 1) (b := u) (show 0 < s by omega)).2 (by omega)
      omega
    · rw [Int.neg_tdiv, Int.tdiv_eq_ediv_of_nonneg (by omega)]
      have := (Int.le_ediv_iff_mul_le (a := 1) (b := B) (show 0 < s by omega)).2 (by omega)
      omega
theorem big_is (x y z : Int) : (x = big x y z ∨ x = -(big x y z)) ∨ (y = big x y z ∨ y = -(big x y z)) ∨ (z = big x y z ∨ z = -(big x y z)) := by unfold big; omega
theorem sby_le (B : Int) (h : 1 ≤ B) : -((-B).fdiv 200) ≤ B := by
  rw [Int.fdiv_eq_ediv_of_nonneg _ (by omega)]
  omega
theorem sh_zero {x y z : Int} (h1 : sh x y z x = 0) (h2 : sh x y z y = 0) (h3 : sh x y z z = 0) : x = 0 ∧ y = 0 ∧ z = 0 := by
  refine Classical.byContradiction fun hn => ?_
  have hg := gcd3_pos hn
  obtain ⟨d1, d2, d3⟩ := gcd3_dvd x y z
  have e1 := cut_mul d1 hg
  have e2 := cut_mul d2 hg
  have e3 := cut_mul d3 hg
  have hb := big_is (cut x (gcd3 x y z)) (cut y (gcd3 x y z)) (cut z (gcd3 x y z))
  have hge := big_ge (cut x (gcd3 x y z)) (cut y (gcd3 x y z)) (cut z (gcd3 x y z))
  have hB : 1 ≤ big (cut x (gcd3 x y z)) (cut y (gcd3 x y z)) (cut z (gcd3 x y z)) := by
    refine Classical.byContradiction fun hB => ?_
    have z1 : cut x (gcd3 x y z) = 0 := by omega
    have z2 : cut y (gcd3 x y z) = 0 := by omega
    have z3 : cut z (gcd3 x y z) = 0 := by omega
    rw [z1, Int.zero_mul] at e1
    rw [z2, Int.zero_mul] at e2
    rw [z3, Int.zero_mul] at e3
    exact hn ⟨e1.symm, e2.symm, e3.symm⟩
  have hs := sby_le _ hB
  unfold sh sby at h1 h2 h3
  rcases hb with hb | hb | hb
  · exact cut_ne hs hB hb h1
  · exact cut_ne hs hB hb h2
  · exact cut_ne hs hB hb h3
theorem gcd3_three (x y z : Int) : gcd3 (x * 3) (y * 3) (z * 3) = gcd3 x y z * 3 := by
  unfold gcd3
  rw [Int.gcd_mul_right, Int.natCast_mul]
  rw [show ((Int.natAbs 3 : Nat) : Int) = 3 from rfl, Int.gcd_mul_right, Int.natCast_mul]
  rfl
theorem cut_three (x g : Int) (hg : 1 ≤ g) : cut (x * 3) (g * 3) = cut x g := by
  unfold cut
  rw [if_neg (by omega), Int.mul_tdiv_mul_of_pos_left _ _ (by omega)]
  split
  · have : g = 1 := by omega
    rw [this, Int.tdiv_one]
  · rfl
theorem sh_three {x y z : Int} (h : ¬ (x = 0 ∧ y = 0 ∧ z = 0)) (t : Int) : sh (x * 3) (y * 3) (z * 3) (t * 3) = sh x y z t := by
  have hg := gcd3_pos h
  unfold sh sby
  rw [gcd3_three, cut_three _ _ hg, cut_three _ _ hg, cut_three _ _ hg, cut_three _ _ hg]
theorem wFnShort {A : Option Addr} {n c : Nat} {w : World} (hnc : n ≤ c) (hcap : c ≤ 9223372036854775807) (hcode : Code w w.heap.size A n) :
    Calls Try.prog 4 #[.slice A n c] w fun e w' => e = .returned (.bool true) ∧ Below w.heap.size w w' := by
  refine lawShort hnc hcap hcode fun x y z hin => ?_
  obtain ⟨⟨i1, i2⟩, ⟨i3, i4⟩, i5, i6⟩ := hin
  by_cases hz : z ≤ 1073741824
  · have hV : Vok x y z 1073741824 := by unfold Vok; omega
    have hS := sh_vok x y z
    have hS' := hS
    obtain ⟨s1, s2, s3, s4, s5, s6⟩ := hS'
    have m1 := mulc (sh x y z x) x 200 1073741824 s1 s2 (by omega) i2
    have m2 := mulc (sh x y z y) y 200 1073741824 s3 s4 (by omega) i4
    have m3 := mulc (sh x y z z) z 200 1073741824 s5 s6 (by omega) hz
    refine ⟨_, _, _, fun w => iShort_yes x y z w hV, fun w => sShort_yes x y z w hV, hS, .inr ⟨hz, ⟨sh_sign x y z x, by omega⟩, ⟨sh_sign x y z y, by omega⟩, ⟨sh_sign x y z z, by omega⟩, ?_⟩⟩
    by_cases h0 : sh x y z x = 0 ∧ sh x y z y = 0 ∧ sh x y z z = 0
    · have k := sh_zero h0.1 h0.2.1 h0.2.2
      exact .inl ⟨h0.1, h0.2.1, h0.2.2, k.1, k.2.1, k.2.2⟩
    · refine .inr ⟨h0, _, _, _, _, _, _, fun w => iTimes_yes _ _ _ 3 w ⟨by unfold Vok at *; omega, by omega, by omega⟩, fun w => iShort_yes _ _ _ w (by unfold Vok at *; omega), fun w => ?_⟩
      have e1 := sh_three h0 (sh x y z x)
      have e2 := sh_three h0 (sh x y z y)
      have e3 := sh_three h0 (sh x y z z)
      rw [e1, e2, e3]
      exact iShort_yes _ _ _ w (by unfold Vok at *; omega)
  · have hV : ¬ Vok x y z 1073741824 := by unfold Vok; omega
    exact ⟨0, 0, 0, fun w => iShort_no x y z w hV, fun w => sShort_no x y z w hV, by unfold Vok; omega, .inl ⟨by omega, rfl, rfl, rfl⟩⟩
end Go.Proofs.Ytlppeodjekpijaa
