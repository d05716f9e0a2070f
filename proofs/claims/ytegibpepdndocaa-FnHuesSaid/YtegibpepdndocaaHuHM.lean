
import Derived.Test.YtegibpepdndocaaHuH
namespace Go.Proofs.Ytegibpepdndocaa
open Go.ChangeShapes Go.WideShapes Go.ChangeAt Go.RowKit

set_option linter.unusedVariables false
theorem mix_between (a x v : Int) (v0 : 0 ≤ v) (v1 : v ≤ 4096) : min a x ≤ mixOf a x v ∧ mixOf a x v ≤ max a x := by
  unfold mixOf
  rw [Int.fdiv_eq_ediv_of_nonneg _ (by omega)]
  rcases Int.le_total a x with h | h
  · have e1 := Int.mul_le_mul_of_nonneg_right v1 (show 0 ≤ x - a by omega)
    have e2 := Int.mul_nonneg v0 (show 0 ≤ x - a by omega)
    generalize v * (x - a) = k at *
    omega
  · have e1 := Int.mul_le_mul_of_nonneg_right v1 (show 0 ≤ a - x by omega)
    have e2 := Int.mul_nonneg v0 (show 0 ≤ a - x by omega)
    have e3 : v * (x - a) = -(v * (a - x)) := by rw [← Int.mul_neg, Int.neg_sub]
    rw [e3]
    generalize v * (a - x) = k at *
    omega
theorem mix_self (a v : Int) : mixOf a a v = a := by
  unfold mixOf
  rw [Int.sub_self, Int.mul_zero]
  simp
theorem htm_one (a : Int) (h0 : 0 ≤ a) (h1 : a ≤ 255) : htm a 4096 = a := by
  unfold htm mnb
  rw [Int.mul_ediv_cancel _ (by omega), if_pos h1]
theorem thr_white (a : Int) : thr a 255 = a := by
  unfold thr
  exact Int.mul_ediv_cancel _ (by omega)
theorem thr_le (c z : Int) (h0 : 0 ≤ c) (h1 : c ≤ 255) (k0 : 0 ≤ z) (k1 : z ≤ 255) : thr c z ≤ min c z := by
  unfold thr
  have e1 := Int.mul_le_mul_of_nonneg_left k1 h0
  have e2 := Int.mul_le_mul_of_nonneg_right h1 k0
  generalize c * z = k at *
  omega
theorem mnb_max (b y : Int) (h0 : 0 ≤ b) (h1 : b ≤ 255) (k0 : 0 ≤ y) (k1 : y ≤ 255) : max b y ≤ mnb (b + y) := by
  unfold mnb; split <;> omega
theorem huesP_all (a b c x y z v : Int) : HuesP a b c x y z v := by
  unfold HuesP
  have hT : ∃ W1 W2 W3 : Int, (∀ w, Calls Try.prog 23 #[.agg #[.int .i64 (a), .int .i64 (b), .int .i64 (c)], .int .i64 v] w fun e w' => e = .returned (.agg #[.int .i64 (W1), .int .i64 (W2), .int .i64 (W3)]) ∧ Below w.heap.size w w') ∧ (∀ w, Calls Try.prog 22 #[.agg #[.int .i64 (a), .int .i64 (b), .int .i64 (c)], .int .i64 v] w fun e w' => e = .returned (.agg #[.int .i64 (W1), .int .i64 (W2), .int .i64 (W3)]) ∧ Below w.heap.size w w') := by
    by_cases h : Hok a b c ∧ 0 ≤ v ∧ v ≤ 1048576
    · exact ⟨_, _, _, fun w => iHueTimes_yes _ _ _ _ w h.1 h.2.1 h.2.2, fun w => sHueTimes_yes _ _ _ _ w h.1 h.2.1 h.2.2⟩
    · exact ⟨_, _, _, fun w => iHueTimes_no _ _ _ _ w h, fun w => sHueTimes_no _ _ _ _ w h⟩
  obtain ⟨W1, W2, W3, t1, t2⟩ := hT
  by_cases h : Hok a b c
  · by_cases k : Hok x y z
    · by_cases hv : 0 ≤ v ∧ v ≤ 4096
      · have hm1 := mix_between a x v hv.1 hv.2
        have hm2 := mix_between b y v hv.1 hv.2
        have hm3 := mix_between c z v hv.1 hv.2
        have hM : Hok (mixOf a x v) (mixOf b y v) (mixOf c z v) := by unfold Hok at *; omega
        have hS : Hok (mnb (a + x)) (mnb (b + y)) (mnb (c + z)) := by
          have b1 := mnb_bd (a + x) (by unfold Hok at *; omega)
          have b2 := mnb_bd (b + y) (by unfold Hok at *; omega)
          have b3 := mnb_bd (c + z) (by unfold Hok at *; omega)
          exact ⟨b1.1, b1.2, b2.1, b2.2, b3.1, b3.2⟩
        have h' := h
        have k' := k
        obtain ⟨a1, a2, a3, a4, a5, a6⟩ := h'
        obtain ⟨k1, k2, k3, k4, k5, k6⟩ := k'
        have g3 : ∀ w, Calls Try.prog 23 #[.agg #[.int .i64 (a), .int .i64 (b), .int .i64 (c)], .int .i64 4096] w fun e w' => e = .returned (.agg #[.int .i64 (a), .int .i64 (b), .int .i64 (c)]) ∧ Below w.heap.size w w' := fun w => by
          have := iHueTimes_yes a b c 4096 w h (by omega) (by omega)
          rwa [htm_one a a1 a2, htm_one b a3 a4, htm_one c a5 a6] at this
        have g4 : ∀ w, Calls Try.prog 27 #[.agg #[.int .i64 (a), .int .i64 (b), .int .i64 (c)], .agg #[.int .i64 (255), .int .i64 (255), .int .i64 (255)]] w fun e w' => e = .returned (.agg #[.int .i64 (a), .int .i64 (b), .int .i64 (c)]) ∧ Below w.heap.size w w' := fun w => by
          have := iHueThrough_yes a b c 255 255 255 w h (by unfold Hok; omega)
          rwa [thr_white, thr_white, thr_white] at this
        have g5 : ∀ w, Calls Try.prog 25 #[.agg #[.int .i64 (x), .int .i64 (y), .int .i64 (z)], .agg #[.int .i64 (a), .int .i64 (b), .int .i64 (c)]] w fun e w' => e = .returned (.agg #[.int .i64 (mnb (a + x)), .int .i64 (mnb (b + y)), .int .i64 (mnb (c + z))]) ∧ Below w.heap.size w w' := fun w => by
          have := iHuePlus_yes x y z a b c w k h
          rwa [Int.add_comm x a, Int.add_comm y b, Int.add_comm z c] at this
        have g6 : ∀ w, Calls Try.prog 20 #[.agg #[.int .i64 (a), .int .i64 (b), .int .i64 (c)], .agg #[.int .i64 (a), .int .i64 (b), .int .i64 (c)], .int .i64 v] w fun e w' => e = .returned (.agg #[.int .i64 (a), .int .i64 (b), .int .i64 (c)]) ∧ Below w.heap.size w w' := fun w => by
          have := iHueMix_yes a b c a b c v w h h hv.1 hv.2
          rwa [mix_self, mix_self, mix_self] at this
        exact ⟨_, _, _, _, _, _, _, _, _, W1, W2, W3, true, true, fun w => iHueMix_yes a b c x y z v w h k hv.1 hv.2, fun w => sHueMix_yes a b c x y z v w h k hv.1 hv.2, fun w => iHuePlus_yes a b c x y z w h k, fun w => sHuePlus_yes a b c x y z w h k,
          fun w => iHueThrough_yes a b c x y z w h k, fun w => sHueThrough_yes a b c x y z w h k, t1, t2, fun w => ihueOk_yes a b c w h, fun w => shueOk_yes a b c w h, fun w => ihueOk_yes x y z w k,
          .inr (.inr (.inr (.inr ⟨rfl, rfl, hv.1, hv.2, ⟨hm1.1, hm1.2, mnb_max b y a3 a4 k3 k4, thr_le c z a5 a6 k5 k6⟩, fun w => ihueOk_yes _ _ _ w hM, fun w => ihueOk_yes _ _ _ w hS, g3, g4, g5, g6⟩)))⟩
      · have hn : ¬ (Hok a b c ∧ Hok x y z ∧ 0 ≤ v ∧ v ≤ 4096) := fun q => hv q.2.2
        refine ⟨0, 0, 0, _, _, _, _, _, _, W1, W2, W3, true, true, fun w => iHueMix_no a b c x y z v w hn, fun w => sHueMix_no a b c x y z v w hn, fun w => iHuePlus_yes a b c x y z w h k, fun w => sHuePlus_yes a b c x y z w h k,
          fun w => iHueThrough_yes a b c x y z w h k, fun w => sHueThrough_yes a b c x y z w h k, t1, t2, fun w => ihueOk_yes a b c w h, fun w => shueOk_yes a b c w h, fun w => ihueOk_yes x y z w k, ?_⟩
        by_cases hv0 : v < 0
        · exact .inr (.inr (.inl ⟨rfl, rfl, hv0, rfl, rfl, rfl⟩))
        · exact .inr (.inr (.inr (.inl ⟨rfl, rfl, by omega, rfl, rfl, rfl⟩)))
    · have hn : ¬ (Hok a b c ∧ Hok x y z ∧ 0 ≤ v ∧ v ≤ 4096) := fun q => k q.2.1
      have hn2 : ¬ (Hok a b c ∧ Hok x y z) := fun q => k q.2
      exact ⟨0, 0, 0, _, _, _, _, _, _, W1, W2, W3, true, false, fun w => iHueMix_no a b c x y z v w hn, fun w => sHueMix_no a b c x y z v w hn, fun w => iHuePlus_no a b c x y z w hn2, fun w => sHuePlus_no a b c x y z w hn2,
        fun w => iHueThrough_no a b c x y z w hn2, fun w => sHueThrough_no a b c x y z w hn2, t1, t2, fun w => ihueOk_yes a b c w h, fun w => shueOk_yes a b c w h, fun w => ihueOk_no x y z w k, .inr (.inl ⟨rfl, rfl, rfl, rfl, rfl⟩)⟩
  · have hn : ¬ (Hok a b c ∧ Hok x y z ∧ 0 ≤ v ∧ v ≤ 4096) := fun q => h q.1
    have hn2 : ¬ (Hok a b c ∧ Hok x y z) := fun q => h q.1
    have hb : ∃ vb : Bool, ∀ w, Calls Try.prog 18 #[.agg #[.int .i64 (x), .int .i64 (y), .int .i64 (z)]] w fun e w' => e = .returned (.bool vb) ∧ Below w.heap.size w w' := by
      by_cases k : Hok x y z
      · exact ⟨true, fun w => ihueOk_yes x y z w k⟩
      · exact ⟨false, fun w => ihueOk_no x y z w k⟩
    obtain ⟨vb, hb⟩ := hb
    exact ⟨0, 0, 0, _, _, _, _, _, _, W1, W2, W3, false, vb, fun w => iHueMix_no a b c x y z v w hn, fun w => sHueMix_no a b c x y z v w hn, fun w => iHuePlus_no a b c x y z w hn2, fun w => sHuePlus_no a b c x y z w hn2,
      fun w => iHueThrough_no a b c x y z w hn2, fun w => sHueThrough_no a b c x y z w hn2, t1, t2, fun w => ihueOk_no a b c w h, fun w => shueOk_no a b c w h, hb, .inl ⟨rfl, rfl, rfl, rfl⟩⟩
theorem wFnHues {A : Option Addr} {n c : Nat} {w : World} (hnc : n ≤ c) (hcap : c ≤ 9223372036854775807) (hcode : Code w w.heap.size A n) :
    Calls Try.prog 13 #[.slice A n c] w fun e w' => e = .returned (.bool true) ∧ Below w.heap.size w w' := lawHues hnc hcap hcode huesP_all
end Go.Proofs.Ytegibpepdndocaa
