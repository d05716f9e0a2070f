
import Derived.Test.YtlppeodjekpijaaSlo
namespace Go.Proofs.Ytlppeodjekpijaa
open Go.ChangeShapes Go.WideShapes Go.ChangeAt Go.RowKit

theorem dot3_com (a b c x y z : Int) : dot3 a b c x y z = dot3 x y z a b c := by unfold dot3; rw [Int.mul_comm a, Int.mul_comm b, Int.mul_comm c]
theorem SlopeB.swap {a b c x y z D E F P R V : Int} (h : SlopeB a b c x y z D E F P R V) : SlopeB x y z a b c F E D P R V := by
  obtain ⟨⟨d1, d2, d3, d4, d5, d6, d7, d8, d9, d10⟩, hE, hD, hF, hP, hR, hV⟩ := h
  exact ⟨⟨d5, d6, d3, d4, d1, d2, d7, d8, d9, d10⟩, by rw [dot3_com]; exact hE, hF, hD, by rw [Int.mul_comm]; exact hP, hR, hV⟩
theorem bnd_in (V : Int) : -4096 ≤ bnd V (-4096) 4096 ∧ bnd V (-4096) 4096 ≤ 4096 := by unfold bnd; repeat' split; all_goals omega
theorem fdiv_pos_of {E R : Int} (hR : 1 ≤ R) (h : 0 < (E * 4096).fdiv R) : 0 < E := by
  rw [Int.fdiv_eq_ediv_of_nonneg _ (by omega)] at h
  have := (Int.le_ediv_iff_mul_le (a := 1) (b := E * 4096) (show 0 < R by omega)).1 (by omega)
  omega
theorem fdiv_neg_of {E R : Int} (hR : 1 ≤ R) (h : (E * 4096).fdiv R < 0) : E ≤ 0 := by
  rw [Int.fdiv_eq_ediv_of_nonneg _ (by omega)] at h
  have := (Int.ediv_lt_iff_lt_mul (a := E * 4096) (b := 0) (show 0 < R by omega)).1 h
  omega
theorem bnd_sign (V : Int) : (0 < bnd V (-4096) 4096 → 0 < V) ∧ (bnd V (-4096) 4096 < 0 → V < 0) := by unfold bnd; repeat' split; all_goals omega
theorem rt_sq (D : Int) (h : 1 ≤ D) : (rt (D * D).toNat : Int) = D := by
  obtain ⟨d, rfl⟩ := Int.eq_ofNat_of_zero_le (show 0 ≤ D by omega)
  have e : ((d : Int) * (d : Int)).toNat = d * d := by rw [← Int.natCast_mul, Int.toNat_natCast]
  rw [e]
  have h1 := le_rt (d * d) d (Nat.le_refl _)
  have h2 := rt_lt (d * d) (d + 1) (by rw [Nat.add_mul, Nat.mul_add]; omega)
  omega
theorem self_slope {D : Int} (h : 1 ≤ D) : (D * 4096).fdiv D = 4096 ∧ ((-D) * 4096).fdiv D = -4096 := by
  rw [Int.fdiv_eq_ediv_of_nonneg _ (by omega), Int.fdiv_eq_ediv_of_nonneg _ (by omega)]
  rw [show -D * 4096 = D * (-4096) by omega]
  exact ⟨Int.mul_ediv_cancel_left _ (by omega), Int.mul_ediv_cancel_left _ (by omega)⟩
theorem bnd_top : bnd 4096 (-4096) 4096 = 4096 := by decide
theorem bnd_low : bnd (-4096) (-4096) 4096 = -4096 := by decide
theorem long_ex (a b c : Int) : ∃ L : Int, (∀ w, Calls Try.prog 30 #[.agg #[.int .i64 (a), .int .i64 (b), .int .i64 (c)]] w fun e w' => e = .returned (.int .i64 L) ∧ Below w.heap.size w w') ∧ (∀ w, Calls Try.prog 31 #[.agg #[.int .i64 (a), .int .i64 (b), .int .i64 (c)]] w fun e w' => e = .returned (.int .i64 L) ∧ Below w.heap.size w w') := by
  by_cases h : Vok a b c 40000
  · exact ⟨_, fun w => iLong_yes a b c w h, fun w => sLong_yes a b c w h⟩
  · exact ⟨_, fun w => iLong_no a b c w h, fun w => sLong_no a b c w h⟩
theorem neg_dir {a b c : Int} (h : Dir a b c) : Dir (a * -1) (b * -1) (c * -1) := by
  obtain ⟨h, k⟩ := h
  exact ⟨by unfold Vok at *; omega, by omega⟩
theorem wFnSlope {A : Option Addr} {n c : Nat} {w : World} (hnc : n ≤ c) (hcap : c ≤ 9223372036854775807) (hcode : Code w w.heap.size A n) :
    Calls Try.prog 5 #[.slice A n c] w fun e w' => e = .returned (.bool true) ∧ Below w.heap.size w w' := by
  refine lawSlope hnc hcap hcode fun a b c3 x y z => ?_
  obtain ⟨L, l1, l2⟩ := long_ex a b c3
  by_cases h : Dir a b c3 ∧ Dir x y z
  · obtain ⟨h, k⟩ := h
    obtain ⟨D, E, F, P, R, V, hs⟩ := slopeB a b c3 x y z h k
    refine ⟨_, L, fun w => iSlope_yes a b c3 x y z D E F P R V w h k hs, fun w => sSlope_yes a b c3 x y z D E F P R V w h k hs, fun w => iSlope_yes x y z a b c3 F E D P R V w k h hs.swap, l1, l2, bnd_in V, ?_⟩
    have hs' := hs
    obtain ⟨⟨d1, d2, d3, d4, d5, d6, d7, d8, d9, d10⟩, hE, hD, hF, hP, hR, hV⟩ := hs'
    by_cases he : a = x ∧ b = y ∧ c3 = z
    · obtain ⟨rfl, rfl, rfl⟩ := he
      obtain rfl : D = E := by rw [← hD, hE]
      obtain rfl : D = F := by rw [← hD, hF]
      subst hP
      rw [rt_sq D d1] at hR
      subst hR
      have hv := self_slope d1
      rw [hv.1] at hV
      subst hV
      refine .inl ⟨rfl, rfl, rfl, bnd_top, _, _, _, fun w => iTimes_yes a b c3 (-1) w ⟨by have := h.1; unfold Vok at *; omega, by omega, by omega⟩, fun w => ?_⟩
      have hneg : dot3 a b c3 (a * -1) (b * -1) (c3 * -1) = -D := by rw [← hD]; unfold dot3; grind
      have hself : dot3 (a * -1) (b * -1) (c3 * -1) (a * -1) (b * -1) (c3 * -1) = D := by rw [← hD]; unfold dot3; grind
      have hb : SlopeB a b c3 (a * -1) (b * -1) (c3 * -1) D (-D) D (D * D) D (-4096) := ⟨⟨d1, d2, by omega, by omega, d1, d2, d7, d8, d9, d10⟩, hneg, hD, hself, rfl, rt_sq D d1, hv.2⟩
      have := iSlope_yes a b c3 (a * -1) (b * -1) (c3 * -1) D (-D) D (D * D) D (-4096) w h (neg_dir h) hb
      rw [bnd_low] at this
      exact this
    · by_cases h0 : bnd V (-4096) 4096 = 0
      · exact .inr (.inl h0)
      · refine .inr (.inr ⟨he, h0, E, fun w => iDotV a b c3 x y z E w h.1 k.1 hE, ?_⟩)
        have hb := bnd_sign V
        rcases Int.lt_or_le 0 (bnd V (-4096) 4096) with hp | hp
        · have hp2 := hb.1 hp
          rw [← hV] at hp2
          exact .inl ⟨hp, fdiv_pos_of d9 hp2⟩
        · have hp2 := hb.2 (by omega)
          rw [← hV] at hp2
          exact .inr ⟨by omega, fdiv_neg_of d9 hp2⟩
  · exact ⟨0, L, fun w => iSlope_no _ _ _ _ _ _ w h, fun w => sSlope_no _ _ _ _ _ _ w h, fun w => iSlope_no _ _ _ _ _ _ w (fun k => h ⟨k.2, k.1⟩), l1, l2, by omega, .inr (.inl rfl)⟩
end Go.Proofs.Ytlppeodjekpijaa
