
import Derived.Test.YtlppeodjekpijaaRat
namespace Go.Proofs.Ytlppeodjekpijaa
open Go.ChangeShapes Go.WideShapes Go.ChangeAt Go.RowKit

theorem iPlusE (a b c x y z p q r : Int) (w : World) (h : Vok a b c 1048576) (k : Vok x y z 1048576) (hp : a + x = p) (hq : b + y = q) (hr : c + z = r) :
    Calls Try.prog 13 #[.agg #[.int .i64 (a), .int .i64 (b), .int .i64 (c)], .agg #[.int .i64 (x), .int .i64 (y), .int .i64 (z)]] w fun e w' => e = .returned (.agg #[.int .i64 (p), .int .i64 (q), .int .i64 (r)]) ∧ Below w.heap.size w w' := by
  rw [← hp, ← hq, ← hr]; exact iPlus_yes a b c x y z w h k
theorem fdiv4096 (v : Int) : v.fdiv 4096 = v / 4096 := Int.fdiv_eq_ediv_of_nonneg v (by omega)
theorem one_step (x : Int) : (x * 4096).fdiv 4096 = x := by rw [fdiv4096]; exact Int.mul_ediv_cancel _ (by omega)
/- between two whole steps a part is between both ends -/
theorem between (x t F : Int) (hF : t.fdiv 4096 = F) (x1 : -200 ≤ x) (x2 : x ≤ 200) : min (F * x) (F * x + x) ≤ (x * t).fdiv 4096 ∧ (x * t).fdiv 4096 ≤ max (F * x) (F * x + x) := by
  rw [fdiv4096] at hF ⊢
  obtain ⟨s, hs⟩ : ∃ s, t % 4096 = s := ⟨_, rfl⟩
  have h1 : t = F * 4096 + s := by omega
  have h2 : 0 ≤ s ∧ s ≤ 4095 := by omega
  have e : x * t = F * x * 4096 + x * s := by rw [h1, Int.mul_add, ← Int.mul_assoc, Int.mul_comm x F]
  rw [e]
  rcases Int.le_total 0 x with hx | hx
  · have a1 : 0 ≤ x * s := Int.mul_nonneg hx h2.1
    have a2 : x * s ≤ x * 4095 := Int.mul_le_mul_of_nonneg_left h2.2 hx
    omega
  · have a1 : x * s ≤ 0 := Int.mul_nonpos_of_nonpos_of_nonneg hx h2.1
    have a2 : x * 4095 ≤ x * s := Int.mul_le_mul_of_nonpos_left hx h2.2
    omega
theorem wFnRayAt {A : Option Addr} {n c : Nat} {w : World} (hnc : n ≤ c) (hcap : c ≤ 9223372036854775807) (hcode : Code w w.heap.size A n) :
    Calls Try.prog 11 #[.slice A n c] w fun e w' => e = .returned (.bool true) ∧ Below w.heap.size w w' := by
  refine lawRayAt2 hnc hcap hcode fun a b c3 x y z t ht1 ht2 => ?_
  by_cases h : Rok a b c3 x y z
  · by_cases ht : t ≤ 1073741824
    · have hf : InFar t := ⟨by omega, ht⟩
      obtain ⟨a1, a2, a3, a4, a5, a6⟩ := h.2.1
      obtain ⟨F, hF⟩ : ∃ F, t.fdiv 4096 = F := ⟨_, rfl⟩
      have hFb : -3 ≤ F ∧ F ≤ 262144 := by rw [fdiv4096] at hF; omega
      have hf2 : InFar (F * 4096) := ⟨by omega, by omega⟩
      have hf0 : InFar 0 := ⟨by omega, by omega⟩
      have hf1 : InFar 4096 := ⟨by omega, by omega⟩
      have cat : ∀ t, InFar t → ∀ w, Calls Try.prog 66 #[.agg #[.int .i64 (a), .int .i64 (b), .int .i64 (c3), .int .i64 (x), .int .i64 (y), .int .i64 (z)], .int .i64 t] w fun e w' => e = .returned (.agg #[.int .i64 (a + (x * t).fdiv 4096), .int .i64 (b + (y * t).fdiv 4096), .int .i64 (c3 + (z * t).fdiv 4096)]) ∧ Below w.heap.size w w' :=
        fun t ht w => iRayAt_yes a b c3 x y z t _ _ _ w h ht (atE x t a1 a2 ht) (atE y t a3 a4 ht) (atE z t a5 a6 ht)
      have e0 : ∀ v : Int, (v * 0).fdiv 4096 = 0 := fun v => by rw [Int.mul_zero]; rfl
      have c0 := cat 0 hf0
      rw [e0, e0, e0, Int.add_zero, Int.add_zero, Int.add_zero] at c0
      have c1 := cat 4096 hf1
      rw [one_step, one_step, one_step] at c1
      have eL : ∀ v : Int, (v * (F * 4096)).fdiv 4096 = F * v := fun v => by rw [← Int.mul_assoc, one_step, Int.mul_comm]
      have cL := cat (F * 4096) hf2
      rw [eL, eL, eL] at cL
      have hb := between x t F hF a1 a2
      have m1 := mulc F x 262144 200 (by omega) (by omega) a1 a2
      obtain ⟨b1, b2, b3, b4, b5, b6⟩ := h.1
      refine ⟨_, _, _, true, cat t hf, fun w => sRayAt_yes a b c3 x y z t _ _ _ w h hf (atE x t a1 a2 hf) (atE y t a3 a4 hf) (atE z t a5 a6 hf), fun w => irayOk_yes _ _ _ _ _ _ w h, fun w => srayOk_yes _ _ _ _ _ _ w h,
        .inr (.inr ⟨rfl, ht, F, _, _, _, _, _, _, _, _, fun w => iFloorV t 4096 F w (by unfold Small; omega) hF, hFb, cL, fun w => iPlusE a b c3 x y z _ _ _ w (by unfold Vok; omega) (by unfold Vok; omega) rfl rfl rfl, c0, c1, ⟨by omega, by omega, by omega, by omega⟩, rfl, rfl, ?_, ?_⟩)⟩
      · omega
      · omega
    · have hn : ¬ (Rok a b c3 x y z ∧ InFar t) := fun k => ht k.2.2
      exact ⟨0, 0, 0, true, fun w => iRayAt_no _ _ _ _ _ _ _ w hn, fun w => sRayAt_no _ _ _ _ _ _ _ w hn, fun w => irayOk_yes _ _ _ _ _ _ w h, fun w => srayOk_yes _ _ _ _ _ _ w h, .inr (.inl ⟨rfl, by omega, rfl, rfl, rfl⟩)⟩
  · have hn : ¬ (Rok a b c3 x y z ∧ InFar t) := fun k => h k.1
    exact ⟨0, 0, 0, false, fun w => iRayAt_no _ _ _ _ _ _ _ w hn, fun w => sRayAt_no _ _ _ _ _ _ _ w hn, fun w => irayOk_no _ _ _ _ _ _ w h, fun w => srayOk_no _ _ _ _ _ _ w h, .inl ⟨rfl, rfl, rfl, rfl⟩⟩
end Go.Proofs.Ytlppeodjekpijaa
