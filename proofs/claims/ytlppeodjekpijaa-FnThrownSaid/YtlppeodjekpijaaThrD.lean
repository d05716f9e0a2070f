
import Derived.Test.YtlppeodjekpijaaThrK
namespace Go.Proofs.Ytlppeodjekpijaa
open Go.ChangeShapes Go.WideShapes Go.ChangeAt Go.RowKit

theorem in_five {a : Int} (h1 : -2 ≤ a) (h2 : a ≤ 2) : a ∈ five := by
  obtain rfl | rfl | rfl | rfl | rfl : a = -2 ∨ a = -1 ∨ a = 0 ∨ a = 1 ∨ a = 2 := by omega
  all_goals simp [five]
theorem chk_at {a b c x y z : Int} (h : Vok a b c 2) (k : Vok x y z 2) : chk a b c x y z = true := by
  obtain ⟨a1, a2, a3, a4, a5, a6⟩ := h
  obtain ⟨k1, k2, k3, k4, k5, k6⟩ := k
  have e1 := List.all_eq_true.1 chk_all a (in_five a1 a2)
  have e2 := List.all_eq_true.1 e1 b (in_five a3 a4)
  have e3 := List.all_eq_true.1 e2 c (in_five a5 a6)
  have e4 := List.all_eq_true.1 e3 x (in_five k1 k2)
  have e5 := List.all_eq_true.1 e4 y (in_five k3 k4)
  exact List.all_eq_true.1 e5 z (in_five k5 k6)
theorem sh_at {a b c p q r : Int} (h : (sh p q r p == sh a b c a && (sh p q r q == sh a b c b && sh p q r r == sh a b c c)) = true) :
    sh p q r p = sh a b c a ∧ sh p q r q = sh a b c b ∧ sh p q r r = sh a b c c := by
  simpa only [Bool.and_eq_true, beq_iff_eq] using h
theorem chk2_at {a b c x y z X Y Z p q r : Int} (h : chk2 a b c x y z X Y Z p q r = true) (hz : ¬ (X = 0 ∧ Y = 0 ∧ Z = 0)) :
    (sh p q r p = sh a b c a ∧ sh p q r q = sh a b c b ∧ sh p q r r = sh a b c c) ∧ dot3 X Y Z x y z * dot3 a b c x y z ≤ 0 := by
  unfold chk2 at h
  rw [Bool.or_eq_true] at h
  rcases h with h | h
  · rw [Bool.and_eq_true, Bool.and_eq_true, beq_iff_eq, beq_iff_eq, beq_iff_eq] at h
    exact absurd ⟨h.1.1, h.1.2, h.2⟩ hz
  · rw [Bool.and_eq_true, Bool.and_eq_true] at h
    exact ⟨sh_at h.1.2, of_decide_eq_true h.2⟩
theorem vokSum {p q r s t u : Int} (h : Vok p q r 24000000) (k : Vok s t u 48000000) : Vok (p + s) (q + t) (r + u) 1073741824 := by unfold Vok at *; omega
theorem wFnThrown {A : Option Addr} {n c : Nat} {w : World} (hnc : n ≤ c) (hcap : c ≤ 9223372036854775807) (hcode : Code w w.heap.size A n) :
    Calls Try.prog 6 #[.slice A n c] w fun e w' => e = .returned (.bool true) ∧ Below w.heap.size w w' := by
  refine lawThrown hnc hcap hcode fun a b c3 x y z => ?_
  by_cases h : Dir a b c3 ∧ Dir x y z
  · obtain ⟨h, k⟩ := h
    obtain ⟨p, q, r, s, t, u, D, E, hb⟩ := thrB a b c3 x y z h.1 k.1
    obtain ⟨D', E', F', P', R', V', hs⟩ := slopeB a b c3 x y z h k
    refine ⟨_, _, _, _, fun w => iThrown_yes a b c3 x y z p q r s t u D E _ _ _ w h k hb rfl rfl rfl, fun w => sThrown_yes a b c3 x y z p q r s t u D E _ _ _ w h k hb rfl rfl rfl,
      fun w => iSlope_yes a b c3 x y z D' E' F' P' R' V' w h k hs, fun w => sSlope_yes a b c3 x y z D' E' F' P' R' V' w h k hs, sh_vok _ _ _, fun hv hu hz => ?_⟩
    have hc := chk_at hv hu
    obtain ⟨-, -, -, ⟨hD, hE⟩, ⟨rfl, rfl, rfl⟩, rfl, rfl, rfl⟩ := hb
    unfold chk chk0 chk1 at hc
    rw [hD, hE] at hc
    generalize hX : sh (a * D + x * (-2 * E)) (b * D + y * (-2 * E)) (c3 * D + z * (-2 * E)) (a * D + x * (-2 * E)) = X at *
    generalize hY : sh (a * D + x * (-2 * E)) (b * D + y * (-2 * E)) (c3 * D + z * (-2 * E)) (b * D + y * (-2 * E)) = Y at *
    generalize hZ : sh (a * D + x * (-2 * E)) (b * D + y * (-2 * E)) (c3 * D + z * (-2 * E)) (c3 * D + z * (-2 * E)) = Z at *
    have hV : Vok X Y Z 200 := by rw [← hX, ← hY, ← hZ]; exact sh_vok _ _ _
    obtain ⟨⟨e1, e2, e3⟩, hle⟩ := chk2_at hc hz
    have hd : Dir X Y Z := ⟨hV, by omega⟩
    obtain ⟨p', q', r', s', t', u', D2, E2, hb2⟩ := thrB X Y Z x y z hV k.1
    have hb2' := hb2
    obtain ⟨-, -, -, ⟨hD2, hE2⟩, ⟨f1, f2, f3⟩, f4, f5, f6⟩ := hb2
    have hDD : D2 = D := by rw [← hD2, hD]
    rw [hE2, ← hDD, f1, f2, f3, f4, f5, f6] at e1 e2 e3
    have b1 := dot3b X Y Z x y z 200 hV k.1
    have b2 := dot3b a b c3 x y z 200 h.1 k.1
    have b3 := mulc (dot3 X Y Z x y z) (dot3 a b c3 x y z) 120000 120000 (by omega) (by omega) (by omega) (by omega)
    exact ⟨_, _, _, _, _, _, fun w => iThrown_yes X Y Z x y z p' q' r' s' t' u' D2 E2 _ _ _ w hd k hb2' e1 e2 e3, fun w => iShort_yes a b c3 w (by unfold Vok at *; omega), fun w => iDotV X Y Z x y z _ w hV k.1 rfl, fun w => iDotV a b c3 x y z _ w h.1 k.1 rfl, rfl, by omega, hle⟩
  · exact ⟨0, 0, 0, 0, fun w => iThrown_no _ _ _ _ _ _ w h, fun w => sThrown_no _ _ _ _ _ _ w h, fun w => iSlope_no _ _ _ _ _ _ w h, fun w => sSlope_no _ _ _ _ _ _ w h, by unfold Vok; omega, fun _ _ hz => absurd ⟨rfl, rfl, rfl⟩ hz⟩
end Go.Proofs.Ytlppeodjekpijaa
