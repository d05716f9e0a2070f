
import Derived.Test.YtckenfomnenknaaVec7
namespace Go.Proofs.Ytckenfomnenknaa
open Go.ChangeShapes Go.WideShapes Go.ChangeAt Go.RowKit

attribute [local go_sem] VGo_value VGo_skip VGo_enter
theorem nz3 (a b c : Int) (h : a ≠ 0 ∨ b ≠ 0 ∨ c ≠ 0) : a ≠ 0 ∨ (a = 0 ∧ b ≠ 0) ∨ (a = 0 ∧ b = 0 ∧ c ≠ 0) := by omega
/- how much two directions agree -/
theorem iRootV (n v : Int) (w : World) (h0 : 0 ≤ n) (h1 : n ≤ 4611686018427387904) (hv : (rt n.toNat : Int) = v) :
    Calls Try.prog 69 #[.int .i64 n] w fun e w' => e = .returned (.int .i64 v) ∧ w = w' := by rw [← hv]; exact iRootL n w h0 h1
theorem iFloorV (a b v : Int) (w : World) (h : Small a b) (hv : a.fdiv b = v) :
    Calls Try.prog 60 #[.int .i64 a, .int .i64 b] w fun e w' => e = .returned (.int .i64 v) ∧ w = w' := by rw [← hv]; exact floor_yes a b w h
theorem sFloorV (a b v : Int) (w : World) (h : Small a b) (hv : a.fdiv b = v) :
    Calls Try.prog 139 #[.int .i64 a, .int .i64 b] w fun e w' => e = .returned (.int .i64 v) ∧ w = w' := by rw [← hv]; exact l1Floor_yes a b w h
def SlopeB (a b c x y z D E F P R V : Int) : Prop :=
  (1 ≤ D ∧ D ≤ 120000 ∧ -120000 ≤ E ∧ E ≤ 120000 ∧ 1 ≤ F ∧ F ≤ 120000 ∧ 1 ≤ P ∧ P ≤ 14400000000 ∧ 1 ≤ R ∧ R ≤ 1000000) ∧
  dot3 a b c x y z = E ∧ dot3 a b c a b c = D ∧ dot3 x y z x y z = F ∧ D * F = P ∧ (rt P.toNat : Int) = R ∧ (E * 4096).fdiv R = V
theorem dot_pos (a b c : Int) (h : a ≠ 0 ∨ b ≠ 0 ∨ c ≠ 0) : 1 ≤ dot3 a b c a b c := by
  have sq : ∀ x : Int, 0 ≤ x * x := fun x => by by_cases hx : 0 ≤ x; exact Int.mul_nonneg hx hx; exact Int.mul_nonneg_of_nonpos_of_nonpos (by omega) (by omega)
  have sp : ∀ x : Int, x ≠ 0 → 0 < x * x := fun x hx => by
    have h1 := sq x
    have h2 : x * x ≠ 0 := fun e => by rcases Int.mul_eq_zero.1 e with e | e <;> exact hx e
    omega
  have s1 := sq a
  have s2 := sq b
  have s3 := sq c
  unfold dot3
  rcases h with h | h | h
  · have := sp a h; omega
  · have := sp b h; omega
  · have := sp c h; omega
theorem slopeB (a b c x y z : Int) (h : Dir a b c) (k : Dir x y z) : ∃ D E F P R V, SlopeB a b c x y z D E F P R V := by
  have h1 := dot3b a b c a b c 200 h.1 h.1
  have h2 := dot3b a b c x y z 200 h.1 k.1
  have h3 := dot3b x y z x y z 200 k.1 k.1
  have p1 := dot_pos a b c h.2
  have p3 := dot_pos x y z k.2
  obtain ⟨D, hD⟩ : ∃ D, dot3 a b c a b c = D := ⟨_, rfl⟩
  obtain ⟨E, hE⟩ : ∃ E, dot3 a b c x y z = E := ⟨_, rfl⟩
  obtain ⟨F, hF⟩ : ∃ F, dot3 x y z x y z = F := ⟨_, rfl⟩
  rw [hD] at h1 p1
  rw [hE] at h2
  rw [hF] at h3 p3
  have m1 := mulc D F 120000 120000 (by omega) (by omega) (by omega) (by omega)
  have m2 := Int.mul_pos (show 0 < D by omega) (show 0 < F by omega)
  obtain ⟨P, hP⟩ : ∃ P, D * F = P := ⟨_, rfl⟩
  rw [hP] at m1 m2
  obtain ⟨R, hR⟩ : ∃ R, (rt P.toNat : Int) = R := ⟨_, rfl⟩
  have r1 : 1 ≤ rt P.toNat := le_rt _ _ (by omega)
  have r2 : rt P.toNat < 1000000 := rt_lt _ _ (by omega)
  exact ⟨D, E, F, P, R, (E * 4096).fdiv R, ⟨by omega, by omega, by omega, by omega, by omega, by omega, by omega, by omega, by omega, by omega⟩, hE, hD, hF, hP, hR, rfl⟩
end Go.Proofs.Ytckenfomnenknaa
