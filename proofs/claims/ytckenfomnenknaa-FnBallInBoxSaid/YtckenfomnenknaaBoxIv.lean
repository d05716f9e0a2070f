import Derived.Test.YtckenfomnenknaaBoxMv
namespace Go.Proofs.Ytckenfomnenknaa
open Go.ChangeShapes Go.WideShapes Go.ChangeAt Go.RowKit
set_option linter.unusedSimpArgs false
set_option linter.unusedVariables false
set_option maxHeartbeats 4000000

/- where a ray is in a ball it is in the ball's box: u v t lead from the middle to the ray's place, x y z is its direction -/
theorem sq_abs {a b : Int} (h : a * a ≤ b * b) (hb : 0 ≤ b) : -b ≤ a ∧ a ≤ b := by
  constructor
  · false_or_by_contra
    have h3 : 0 < (-a - b) * (-a + b) := Int.mul_pos (by omega) (by omega)
    have h4 : (-a - b) * (-a + b) = a * a - b * b := by grind
    omega
  · false_or_by_contra
    have h3 : 0 < (a - b) * (a + b) := Int.mul_pos (by omega) (by omega)
    have h4 : (a - b) * (a + b) = a * a - b * b := by grind
    omega
theorem sqi_mono {a b : Int} (h0 : 0 ≤ b) (h : b ≤ a) : b * b ≤ a * a := Int.mul_le_mul h h h0 (by omega)
structure BalP (x y z u v t d D E G U : Int) : Prop where
  hD : x * x + y * y + z * z = D
  hE : x * u + y * v + z * t = E
  hG : u * u + v * v + t * t = G
  hU : E * E - D * (G - d * d) = U
  d0 : 0 ≤ d
  D1 : 1 ≤ D
  U0 : 0 ≤ U
/- at the place nearest to the middle each part is within the ball -/
theorem BalP.near {x y z u v t d D E G U : Int} (h : BalP x y z u v t d D E G U) : -(d * D) ≤ u * D - E * x ∧ u * D - E * x ≤ d * D := by
  obtain ⟨hD, hE, hG, hU, d0, D1, U0⟩ := h
  have h1 : (u * D - E * x) * (u * D - E * x) + (v * D - E * y) * (v * D - E * y) + (t * D - E * z) * (t * D - E * z) = D * (D * G - E * E) := by
    subst hD hE hG; grind
  have h2 : D * (D * G - E * E) = (d * D) * (d * D) - D * U := by subst hU; grind
  have h3 := sqn (v * D - E * y)
  have h4 := sqn (t * D - E * z)
  have h5 : 0 ≤ D * U := Int.mul_nonneg (by omega) U0
  exact sq_abs (by omega) (Int.mul_nonneg d0 (by omega))
theorem BalP.key {x y z u v t d D E G U : Int} (h : BalP x y z u v t d D E G U) (n : Int) :
    (D * n + 4096 * E) * (D * n + 4096 * E) - U * 4096 * 4096 = D * ((4096 * u + n * x) * (4096 * u + n * x) + (4096 * v + n * y) * (4096 * v + n * y) + (4096 * t + n * z) * (4096 * t + n * z) - (4096 * d) * (4096 * d)) := by
  obtain ⟨hD, hE, hG, hU, d0, D1, U0⟩ := h
  subst hU
  subst hD hE hG
  grind
/- behind the face by which it comes in -/
theorem BalP.come {x y z u v t d D E G U : Int} (h : BalP x y z u v t d D E G U) (hx : 0 < x) {n : Int} (hn : n * x ≤ -(d + u) * 4096) :
    D * n + 4096 * E ≤ 0 ∧ U * 4096 * 4096 ≤ (D * n + 4096 * E) * (D * n + 4096 * E) := by
  have hv := h.near
  have hk := h.key n
  obtain ⟨hD, hE, hG, hU, d0, D1, U0⟩ := h
  constructor
  · false_or_by_contra
    have h1 : 0 < x * (D * n + 4096 * E) := Int.mul_pos hx (by omega)
    have h2 : x * (D * n + 4096 * E) = D * (n * x) + 4096 * (E * x) := by grind
    have h3 : D * (n * x) ≤ D * (-(d + u) * 4096) := Int.mul_le_mul_of_nonneg_left hn (by omega)
    have h4 : D * (-(d + u) * 4096) = -4096 * (d * D) - 4096 * (u * D) := by grind
    omega
  · have h1 := sqi_mono (a := -(4096 * u + n * x)) (b := 4096 * d) (by omega) (by omega)
    have h2 : -(4096 * u + n * x) * -(4096 * u + n * x) = (4096 * u + n * x) * (4096 * u + n * x) := by grind
    have h3 := sqn (4096 * v + n * y)
    have h4 := sqn (4096 * t + n * z)
    have h5 : 0 ≤ D * ((4096 * u + n * x) * (4096 * u + n * x) + (4096 * v + n * y) * (4096 * v + n * y) + (4096 * t + n * z) * (4096 * t + n * z) - (4096 * d) * (4096 * d)) := Int.mul_nonneg (by omega) (by omega)
    omega
theorem BalP.go {x y z u v t d D E G U R : Int} (h : BalP x y z u v t d D E G U) (hx : 0 < x) (r1 : R * R ≤ U * 4096 * 4096) (r0 : 0 ≤ R) {n : Int} (hn : D * n + 4096 * E ≤ R) : n * x ≤ (d - u) * 4096 := by
  have hv := h.near
  have hk := h.key n
  obtain ⟨hD, hE, hG, hU, d0, D1, U0⟩ := h
  false_or_by_contra
  rename_i hc
  by_cases hs : 0 ≤ D * n + 4096 * E
  · have h0 := sqi_mono (a := R) (b := D * n + 4096 * E) hs hn
    have h1 := sqi_mono (a := 4096 * u + n * x) (b := 4096 * d + 1) (by omega) (by omega)
    have h2 : (4096 * d + 1) * (4096 * d + 1) = (4096 * d) * (4096 * d) + 8192 * d + 1 := by grind
    have h3 := sqn (4096 * v + n * y)
    have h4 := sqn (4096 * t + n * z)
    have h5 : 0 < D * ((4096 * u + n * x) * (4096 * u + n * x) + (4096 * v + n * y) * (4096 * v + n * y) + (4096 * t + n * z) * (4096 * t + n * z) - (4096 * d) * (4096 * d)) := Int.mul_pos (by omega) (by omega)
    omega
  · have h1 : 0 < x * -(D * n + 4096 * E) := Int.mul_pos hx (by omega)
    have h2 : x * -(D * n + 4096 * E) = -(D * (n * x)) - 4096 * (E * x) := by grind
    have h3 : D * ((d - u) * 4096) ≤ D * (n * x) := Int.mul_le_mul_of_nonneg_left (by omega) (by omega)
    have h4 : D * ((d - u) * 4096) = 4096 * (d * D) - 4096 * (u * D) := by grind
    omega
/- quotients -/
theorem fdiv_le {k n x : Int} (hx : 0 < x) : n ≤ k.fdiv x ↔ n * x ≤ k := by
  rw [Int.fdiv_eq_ediv_of_nonneg k (by omega)]; exact Int.le_ediv_iff_mul_le hx
theorem fdiv_neg' (k x : Int) : k.fdiv x = (-k).fdiv (-x) := (Int.neg_fdiv_neg k x).symm
/- one axis -/
theorem BalP.neg {x y z u v t d D E G U : Int} (h : BalP x y z u v t d D E G U) : BalP (-x) y z (-u) v t d D E G U := by
  obtain ⟨hD, hE, hG, hU, d0, D1, U0⟩ := h
  exact ⟨by rw [← hD]; grind, by rw [← hE]; grind, by rw [← hG]; grind, hU, d0, D1, U0⟩
theorem BalP.inX {x y z u v t d D E G U R R1 X Y X1 Y1 : Int} (h : BalP x y z u v t d D E G U) (hx : 0 < x) (r1 : R * R ≤ U * 4096 * 4096) (r2 : U * 4096 * 4096 < (R + 1) * (R + 1)) (r0 : 0 ≤ R)
    (hR1 : (R1 = R + 1 ∧ R * R < U * 4096 * 4096) ∨ (R1 = R ∧ U * 4096 * 4096 ≤ R * R)) (hX : (-4096 * E - R1).fdiv D = X) (hY : (R - 4096 * E).fdiv D = Y)
    (h1 : (-(d + u) * 4096).fdiv x = X1) (h2 : ((d - u) * 4096).fdiv x = Y1) : X1 ≤ X ∧ Y ≤ Y1 := by
  have D1 := h.D1
  constructor
  · have hn : X1 * x ≤ -(d + u) * 4096 := (fdiv_le hx).1 (by omega)
    obtain ⟨k1, k2⟩ := h.come hx hn
    have hk : R1 ≤ -(D * X1 + 4096 * E) := by
      rcases hR1 with ⟨rfl, hlt⟩ | ⟨rfl, hle⟩
      · false_or_by_contra
        have := sqi_mono (a := R) (b := -(D * X1 + 4096 * E)) (by omega) (by omega)
        have e : -(D * X1 + 4096 * E) * -(D * X1 + 4096 * E) = (D * X1 + 4096 * E) * (D * X1 + 4096 * E) := by grind
        omega
      · false_or_by_contra
        have := sqi_mono (a := R1) (b := -(D * X1 + 4096 * E) + 1) (by omega) (by omega)
        have e : (-(D * X1 + 4096 * E) + 1) * (-(D * X1 + 4096 * E) + 1) = (D * X1 + 4096 * E) * (D * X1 + 4096 * E) - 2 * (D * X1 + 4096 * E) + 1 := by grind
        omega
    rw [← hX, fdiv_le (by omega)]
    have e := Int.mul_comm X1 D
    omega
  · rw [← h2, fdiv_le hx]
    refine h.go hx r1 r0 ?_
    have hy : Y * D ≤ R - 4096 * E := (fdiv_le (by omega)).1 (by omega)
    have e := Int.mul_comm Y D
    omega
theorem BalP.slab {x y z u v t d D E G U R R1 X Y X1 Y1 a p : Int} (h : BalP x y z u v t d D E G U) (hu : p - a = u) (r1 : R * R ≤ U * 4096 * 4096) (r2 : U * 4096 * 4096 < (R + 1) * (R + 1)) (r0 : 0 ≤ R)
    (hR1 : (R1 = R + 1 ∧ R * R < U * 4096 * 4096) ∨ (R1 = R ∧ U * 4096 * 4096 ≤ R * R)) (hX : (-4096 * E - R1).fdiv D = X) (hY : (R - 4096 * E).fdiv D = Y)
    (hs : SlE (a - d) (a + d) p x X1 Y1) : (x = 0 ∧ X1 = -1073741824 ∧ Y1 = 1073741824) ∨ (x ≠ 0 ∧ X1 ≤ X ∧ Y ≤ Y1) := by
  rcases hs with ⟨c1, h1, h2⟩ | ⟨c1, h1, h2⟩ | ⟨rfl, c1, c2, rfl, rfl⟩ | ⟨rfl, c1, rfl, rfl⟩
  · refine .inr ⟨by omega, h.inX c1 r1 r2 r0 hR1 hX hY ?_ ?_⟩
    · rw [← h1]; congr 1; omega
    · rw [← h2]; congr 1; omega
  · refine .inr ⟨by omega, h.neg.inX (by omega) r1 r2 r0 hR1 hX hY ?_ ?_⟩
    · rw [← h1, fdiv_neg' _ x]; congr 1; omega
    · rw [← h2, fdiv_neg' _ x]; congr 1; omega
  · exact .inl ⟨rfl, rfl, rfl⟩
  · exfalso
    have hv := h.near
    have D1 := h.D1
    have e : E * 0 = 0 := Int.mul_zero E
    rcases c1 with c | c
    · have h1 : u * D ≤ (-d - 1) * D := Int.mul_le_mul_of_nonneg_right (by omega) (by omega)
      have h2 : (-d - 1) * D = -(d * D) - D := by grind
      omega
    · have h1 : (d + 1) * D ≤ u * D := Int.mul_le_mul_of_nonneg_right (by omega) (by omega)
      have h2 : (d + 1) * D = d * D + D := by grind
      omega
theorem BalP.rot {x y z u v t d D E G U : Int} (h : BalP x y z u v t d D E G U) : BalP y z x v t u d D E G U := by
  obtain ⟨hD, hE, hG, hU, d0, D1, U0⟩ := h
  exact ⟨by omega, by omega, by omega, hU, d0, D1, U0⟩
theorem slab_small {l h f t X Y : Int} (hl : -800 ≤ l ∧ l ≤ 800) (hh : -800 ≤ h ∧ h ≤ 800) (hf : -800 ≤ f ∧ f ≤ 800) (e : SlE l h f t X Y) : -1073741824 ≤ X ∧ X ≤ 1073741824 ∧ -1073741824 ≤ Y ∧ Y ≤ 1073741824 := by
  have dv : ∀ {k t : Int}, 0 < t → -6553600 ≤ k → k ≤ 6553600 → -6553600 ≤ k.fdiv t ∧ k.fdiv t ≤ 6553600 := fun {k t} ht h1 h2 => by
    constructor
    · rw [fdiv_le ht]
      have : 6553600 * 1 ≤ 6553600 * t := Int.mul_le_mul_of_nonneg_left (by omega) (by omega)
      omega
    · false_or_by_contra
      rename_i hc
      have h3 : (6553601 : Int) ≤ k.fdiv t := by omega
      rw [fdiv_le ht] at h3
      have : 6553601 * 1 ≤ 6553601 * t := Int.mul_le_mul_of_nonneg_left (by omega) (by omega)
      omega
  rcases e with ⟨c1, rfl, rfl⟩ | ⟨c1, rfl, rfl⟩ | ⟨rfl, c1, c2, rfl, rfl⟩ | ⟨rfl, c1, rfl, rfl⟩
  · have d1 := dv (k := (l - f) * 4096) c1 (by omega) (by omega)
    have d2 := dv (k := (h - f) * 4096) c1 (by omega) (by omega)
    omega
  · rw [fdiv_neg' _ t, fdiv_neg' ((l - f) * 4096) t]
    have d1 := dv (k := -((l - f) * 4096)) (t := -t) (by omega) (by omega) (by omega)
    have d2 := dv (k := -((h - f) * 4096)) (t := -t) (by omega) (by omega) (by omega)
    omega
  · omega
  · omega
/- all three -/
theorem ball_box {x y z u v t d D E G U R R1 X Y a b c p q r X1 Y1 X2 Y2 X3 Y3 G1 D1 G2 D2 G3 D3 BX BY : Int} (h : BalP x y z u v t d D E G U) (hu : p - a = u ∧ q - b = v ∧ r - c = t)
    (r1 : R * R ≤ U * 4096 * 4096) (r2 : U * 4096 * 4096 < (R + 1) * (R + 1)) (r0 : 0 ≤ R)
    (hR1 : (R1 = R + 1 ∧ R * R < U * 4096 * 4096) ∨ (R1 = R ∧ U * 4096 * 4096 ≤ R * R)) (hX : (-4096 * E - R1).fdiv D = X) (hY : (R - 4096 * E).fdiv D = Y)
    (va : -400 ≤ a ∧ a ≤ 400 ∧ -400 ≤ b ∧ b ≤ 400 ∧ -400 ≤ c ∧ c ≤ 400) (vd : 1 ≤ d ∧ d ≤ 200) (vp : -800 ≤ p ∧ p ≤ 800 ∧ -800 ≤ q ∧ q ≤ 800 ∧ -800 ≤ r ∧ r ≤ 800)
    (s1 : SlE (a - d) (a + d) p x X1 Y1) (s2 : SlE (b - d) (b + d) q y X2 Y2) (s3 : SlE (c - d) (c + d) r z X3 Y3) (hc : CtE X1 Y1 X2 Y2 X3 Y3 G1 D1 G2 D2 G3 D3) (hl : LfE G3 D3 BX BY) (hlt : X < Y) :
    BX < BY ∧ BX ≤ X ∧ Y ≤ BY := by
  have k1 := h.slab hu.1 r1 r2 r0 hR1 hX hY s1
  have k2 := h.rot.slab hu.2.1 r1 r2 r0 hR1 hX hY s2
  have k3 := h.rot.rot.slab hu.2.2 r1 r2 r0 hR1 hX hY s3
  have b1 := slab_small (by omega) (by omega) (by omega) s1
  have b2 := slab_small (by omega) (by omega) (by omega) s2
  have b3 := slab_small (by omega) (by omega) (by omega) s3
  have nz : x ≠ 0 ∨ y ≠ 0 ∨ z ≠ 0 := by
    false_or_by_contra
    rename_i hh
    have e1 : x = 0 := by omega
    have e2 : y = 0 := by omega
    have e3 : z = 0 := by omega
    have := h.hD
    have := h.D1
    subst e1 e2 e3
    omega
  unfold CtE at hc
  unfold LfE at hl
  omega
end Go.Proofs.Ytckenfomnenknaa
