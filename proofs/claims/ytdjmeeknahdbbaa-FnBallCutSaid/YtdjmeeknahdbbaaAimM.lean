
import Derived.Test.YtdjmeeknahdbbaaRayD
namespace Go.Proofs.Ytdjmeeknahdbbaa
open Go.ChangeShapes Go.WideShapes Go.ChangeAt Go.RowKit
set_option linter.unusedSimpArgs false
set_option linter.unusedVariables false
set_option maxHeartbeats 4000000

/- a ball against its cut, at k whole steps -/
theorem sq_le {M R V : Int} (h0 : 0 ≤ R) (h1 : R * R ≤ V) (h2 : V < (R + 1) * (R + 1)) : M * M ≤ V ↔ (-R ≤ M ∧ M ≤ R) := by
  constructor
  · intro h
    constructor
    · false_or_by_contra
      have h3 : 0 ≤ (-M - (R + 1)) * (-M + (R + 1)) := Int.mul_nonneg (by omega) (by omega)
      have h4 : (-M - (R + 1)) * (-M + (R + 1)) = M * M - (R + 1) * (R + 1) := by grind
      omega
    · false_or_by_contra
      have h3 : 0 ≤ (M - (R + 1)) * (M + (R + 1)) := Int.mul_nonneg (by omega) (by omega)
      have h4 : (M - (R + 1)) * (M + (R + 1)) = M * M - (R + 1) * (R + 1) := by grind
      omega
  · rintro ⟨h3, h4⟩
    have h5 : 0 ≤ (R - M) * (R + M) := Int.mul_nonneg (by omega) (by omega)
    have h6 : (R - M) * (R + M) = R * R - M * M := by grind
    omega
theorem ball_in {D E G s n k U : Int} (hD : 1 ≤ D) (hn : n = G + 2 * (k * E) + k * k * D) (hU : E * E - D * (G - s) = U) : n ≤ s ↔ (D * k + E) * (D * k + E) ≤ U := by
  have e : D * (s - n) = U - (D * k + E) * (D * k + E) := by subst hn; rw [← hU]; grind
  constructor
  · intro h
    have := Int.mul_nonneg (show 0 ≤ D by omega) (show 0 ≤ s - n by omega)
    omega
  · intro h
    false_or_by_contra
    have := Int.mul_pos (show 0 < D by omega) (show 0 < n - s by omega)
    have e2 : D * (n - s) = -(D * (s - n)) := by grind
    omega
theorem rtU {U R R1 Q : Int} (h0 : 0 ≤ U) (hr : RtE U R R1 Q) : R * R ≤ U * 4096 * 4096 ∧ U * 4096 * 4096 < (R + 1) * (R + 1) ∧ R ≤ R1 ∧ R1 ≤ R + 1 ∧ 0 ≤ R := by
  obtain ⟨h1, h2, h3, h4, h5, h6⟩ := hr
  have e : ((U * 4096 * 4096).toNat : Int) = U * 4096 * 4096 := by omega
  obtain ⟨s1, s2⟩ := rt_spec (U * 4096 * 4096).toNat
  have s1' := Int.ofNat_le.2 s1
  have s2' := Int.ofNat_lt.2 s2
  rw [e, Int.natCast_mul, h1] at s1'
  rw [e, Int.natCast_mul, Int.natCast_add, h1] at s2'
  exact ⟨s1', s2', by omega, by omega, by omega⟩
theorem ball_math {D E G s U n k R R1 Q X Y : Int} (hD : 1 ≤ D) (h0 : 0 ≤ U) (hr : RtE U R R1 Q) (hf : FlE D E R R1 X Y) (hn : n = G + 2 * (k * E) + k * k * D) (hU : E * E - D * (G - s) = U) :
    (n ≤ s ∧ X ≤ k * 4096 ∧ k * 4096 ≤ Y) ∨ (s < n ∧ ¬ (X < k * 4096 ∧ k * 4096 ≤ Y)) := by
  obtain ⟨r1, r2, r3, r4, r5⟩ := rtU h0 hr
  have hi := ball_in hD hn hU
  have hsq := sq_le (M := (D * k + E) * 4096) r5 r1 r2
  have e1 : (D * k + E) * 4096 * ((D * k + E) * 4096) = (D * k + E) * (D * k + E) * 4096 * 4096 := by grind
  rw [e1] at hsq
  have hV : n ≤ s ↔ (-R ≤ (D * k + E) * 4096 ∧ (D * k + E) * 4096 ≤ R) := by
    rw [hi, ← hsq]; omega
  obtain ⟨hX, hY, -, -⟩ := hf
  rw [Int.fdiv_eq_ediv_of_nonneg _ (by omega)] at hX hY
  have k1 := Int.le_ediv_iff_mul_le (a := k * 4096) (b := R - 4096 * E) (show 0 < D by omega)
  have k2 := Int.ediv_lt_iff_lt_mul (a := -4096 * E - R1) (b := k * 4096) (show 0 < D by omega)
  have k3 := Int.ediv_lt_iff_lt_mul (a := -4096 * E - R1) (b := k * 4096 + 1) (show 0 < D by omega)
  have e2 : k * 4096 * D = D * k * 4096 := by grind
  have e3 : (k * 4096 + 1) * D = D * k * 4096 + D := by grind
  rw [hY, e2] at k1
  rw [hX, e2] at k2
  rw [hX, e3] at k3
  clear hX hY e1 e2 e3 hsq hi r1 r2
  generalize D * k = m at *
  omega
theorem ends_le {D E R R1 X Y : Int} (hD : 1 ≤ D) (h0 : 0 ≤ R) (h1 : R ≤ R1) (hf : FlE D E R R1 X Y) : X ≤ Y := by
  obtain ⟨hX, hY, -, -⟩ := hf
  rw [Int.fdiv_eq_ediv_of_nonneg _ (by omega)] at hX hY
  rw [← hX, ← hY]
  exact Int.ediv_le_ediv (by omega) (by omega)
/- the place at k whole steps, and how far it is -/
theorem ball_far (a b c p q r x y z k u v t : Int) (e : AwE a b c p q r u v t) : dot3 (p + x * k - a) (q + y * k - b) (r + z * k - c) (p + x * k - a) (q + y * k - b) (r + z * k - c) = dot3 u v t u v t + 2 * (k * dot3 x y z u v t) + k * k * dot3 x y z x y z := by
  obtain ⟨rfl, rfl, rfl⟩ := e
  unfold dot3; grind
/- what both programs answer for a ball and a ray, and what that says of whole steps -/
theorem ballCuts {a b c d p q r x y z : Int} (h : Bok a b c d) (j : Rok p q r x y z) : ∃ X Y,
    (∀ w, Calls Try.prog 27 #[.agg #[.int .i64 (a), .int .i64 (b), .int .i64 (c), .int .i64 (d)], .agg #[.int .i64 (p), .int .i64 (q), .int .i64 (r), .int .i64 (x), .int .i64 (y), .int .i64 (z)]] w fun e w' => e = .returned (.tuple #[.int .i64 (X), .int .i64 (Y)]) ∧ Below w.heap.size w w') ∧ (∀ w, Calls Try.prog 28 #[.agg #[.int .i64 (a), .int .i64 (b), .int .i64 (c), .int .i64 (d)], .agg #[.int .i64 (p), .int .i64 (q), .int .i64 (r), .int .i64 (x), .int .i64 (y), .int .i64 (z)]] w fun e w' => e = .returned (.tuple #[.int .i64 (X), .int .i64 (Y)]) ∧ Below w.heap.size w w') ∧ X ≤ Y ∧
    ∀ k n s, dot3 (p + x * k - a) (q + y * k - b) (r + z * k - c) (p + x * k - a) (q + y * k - b) (r + z * k - c) = n → d * d = s → (n ≤ s ∧ X ≤ k * 4096 ∧ k * 4096 ≤ Y) ∨ (s < n ∧ ¬ (X < k * 4096 ∧ k * 4096 ≤ Y)) := by
  obtain ⟨u, v, t, D, E, G, s, P1, P2, U, hb⟩ := bcE h j
  have hb' := hb
  obtain ⟨e, ⟨hD, hE, hG⟩, ⟨hs, hP1, hP2, hU⟩, ⟨d1, d2⟩, -, -, -, -, -, u2⟩ := hb'
  have hn : ∀ k n, dot3 (p + x * k - a) (q + y * k - b) (r + z * k - c) (p + x * k - a) (q + y * k - b) (r + z * k - c) = n → n = G + 2 * (k * E) + k * k * D := fun k n hn => by
    rw [← hn, ball_far a b c p q r x y z k u v t e, hD, hE, hG]
  have hU2 : E * E - D * (G - s) = U := by omega
  by_cases h0 : 0 ≤ U
  · obtain ⟨R, R1, Q, hr⟩ := rtE h0 u2
    obtain ⟨X, Y, hf⟩ := flE D E R R1
    obtain ⟨r1, r2, r3, r4, r5⟩ := rtU h0 hr
    exact ⟨X, Y, fun w => iballCut_yes _ _ _ _ _ _ _ _ _ _ _ _ _ _ _ _ _ _ _ _ _ _ _ _ _ w h j hb h0 hr hf, fun w => sballCut_yes _ _ _ _ _ _ _ _ _ _ _ _ w h j fun w => l4Ball_yes _ _ _ _ _ _ _ _ _ _ _ _ _ _ _ _ _ _ _ _ _ _ _ _ _ w h j hb h0 hr hf, ends_le d1 r5 r3 hf,
      fun k n s' hk hs' => by rw [hs] at hs'; subst hs'; exact ball_math d1 h0 hr hf (hn k n hk) hU2⟩
  · refine ⟨0, 0, fun w => iballCut_neg _ _ _ _ _ _ _ _ _ _ _ _ _ _ _ _ _ _ _ _ w h j hb (by omega), fun w => sballCut_yes _ _ _ _ _ _ _ _ _ _ _ _ w h j fun w => l4Ball_neg _ _ _ _ _ _ _ _ _ _ _ _ _ _ _ _ _ _ _ _ w h j hb (by omega), by omega, fun k n s' hk hs' => .inr ⟨?_, by omega⟩⟩
    rw [hs] at hs'; subst hs'
    have := ball_in d1 (hn k n hk) hU2
    have := sqn (D * k + E)
    omega
end Go.Proofs.Ytdjmeeknahdbbaa
