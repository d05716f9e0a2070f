import Derived.Test.YtpagepicgmaioaaDraw1
import Derived.Test.YtpagepicgmaioaaLaw1
import Derived.Test.YtpagepicgmaioaaLaw2
namespace Go.Proofs.Ytpagepicgmaioaa
open Go.ChangeShapes Go.WideShapes Go.ChangeAt Go.RowKit

theorem retb6 {p : Bool} (h : p = true) : Ending.returned (.bool p) = .returned (.bool true) := by rw [h]
/- both divided by their greatest common divisor -/
theorem gcd_facts (a b : Int) (hs : Whole2 a b) (G : Nat) (hG : G = Int.gcd a b) (h0 : G ≠ 0) :
    a.tmod (G : Int) = 0 ∧ b.tmod (G : Int) = 0 ∧ Int.gcd (a.tdiv (G : Int)) (b.tdiv (G : Int)) = 1 ∧ -4611686018427387904 ≤ a.tdiv (G : Int) ∧ a.tdiv (G : Int) ≤ 4611686018427387904 ∧ -4611686018427387904 ≤ b.tdiv (G : Int) ∧ b.tdiv (G : Int) ≤ 4611686018427387904 := by
  obtain ⟨h1, h2, h3, h4⟩ := hs
  have da : (G : Int) ∣ a := by rw [hG]; exact Int.gcd_dvd_left ..
  have db : (G : Int) ∣ b := by rw [hG]; exact Int.gcd_dvd_right ..
  have n1 := Int.natAbs_tdiv_le_natAbs a G
  have n2 := Int.natAbs_tdiv_le_natAbs b G
  refine ⟨Int.tmod_eq_zero_of_dvd da, Int.tmod_eq_zero_of_dvd db, ?_, by omega, by omega, by omega, by omega⟩
  rw [Int.tdiv_eq_ediv_of_dvd da, Int.tdiv_eq_ediv_of_dvd db, hG]
  exact Int.gcd_ediv_gcd_ediv_gcd (by rw [← hG]; omega)
section
variable {A : Option Addr} {n c : Nat} {w : World} (hnc : n ≤ c) (hcap : c ≤ 9223372036854775807) (hcode : Code w w.heap.size A n)
include hnc hcap hcode
set_option maxHeartbeats 2000000 in
theorem wFnCommon : Calls Try.prog 7 #[.slice A n c] w fun e w' => e = .returned (.bool true) ∧ Below w.heap.size w w' := by
  by_cases hn : 1048576 < n
  · go_enter Try.func7, Try.ntmps7
    go_wp2
    go_ret
    exact ⟨rfl, Below.refl _ _⟩
  · go_enter Try.func7, Try.ntmps7
    go_wp2_with fail
    refine (drawCommon_any hnc hcap hcode).mono ?_
    rintro e w1 ⟨a, b, rfl, ha, hb, hlow⟩
    have HL := Lib.hid hlow
    clear hlow hcode
    unfold In64 at ha hb
    by_cases hs : Whole2 a b
    · obtain ⟨G, hG⟩ : ∃ G, G = Int.gcd a b := ⟨_, rfl⟩
      have hcm : Int.gcd b a = Int.gcd a b := Int.gcd_comm ..
      have EG := Lib.hid (show (Int.gcd a b : Int) = (G : Int) by rw [hG])
      have EG2 := Lib.hid (show (Int.gcd b a : Int) = (G : Int) by rw [hG, hcm])
      have H := Lib.hid hs
      have H2 : Hid (Whole2 b a) := Lib.hid (by unfold Whole2 at hs ⊢; omega)
      by_cases h0 : G = 0
      · have hz := Int.gcd_eq_zero_iff.1 (hG.symm.trans h0)
        obtain ⟨rfl, rfl⟩ := hz
        subst h0
        clear hG hcm hs
        go_wp2_with (first | (go_at_call 40; refine (scommon_yes _ _ _ H.out).mono ?_; rintro e w' ⟨rfl, rfl⟩; rw [EG.out]) | (go_at_call 39; (refine (common_yes 0 0 _ H.out).mono ?_); rintro e w' ⟨rfl, n, rfl⟩; rw [EG.out]))
        go_ret
        exact ⟨rfl, below_drewN HL.out _⟩
      · obtain ⟨t1, t2, t3, t4, t5, t6, t7⟩ := gcd_facts a b hs G hG h0
        have z1 : (a.tmod (G : Int) == 0) = true := by simpa using t1
        have z2 : (b.tmod (G : Int) == 0) = true := by simpa using t2
        have zG : ((G : Int) == 0) = false := by simp; omega
        have hGn : (0 : Int) < (G : Int) := by omega
        have T1 := Lib.hid t1
        have T2 := Lib.hid t2
        have T3 := Lib.hid (show ((Int.gcd (a.tdiv (G : Int)) (b.tdiv (G : Int)) : Nat) : Int) = 1 by rw [t3]; rfl)
        have HD : Hid (Whole2 (a.tdiv (G : Int)) (b.tdiv (G : Int))) := Lib.hid (by unfold Whole2; omega)
        obtain ⟨h1, h2, h3, h4⟩ := hs
        clear hG hcm t1 t2 t3
        go_wp2_with (first | (go_at_call 40; refine (scommon_yes _ _ _ H.out).mono ?_; rintro e w' ⟨rfl, rfl⟩; rw [EG.out]) | (go_at_call 39; ((with_reducible refine (common_yes a b _ H.out).mono ?_)); rintro e w' ⟨rfl, n, rfl⟩; rw [EG.out]) | (go_at_call 39; ((with_reducible refine (common_yes b a _ H2.out).mono ?_)); rintro e w' ⟨rfl, n, rfl⟩; rw [EG2.out]))
        generalize hwz : w1.drewN _ = wz
        have HL2 : Hid (Below w.heap.size w wz) := Lib.hid (hwz ▸ below_drewN HL.out _)
        clear hwz
        have y1 : IntKind.i64.wrap (a.tdiv (G : Int)) = a.tdiv (G : Int) := IntWalk.i64_in _ ⟨by omega, by omega⟩
        have y2 : IntKind.i64.wrap (b.tdiv (G : Int)) = b.tdiv (G : Int) := IntWalk.i64_in _ ⟨by omega, by omega⟩
        go_quiet ((go_at_call 39; refine (common_yes _ _ _ HD.out).mono ?_; rintro e w' ⟨rfl, m, rfl⟩; rw [T3.out]; exact ⟨rfl, _, World.drewN_drewN _ _ _⟩))
        go_wp2
        go_ret
        exact ⟨rfl, below_drewN HL2.out _⟩
    · have H := Lib.hid hs
      have H2 : Hid (¬ Whole2 b a) := Lib.hid (by unfold Whole2 at hs ⊢; omega)
      clear hs
      go_wp2_with (first | (go_at_call 40; refine (scommon_no _ _ _ H.out).mono ?_; rintro e w' ⟨rfl, rfl⟩) | (go_at_call 39; ((with_reducible refine (common_no a b _ H.out).mono ?_)); rintro e w' ⟨rfl, rfl⟩) | (go_at_call 39; ((with_reducible refine (common_no b a _ H2.out).mono ?_)); rintro e w' ⟨rfl, rfl⟩))
      all_goals first
        | (exfalso; refine H.out ?_; unfold Whole2; omega)
        | (go_ret; refine ⟨?_, HL.out⟩; first | rfl | (refine retb6 ?_; simp; done) | (refine retb6 ?_; have hh := H.out; unfold Whole2 at hh; simp; omega))
/- two lists that are equal -/
omit hnc hcap hcode in
theorem wlInts_yes (zs : List Int) (vA vB : Value) (BA BB : Nat) (w : World) (hl : zs.length ≤ 9223372036854775807) (hA : Row w BA vA zs) (hB : Row w BB vB zs) :
    Calls Try.prog 36 #[vA, vB] w fun e w' => e = .returned (.bool true) ∧ w = w' := by
  obtain ⟨A, c, rfl, fA⟩ := row_shape hA
  obtain ⟨B, d, rfl, fB⟩ := row_shape hB
  go_enter Try.func36, Try.ntmps36
  go_wp2
  go_loop [5, 6, 14] (fun _ _ i => ∃ k : Nat, k ≤ zs.length ∧ i = .int .i64 k) (fun _ _ i => zs.length - (intOf i).toNat)
  case atStart => exact ⟨0, by omega, rfl⟩
  case round =>
    obtain ⟨k, hk, rfl⟩ := hrel
    by_cases hc : k < zs.length
    · obtain ⟨gA, rfl⟩ := fA (by omega)
      obtain ⟨gB, rfl⟩ := fB (by omega)
      have hzk : zs[k]? = some zs[k] := List.getElem?_eq_getElem hc
      have c1 := row_cell hA rfl k _ hzk
      have c2 := row_cell hB rfl k _ hzk
      go_wp2
      go_round
      case rel => exact ⟨k + 1, by omega, by go_num⟩
      case measure => simp [intOf]; omega
    · obtain rfl : k = zs.length := by omega
      go_wp2
      go_ret
      exact ⟨rfl, rfl⟩
/- the law's own loop over the list: sums, and no part greater than the one ahead of it -/
omit hnc hcap hcode in
theorem sm_facts (N M : Nat) (hM : 1 ≤ M) : ∃ S : Nat → Nat, S 0 = 0 ∧ (∀ j, (S (j + 1) : Int) = S j + shr (N / M) (N % M) j) ∧ (∀ j, j ≤ M → S j ≤ N) ∧ S M = N := by
  have h1 := Nat.div_add_mod N M
  have h2 := Nat.mod_lt N (show M > 0 by omega)
  generalize N / M = q at *
  generalize N % M = s at *
  refine ⟨fun j => q * j + min j s, by simp, fun j => ?_, fun j hj => ?_, ?_⟩
  · unfold shr; simp only [Nat.mul_succ]; split <;> omega
  · have := Nat.mul_le_mul_left q hj
    rw [Nat.mul_comm] at h1
    show q * j + min j s ≤ N
    omega
  · show q * M + min M s = N
    rw [Nat.mul_comm] at h1
    omega
omit hnc hcap hcode in
theorem shares_get (N M k j : Nat) (h : j < k) : (shares N M k)[j]? = some (shr (N / M) (N % M) j) := by simp [shares, h]
omit hnc hcap hcode in
theorem shr_bd (N M j : Nat) (hN : N ≤ 1073741824) : 0 ≤ shr (N / M) (N % M) j ∧ shr (N / M) (N % M) j ≤ 1073741825 := by
  have := Nat.div_le_self N M
  generalize N / M = q at *
  unfold shr; split <;> omega
omit hnc hcap hcode in
theorem shr_mono (q s j : Nat) : shr q s (j + 1) ≤ shr q s j ∧ shr q s 0 - shr q s j ≤ 1 := by
  unfold shr
  by_cases h1 : j + 1 < s <;> by_cases h2 : j < s <;> by_cases h3 : 0 < s <;> simp [h1, h2, h3] <;> omega
set_option maxHeartbeats 2000000 in
theorem wFnShares : Calls Try.prog 6 #[.slice A n c] w fun e w' => e = .returned (.bool true) ∧ Below w.heap.size w w' := by
  by_cases hn : 1048576 < n
  · go_enter Try.func6, Try.ntmps6
    go_wp2
    go_ret
    exact ⟨rfl, Below.refl _ _⟩
  go_enter Try.func6, Try.ntmps6
  go_wp2_with fail
  refine (drawShares_any hnc hcap hcode).mono ?_
  rintro e w1 ⟨a, b, rfl, ha, hb, hlow⟩
  clear hcode
  unfold In64 at ha hb
  by_cases hs : ¬ InShares a b
  · go_wp2_with fail
    refine (ishares_no a b _ hs).mono ?_
    rintro e w2 ⟨v2, rfl, r2, b2⟩
    go_wp2_with fail
    refine (sshares_no a b _ hs).mono ?_
    rintro e w3 ⟨v3, rfl, r3, b3⟩
    have r2' := row_below r2 b3
    go_wp2_with fail
    refine (wlInts_yes [] _ _ _ _ _ (by simp) r2' r3).mono ?_
    rintro e w4 ⟨rfl, rfl⟩
    have hL := Lib.hid (hlow.trans ((b2.trans (b3.mono b2.size)).mono hlow.size))
    obtain ⟨A2, c2, rfl, f2⟩ := row_shape r2'
    simp only [List.length_nil]
    go_wp2
    refine wp_loop_rounds 1 ?_
    rw [rounds_succ]
    go_wp2
    go_ret
    exact ⟨rfl, hL.out⟩
  have hs0 := Classical.not_not.1 hs
  obtain ⟨N, rfl⟩ := Int.eq_ofNat_of_zero_le hs0.1
  obtain ⟨M, rfl⟩ := Int.eq_ofNat_of_zero_le (show 0 ≤ b by have := hs0.2.2.1; omega)
  replace hs := hs0
  clear hs0
  go_wp2_with fail
  refine (ishares_yes N M _ hs).mono ?_
  rintro e w2 ⟨v2, rfl, r2, b2⟩
  go_wp2_with fail
  refine (sshares_yes N M _ hs).mono ?_
  rintro e w3 ⟨v3, rfl, r3, b3⟩
  have r2' := row_below r2 b3
  go_wp2_with fail
  have hl : (shares N M M).length = M := shares_len N M M
  have hs2 := hs
  obtain ⟨h1, h2, h3, h4⟩ := hs2
  refine (wlInts_yes (shares N M M) _ _ _ _ _ (by omega) r2' r3).mono ?_
  rintro e w4 ⟨rfl, rfl⟩
  have hL := Lib.hid (hlow.trans ((b2.trans (b3.mono b2.size)).mono hlow.size))
  obtain ⟨A2, c2, rfl, f2⟩ := row_shape r2'
  obtain ⟨g, rfl⟩ := f2 (by omega)
  rw [hl] at r2' ⊢
  have hlen : M = (shares N M M).length := hl.symm
  obtain ⟨S, hS0, hS1, hS2, hS3⟩ := sm_facts N M (by omega)
  have HS := Lib.hid (And.intro hS0 (And.intro hS1 hS3))
  have Hlen := Lib.hid hlen
  have hgt : ∀ j, j < M → w3.cell? ⟨g, j, none⟩ = some (.int .i64 (shr (N / M) (N % M) j)) := fun j hj => row_cell r2' hlen j _ (shares_get N M M j hj)
  have Hgt := Lib.hid hgt
  have HS2 := Lib.hid hS2
  clear hS0 hS1 hS3 hlen hl hgt hS2
  go_wp2
  go_loop [6, 7, 8, 28] (fun al _ _ i => ∃ j : Nat, j ≤ M ∧ i = .int .i64 j ∧ al = .int .i64 (S j)) (fun _ _ _ i => M - (intOf i).toNat)
  case atStart => exact ⟨0, by omega, rfl, by rw [HS.out.1]; rfl⟩
  case round =>
    obtain ⟨j, hj, rfl, rfl⟩ := hrel
    by_cases hc : j < M
    · have c1 := Hgt.out j hc
      have c0 := Hgt.out 0 (by omega)
      have ⟨b1, b2⟩ := shr_bd N M j (by omega)
      have ⟨b3, b4⟩ := shr_bd N M 0 (by omega)
      have hs5 := HS2.out j hj
      have Hn := Lib.hid (HS.out.2.1 j).symm
      have hm := (shr_mono (N / M) (N % M) j).2
      cases j with
      | zero =>
        go_wp2
        rw [Hn.out]
        go_round
        case rel => exact ⟨1, by omega, by go_num, rfl⟩
        case measure => simp [intOf]; omega
      | succ i =>
        have c2 := Hgt.out i (by omega)
        have hm2 := (shr_mono (N / M) (N % M) i).1
        go_wp2
        rw [show ((S (i + 1) : Int)) + shr (N / M) (N % M) (i + 1) = S (i + 1 + 1) from Hn.out]
        go_round
        case rel => exact ⟨i + 1 + 1, by omega, by go_num, rfl⟩
        case measure => simp [intOf]; omega
    · obtain rfl : j = M := by omega
      rw [HS.out.2.2]
      have hz : ((j : Int) == 0) = false := by simp; omega
      go_wp2
      go_ret
      exact ⟨rfl, hL.out⟩
end
end Go.Proofs.Ytpagepicgmaioaa
