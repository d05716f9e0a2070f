import Derived.Test.YtpagepicgmaioaaDraw1
import Derived.Test.YtpagepicgmaioaaLaw1
namespace Go.Proofs.Ytpagepicgmaioaa
open Go.ChangeShapes Go.WideShapes Go.ChangeAt Go.RowKit

theorem ret_bool {p : Bool} (h : p = true) : Ending.returned (.bool p) = .returned (.bool true) := by rw [h]
theorem floor_facts (a b : Int) (hs : Small a b) : ∃ q u r, q = a.fdiv b ∧ u = -((-a).fdiv b) ∧ r = a.fmod b ∧ q * b + r = a ∧ (0 < b ∧ 0 ≤ r ∧ r < b ∨ b < 0 ∧ r ≤ 0 ∧ b < r) ∧ (r = 0 ∧ u = q ∨ r ≠ 0 ∧ u = q + 1) ∧ -4611686018427387905 ≤ q ∧ q ≤ 4611686018427387904 := by
  have hd := fmod_bd a b hs.1
  have hq := fmod_eq a b
  have hb := fdiv_bd a b hs
  refine ⟨_, _, _, rfl, rfl, rfl, by rw [Int.mul_comm]; omega, by omega, ?_, hb.1, hb.2⟩
  by_cases hr : a.fmod b = 0
  · refine .inl ⟨hr, ?_⟩
    have h1 : (-a).fdiv b = -(a.fdiv b) := fdiv_of (-a) b _ 0 (by rw [Int.mul_neg]; omega) (by omega)
    omega
  · refine .inr ⟨hr, ?_⟩
    have h1 : (-a).fdiv b = -(a.fdiv b) - 1 := fdiv_of (-a) b _ (b - a.fmod b) (by rw [Int.mul_sub, Int.mul_neg]; omega) (by omega)
    omega
section
variable {A : Option Addr} {n c : Nat} {w : World} (hnc : n ≤ c) (hcap : c ≤ 9223372036854775807) (hcode : Code w w.heap.size A n)
include hnc hcap hcode
set_option maxHeartbeats 2000000 in
theorem wFnFloor : Calls Try.prog 3 #[.slice A n c] w fun e w' => e = .returned (.bool true) ∧ Below w.heap.size w w' := by
  by_cases hn : 1048576 < n
  · go_enter Try.func3, Try.ntmps3
    go_wp2
    go_ret
    exact ⟨rfl, Below.refl _ _⟩
  · go_enter Try.func3, Try.ntmps3
    go_wp2_with fail
    refine (drawFloor_any hnc hcap hcode).mono ?_
    rintro e w1 ⟨a, b, rfl, ha, hb, hlow⟩
    have HL := Lib.hid hlow
    clear hlow hcode
    unfold In64 at ha hb
    by_cases hs : Small a b
    · obtain ⟨q, u, r, e1, e2, e3, hqb, hsg, hur, hq1, hq2⟩ := floor_facts a b hs
      have H := Lib.hid hs
      have E1 := Lib.hid e1
      have E2 := Lib.hid e2
      have E3 := Lib.hid e3
      clear e1 e2 e3
      obtain ⟨hb0, ha1, ha2, hb1, hb2⟩ := hs
      have hm1 : -9223372036854775808 ≤ q * b := by omega
      have hm2 : q * b ≤ 9223372036854775807 := by omega
      have hz : (b == 0) = false := by simpa using hb0
      have heq : (q * b + r == a) = true := by simpa using hqb
      have hs1 : -9223372036854775808 ≤ q * b + r := by omega
      have hs2 : q * b + r ≤ 9223372036854775807 := by omega
      clear hqb
      rcases hur with ⟨hr0, rfl⟩ | ⟨hr0, rfl⟩
      · subst hr0
        have heq2 : (u * b == a) = true := by simpa using heq
        clear heq
        rcases hsg with ⟨g1, g2, g3⟩ | ⟨g1, g2, g3⟩
        all_goals
          go_wp2_with (first | (go_at_call 21; refine (sfloor_yes _ _ _ H.out).mono ?_; rintro e w' ⟨rfl, rfl⟩; rw [← E1.out]) | (go_at_call 18; refine (floor_yes _ _ _ H.out).mono ?_; rintro e w' ⟨rfl, rfl⟩; rw [← E1.out]) | (go_at_call 22; refine (sceil_yes _ _ _ H.out).mono ?_; rintro e w' ⟨rfl, rfl⟩; rw [← E2.out]) | (go_at_call 19; refine (ceil_yes _ _ _ H.out).mono ?_; rintro e w' ⟨rfl, rfl⟩; rw [← E2.out]) | (go_at_call 23; refine (srest_yes _ _ _ H.out).mono ?_; rintro e w' ⟨rfl, rfl⟩; rw [← E3.out]) | (go_at_call 20; refine (rest_yes _ _ _ H.out).mono ?_; rintro e w' ⟨rfl, rfl⟩; rw [← E3.out]))
          go_ret
          exact ⟨by first | rfl | exact ret_bool (by simp; try omega), HL.out⟩
      · have hrz : (r == 0) = false := by simpa using hr0
        have huq : (q + 1 == q) = false := by simp; omega
        rcases hsg with ⟨g1, g2, g3⟩ | ⟨g1, g2, g3⟩
        all_goals
          go_wp2_with (first | (go_at_call 21; refine (sfloor_yes _ _ _ H.out).mono ?_; rintro e w' ⟨rfl, rfl⟩; rw [← E1.out]) | (go_at_call 18; refine (floor_yes _ _ _ H.out).mono ?_; rintro e w' ⟨rfl, rfl⟩; rw [← E1.out]) | (go_at_call 22; refine (sceil_yes _ _ _ H.out).mono ?_; rintro e w' ⟨rfl, rfl⟩; rw [← E2.out]) | (go_at_call 19; refine (ceil_yes _ _ _ H.out).mono ?_; rintro e w' ⟨rfl, rfl⟩; rw [← E2.out]) | (go_at_call 23; refine (srest_yes _ _ _ H.out).mono ?_; rintro e w' ⟨rfl, rfl⟩; rw [← E3.out]) | (go_at_call 20; refine (rest_yes _ _ _ H.out).mono ?_; rintro e w' ⟨rfl, rfl⟩; rw [← E3.out]))
          go_ret
          exact ⟨by first | rfl | exact ret_bool (by simp; try omega), HL.out⟩
    · have H := Lib.hid hs
      go_wp2_with (first | (go_at_call 21; refine (sfloor_no _ _ _ H.out).mono ?_; rintro e w' ⟨rfl, rfl⟩) | (go_at_call 18; refine (floor_no _ _ _ H.out).mono ?_; rintro e w' ⟨rfl, rfl⟩) | (go_at_call 22; refine (sceil_no _ _ _ H.out).mono ?_; rintro e w' ⟨rfl, rfl⟩) | (go_at_call 19; refine (ceil_no _ _ _ H.out).mono ?_; rintro e w' ⟨rfl, rfl⟩) | (go_at_call 23; refine (srest_no _ _ _ H.out).mono ?_; rintro e w' ⟨rfl, rfl⟩) | (go_at_call 20; refine (rest_no _ _ _ H.out).mono ?_; rintro e w' ⟨rfl, rfl⟩))
      all_goals
        go_ret
        first
        | exact ⟨rfl, HL.out⟩
        | (exfalso; refine H.out ?_; unfold Small; omega)
end
end Go.Proofs.Ytpagepicgmaioaa
