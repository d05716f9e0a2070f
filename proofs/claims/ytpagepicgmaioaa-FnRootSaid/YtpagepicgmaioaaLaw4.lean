import Derived.Test.YtpagepicgmaioaaDraw1
import Derived.Test.YtpagepicgmaioaaLaw1
namespace Go.Proofs.Ytpagepicgmaioaa
open Go.ChangeShapes Go.WideShapes Go.ChangeAt Go.RowKit

theorem retb {p : Bool} (h : p = true) : Ending.returned (.bool p) = .returned (.bool true) := by rw [h]
theorem root_facts (m : Nat) (hm : m ≤ 4611686018427387904) : ∃ r : Int, r = rt m ∧ 0 ≤ r ∧ r ≤ 2147483648 ∧ 0 ≤ r * r ∧ r * r ≤ m ∧ (m : Int) - r * r ≤ 2 * r ∧
    (r * r = m ∧ rtUp m = r ∨ r * r < m ∧ rtUp m = r + 1 ∧ (m : Int) ≤ (r + 1) * (r + 1) ∧ (r + 1) * (r + 1) ≤ 9223372036854775807) := by
  have ⟨h1, h2⟩ := rt_spec m
  have h3 := rt_lt m 2147483649 (by omega)
  have h4 : ((rt m : Nat) : Int) * (rt m : Nat) = ((rt m * rt m : Nat) : Int) := by push_cast; rfl
  have e : (rt m + 1) * (rt m + 1) = rt m * rt m + 2 * rt m + 1 := by simp only [Nat.add_mul, Nat.mul_add]; omega
  have e2 : ((rt m : Int) + 1) * ((rt m : Int) + 1) = ((rt m * rt m + 2 * rt m + 1 : Nat) : Int) := by rw [← e]; push_cast; rfl
  refine ⟨_, rfl, by omega, by omega, by rw [h4]; omega, by rw [h4]; omega, by rw [h4]; omega, ?_⟩
  unfold rtUp
  by_cases hc : rt m * rt m < m
  · refine .inr ⟨by rw [h4]; omega, by rw [if_pos hc], by rw [e2]; omega, by rw [e2]; omega⟩
  · refine .inl ⟨by rw [h4]; omega, by rw [if_neg hc]⟩
section
variable {A : Option Addr} {n c : Nat} {w : World} (hnc : n ≤ c) (hcap : c ≤ 9223372036854775807) (hcode : Code w w.heap.size A n)
include hnc hcap hcode
set_option maxHeartbeats 2000000 in
theorem wFnRoot : Calls Try.prog 4 #[.slice A n c] w fun e w' => e = .returned (.bool true) ∧ Below w.heap.size w w' := by
  by_cases hn : 1048576 < n
  · go_enter Try.func4, Try.ntmps4
    go_wp2
    go_ret
    exact ⟨rfl, Below.refl _ _⟩
  · go_enter Try.func4, Try.ntmps4
    go_wp2_with fail
    refine (drawRoot_any hnc hcap hcode).mono ?_
    rintro e w1 ⟨a, rfl, ha, hlow⟩
    have HL := Lib.hid hlow
    clear hlow hcode
    unfold In64 at ha
    by_cases hs : a < 0 ∨ 4611686018427387904 < a
    · have H := Lib.hid hs
      clear hs
      go_wp2_with (first | (go_at_call 27; refine (sRoot_no _ _ H.out).mono ?_; rintro e w' ⟨rfl, rfl⟩) | (go_at_call 25; refine (root_no _ _ H.out).mono ?_; rintro e w' ⟨rfl, rfl⟩) | (go_at_call 28; refine (sRootUp_no _ _ H.out).mono ?_; rintro e w' ⟨rfl, rfl⟩) | (go_at_call 26; refine (rootUp_no _ _ H.out).mono ?_; rintro e w' ⟨rfl, rfl⟩))
      go_ret
      exact ⟨rfl, HL.out⟩
    · obtain ⟨m, rfl⟩ := Int.eq_ofNat_of_zero_le (show 0 ≤ a by omega)
      have hm : m ≤ 4611686018427387904 := by omega
      obtain ⟨r, e1, r0, r1, r2, r3, r4, r5⟩ := root_facts m hm
      have E1 := Lib.hid e1
      clear e1 hs ha
      rcases r5 with ⟨r5, e2⟩ | ⟨r5, e2, r6, r7⟩
      · have E2 := Lib.hid e2
        have r5' : (m : Int) ≤ r * r := by omega
        clear e2 r5
        go_wp2_with (first | (go_at_call 27; refine (sRoot_yes _ _ hm).mono ?_; rintro e w' ⟨rfl, rfl⟩; rw [← E1.out]) | (go_at_call 25; refine (root_yes _ _ hm).mono ?_; rintro e w' ⟨rfl, rfl⟩; rw [← E1.out]) | (go_at_call 28; refine (sRootUp_yes _ _ hm).mono ?_; rintro e w' ⟨rfl, rfl⟩; rw [E2.out]) | (go_at_call 26; refine (rootUp_yes _ _ hm).mono ?_; rintro e w' ⟨rfl, rfl⟩; rw [E2.out]))
        all_goals
          go_ret
          exact ⟨by first | rfl | exact retb (by simp; try omega), HL.out⟩
      · have E2 := Lib.hid e2
        have hb : (r + 1 == r) = false := by simp; omega
        have h8 : 0 ≤ (r + 1) * (r + 1) := by omega
        clear e2
        go_wp2_with (first | (go_at_call 27; refine (sRoot_yes _ _ hm).mono ?_; rintro e w' ⟨rfl, rfl⟩; rw [← E1.out]) | (go_at_call 25; refine (root_yes _ _ hm).mono ?_; rintro e w' ⟨rfl, rfl⟩; rw [← E1.out]) | (go_at_call 28; refine (sRootUp_yes _ _ hm).mono ?_; rintro e w' ⟨rfl, rfl⟩; rw [E2.out]) | (go_at_call 26; refine (rootUp_yes _ _ hm).mono ?_; rintro e w' ⟨rfl, rfl⟩; rw [E2.out]))
        all_goals
          go_ret
          exact ⟨by first | rfl | exact retb (by simp; try omega), HL.out⟩
end
end Go.Proofs.Ytpagepicgmaioaa
