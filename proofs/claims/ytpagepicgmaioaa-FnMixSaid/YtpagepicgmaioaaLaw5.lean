import Derived.Test.YtpagepicgmaioaaDraw1
import Derived.Test.YtpagepicgmaioaaLaw1
namespace Go.Proofs.Ytpagepicgmaioaa
open Go.ChangeShapes Go.WideShapes Go.ChangeAt Go.RowKit

theorem retb5 {p : Bool} (h : p = true) : Ending.returned (.bool p) = .returned (.bool true) := by rw [h]
theorem mix_between (a b v : Int) (hs : InMix a b v) : (a ≤ b → a ≤ mixOf a b v ∧ mixOf a b v ≤ b) ∧ (b ≤ a → b ≤ mixOf a b v ∧ mixOf a b v ≤ a) := by
  obtain ⟨h0, h1, h2, h3, h4, h5⟩ := hs
  unfold mixOf
  rw [Int.fdiv_eq_ediv_of_nonneg _ (by omega)]
  constructor
  · intro h
    have p1 := Int.mul_nonneg h4 (show 0 ≤ b - a by omega)
    have p2 := Int.mul_le_mul_of_nonneg_right h5 (show 0 ≤ b - a by omega)
    omega
  · intro h
    have p1 := Int.mul_nonneg h4 (show 0 ≤ a - b by omega)
    have p2 := Int.mul_le_mul_of_nonneg_right h5 (show 0 ≤ a - b by omega)
    have e : v * (b - a) = -(v * (a - b)) := by rw [← Int.mul_neg]; congr 1; omega
    rw [e]
    omega
theorem mix_ends (a b : Int) : mixOf a b 0 = a ∧ mixOf a b 4096 = b := by
  unfold mixOf
  refine ⟨by simp, ?_⟩
  rw [Int.mul_fdiv_cancel_left _ (by omega)]; omega
section
variable {A : Option Addr} {n c : Nat} {w : World} (hnc : n ≤ c) (hcap : c ≤ 9223372036854775807) (hcode : Code w w.heap.size A n)
include hnc hcap hcode
set_option maxHeartbeats 2000000 in
theorem wFnMix : Calls Try.prog 5 #[.slice A n c] w fun e w' => e = .returned (.bool true) ∧ Below w.heap.size w w' := by
  by_cases hn : 1048576 < n
  · go_enter Try.func5, Try.ntmps5
    go_wp2
    go_ret
    exact ⟨rfl, Below.refl _ _⟩
  · go_enter Try.func5, Try.ntmps5
    go_wp2_with fail
    refine (drawMix_any hnc hcap hcode).mono ?_
    rintro e w1 ⟨a, b, v, rfl, ha, hb, hv, hlow⟩
    have HL := Lib.hid hlow
    clear hlow hcode
    unfold In64 at ha hb hv
    by_cases hs : InMix a b v
    · have H := Lib.hid hs
      obtain ⟨e0, e4⟩ := mix_ends a b
      have E0 := Lib.hid e0
      have E4 := Lib.hid e4
      have hbt := mix_between a b v hs
      obtain ⟨h0, h1, h2, h3, h4, h5⟩ := hs
      have H0 : Hid (InMix a b 0) := Lib.hid (by unfold InMix; omega)
      have H4 : Hid (InMix a b 4096) := Lib.hid (by unfold InMix; omega)
      clear e0 e4
      by_cases hab : a ≤ b
      · obtain ⟨b1, b2⟩ := hbt.1 hab
        clear hbt
        go_wp2_with (first | (go_at_call 33; refine (sbound_any _ _ _ _).mono ?_; rintro e w' ⟨rfl, rfl⟩) | (go_at_call 32; refine (bound_any _ _ _ _).mono ?_; rintro e w' ⟨rfl, rfl⟩) | (go_at_call 31; refine (smix_yes _ _ _ _ H.out).mono ?_; rintro e w' ⟨rfl, rfl⟩) | (go_at_call 30; (with_reducible refine (mix_yes a b v _ H.out).mono ?_); rintro e w' ⟨rfl, rfl⟩) | (go_at_call 30; (with_reducible refine (mix_yes a b 0 _ H0.out).mono ?_); rintro e w' ⟨rfl, rfl⟩; rw [E0.out]) | (go_at_call 30; (with_reducible refine (mix_yes a b 4096 _ H4.out).mono ?_); rintro e w' ⟨rfl, rfl⟩; rw [E4.out]))
        all_goals
          go_ret
          exact ⟨by first | rfl | exact retb5 (by simp; try omega), HL.out⟩
      · obtain ⟨b1, b2⟩ := hbt.2 (by omega)
        have hba : b ≤ a := by omega
        clear hbt
        go_wp2_with (first | (go_at_call 33; refine (sbound_any _ _ _ _).mono ?_; rintro e w' ⟨rfl, rfl⟩) | (go_at_call 32; refine (bound_any _ _ _ _).mono ?_; rintro e w' ⟨rfl, rfl⟩) | (go_at_call 31; refine (smix_yes _ _ _ _ H.out).mono ?_; rintro e w' ⟨rfl, rfl⟩) | (go_at_call 30; (with_reducible refine (mix_yes a b v _ H.out).mono ?_); rintro e w' ⟨rfl, rfl⟩) | (go_at_call 30; (with_reducible refine (mix_yes a b 0 _ H0.out).mono ?_); rintro e w' ⟨rfl, rfl⟩; rw [E0.out]) | (go_at_call 30; (with_reducible refine (mix_yes a b 4096 _ H4.out).mono ?_); rintro e w' ⟨rfl, rfl⟩; rw [E4.out]))
        all_goals
          go_ret
          exact ⟨by first | rfl | exact retb5 (by simp; try omega), HL.out⟩
    · have H := Lib.hid hs
      clear hs
      go_wp2_with (first | (go_at_call 33; refine (sbound_any _ _ _ _).mono ?_; rintro e w' ⟨rfl, rfl⟩) | (go_at_call 32; refine (bound_any _ _ _ _).mono ?_; rintro e w' ⟨rfl, rfl⟩) | (go_at_call 31; refine (smix_no _ _ _ _ H.out).mono ?_; rintro e w' ⟨rfl, rfl⟩) | (go_at_call 30; (with_reducible refine (mix_no a b v _ H.out).mono ?_); rintro e w' ⟨rfl, rfl⟩))
      all_goals first
        | (go_ret; exact ⟨rfl, HL.out⟩)
        | (exfalso; refine H.out ?_; unfold InMix; omega)
end
end Go.Proofs.Ytpagepicgmaioaa
