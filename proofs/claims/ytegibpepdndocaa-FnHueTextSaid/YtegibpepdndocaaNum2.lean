
import Derived.Test.YtegibpepdndocaaNum
import Derived.LoopTactic
import Derived.BigQuiet
import Derived.Deep.QuietTactic
namespace Go.Proofs.Ytegibpepdndocaa
open Go.ChangeShapes Go.WideShapes Go.ChangeAt Go.RowKit

def bnd (n l h : Int) : Int := if (if n > h then h else n) < l then l else (if n > h then h else n)
theorem sbound_any (n l h : Int) (w : World) :
    Calls Try.prog 71 #[.int .i64 n, .int .i64 l, .int .i64 h] w fun e w' => e = .returned (.int .i64 (bnd n l h)) ∧ w = w' := by
  go_enter Try.func71, Try.ntmps71
  go_wp2
  all_goals
    go_ret
    refine ⟨ret_int ?_, rfl⟩
    unfold bnd
    (repeat' split) <;> omega

def InMix (a b v : Int) : Prop := -1073741824 ≤ a ∧ a ≤ 1073741824 ∧ -1073741824 ≤ b ∧ b ≤ 1073741824 ∧ 0 ≤ v ∧ v ≤ 4096
def mixOf (a b v : Int) : Int := a + (v * (b - a)).fdiv 4096
theorem mul_bd (v d : Int) (h0 : 0 ≤ v) (h1 : v ≤ 4096) (h2 : -2147483648 ≤ d) (h3 : d ≤ 2147483648) : -8796093022208 ≤ v * d ∧ v * d ≤ 8796093022208 := by
  have a1 := Int.mul_le_mul_of_nonneg_left h3 h0
  have a2 := Int.mul_le_mul_of_nonneg_left h2 h0
  omega
theorem mix_facts (a b v : Int) (hs : InMix a b v) : -8796093022208 ≤ v * (b - a) ∧ v * (b - a) ≤ 8796093022208 ∧ -2147483648 ≤ (v * (b - a)).fdiv 4096 ∧ (v * (b - a)).fdiv 4096 ≤ 2147483648 := by
  obtain ⟨h0, h1, h2, h3, h4, h5⟩ := hs
  have h := mul_bd v (b - a) h4 h5 (by omega) (by omega)
  rw [Int.fdiv_eq_ediv_of_nonneg _ (by omega)]
  omega
theorem smix_yes (a b v : Int) (w : World) (hs : InMix a b v) :
    Calls Try.prog 68 #[.int .i64 a, .int .i64 b, .int .i64 v] w fun e w' => e = .returned (.int .i64 (mixOf a b v)) ∧ w = w' := by
  obtain ⟨f1, f2, f3, f4⟩ := mix_facts a b v hs
  unfold mixOf
  rw [Int.mul_comm] at f1 f2 f3 f4 ⊢
  obtain ⟨h0, h1, h2, h3, h4, h5⟩ := hs
  have hq : Small ((b - a) * v) 4096 := by unfold Small; omega
  have H := Lib.hid hq
  clear hq
  go_enter Try.func68, Try.ntmps68
  go_wp2_with (first | (go_at_call 45; (with_reducible refine (l1In_yes _ _ _ _ (by omega) (by omega)).mono ?_); rintro e w' ⟨rfl, rfl⟩) | (go_at_call 73; refine (l1Floor_yes _ _ _ H.out).mono ?_; rintro e w' ⟨rfl, rfl⟩))
  go_ret
  exact ⟨rfl, rfl⟩
theorem mix_yes (a b v : Int) (w : World) (hs : InMix a b v) :
    Calls Try.prog 49 #[.int .i64 a, .int .i64 b, .int .i64 v] w fun e w' => e = .returned (.int .i64 (mixOf a b v)) ∧ w = w' := by
  obtain ⟨f1, f2, f3, f4⟩ := mix_facts a b v hs
  unfold mixOf
  obtain ⟨h0, h1, h2, h3, h4, h5⟩ := hs
  have hq : Small (v * (b - a)) 4096 := by unfold Small; omega
  have H := Lib.hid hq
  clear hq
  go_enter Try.func49, Try.ntmps49
  go_wp2_with (first | (go_at_call 46; (with_reducible refine (within_yes _ _ _ _ (by omega) (by omega)).mono ?_); rintro e w' ⟨rfl, rfl⟩) | (go_at_call 69; refine (floor_yes _ _ _ H.out).mono ?_; rintro e w' ⟨rfl, rfl⟩))
  go_ret
  exact ⟨rfl, rfl⟩
theorem mix_no (a b v : Int) (w : World) (hs : ¬ InMix a b v) :
    Calls Try.prog 49 #[.int .i64 a, .int .i64 b, .int .i64 v] w fun e w' => e = .returned (.int .i64 0) ∧ w = w' := by
  unfold InMix at hs
  by_cases h1 : a < -1073741824 ∨ 1073741824 < a
  · clear hs
    go_enter Try.func49, Try.ntmps49
    go_wp2_with (go_at_call 46; refine (within_no a _ _ _ h1).mono ?_; rintro e w' ⟨rfl, rfl⟩)
    go_ret
    exact ⟨rfl, rfl⟩
  have ha1 : -1073741824 ≤ a := by omega
  have ha2 : a ≤ 1073741824 := by omega
  by_cases h2 : b < -1073741824 ∨ 1073741824 < b
  · clear hs h1
    go_enter Try.func49, Try.ntmps49
    go_wp2_with (first | (go_at_call 46; (with_reducible refine (within_yes a _ _ _ ha1 ha2).mono ?_); rintro e w' ⟨rfl, rfl⟩) | (go_at_call 46; (with_reducible refine (within_no b _ _ _ h2).mono ?_); rintro e w' ⟨rfl, rfl⟩))
    go_ret
    exact ⟨rfl, rfl⟩
  have hb1 : -1073741824 ≤ b := by omega
  have hb2 : b ≤ 1073741824 := by omega
  have h3 : v < 0 ∨ 4096 < v := by omega
  clear hs h1 h2
  go_enter Try.func49, Try.ntmps49
  go_wp2_with (first | (go_at_call 46; (with_reducible refine (within_yes a _ _ _ ha1 ha2).mono ?_); rintro e w' ⟨rfl, rfl⟩) | (go_at_call 46; (with_reducible refine (within_yes b _ _ _ hb1 hb2).mono ?_); rintro e w' ⟨rfl, rfl⟩) | (go_at_call 46; (with_reducible refine (within_no v _ _ _ h3).mono ?_); rintro e w' ⟨rfl, rfl⟩))
  go_ret
  exact ⟨rfl, rfl⟩
theorem smix_no (a b v : Int) (w : World) (hs : ¬ InMix a b v) :
    Calls Try.prog 68 #[.int .i64 a, .int .i64 b, .int .i64 v] w fun e w' => e = .returned (.int .i64 0) ∧ w = w' := by
  unfold InMix at hs
  by_cases h1 : a < -1073741824 ∨ 1073741824 < a
  · clear hs
    go_enter Try.func68, Try.ntmps68
    go_wp2_with (go_at_call 45; refine (l1In_no a _ _ _ h1).mono ?_; rintro e w' ⟨rfl, rfl⟩)
    go_ret
    exact ⟨rfl, rfl⟩
  have ha1 : -1073741824 ≤ a := by omega
  have ha2 : a ≤ 1073741824 := by omega
  by_cases h2 : b < -1073741824 ∨ 1073741824 < b
  · clear hs h1
    go_enter Try.func68, Try.ntmps68
    go_wp2_with (first | (go_at_call 45; (with_reducible refine (l1In_yes a _ _ _ ha1 ha2).mono ?_); rintro e w' ⟨rfl, rfl⟩) | (go_at_call 45; (with_reducible refine (l1In_no b _ _ _ h2).mono ?_); rintro e w' ⟨rfl, rfl⟩))
    go_ret
    exact ⟨rfl, rfl⟩
  have hb1 : -1073741824 ≤ b := by omega
  have hb2 : b ≤ 1073741824 := by omega
  have h3 : v < 0 ∨ 4096 < v := by omega
  clear hs h1 h2
  go_enter Try.func68, Try.ntmps68
  go_wp2_with (first | (go_at_call 45; (with_reducible refine (l1In_yes a _ _ _ ha1 ha2).mono ?_); rintro e w' ⟨rfl, rfl⟩) | (go_at_call 45; (with_reducible refine (l1In_yes b _ _ _ hb1 hb2).mono ?_); rintro e w' ⟨rfl, rfl⟩) | (go_at_call 45; (with_reducible refine (l1In_no v _ _ _ h3).mono ?_); rintro e w' ⟨rfl, rfl⟩))
  go_ret
  exact ⟨rfl, rfl⟩
end Go.Proofs.Ytegibpepdndocaa
