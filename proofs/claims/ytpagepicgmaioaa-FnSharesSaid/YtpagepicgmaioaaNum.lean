import Derived.Test.YtpagepicgmaioaaRows
import Derived.Test.YtpagepicgmaioaaPure
import Derived.WalkKit
import Derived.ProofKit
import Derived.OpenShut
import Derived.Lib.Hide
import Derived.IntWalk
import Derived.Outline
namespace Go.Proofs.Ytpagepicgmaioaa
open Go.ChangeShapes Go.WideShapes Go.ChangeAt Go.RowKit

theorem ret_int {k : IntKind} {a b : Int} (h : a = b) : Ending.returned (.int k a) = .returned (.int k b) := by rw [h]

theorem within_yes (n l h : Int) (w : World) (h1 : l ≤ n) (h2 : n ≤ h) :
    Calls Try.prog 51 #[.int .i64 n, .int .i64 l, .int .i64 h] w fun e w' => e = .returned (.bool true) ∧ w = w' := by
  go_enter Try.func51, Try.ntmps51
  go_wp2
  go_ret
  exact ⟨rfl, rfl⟩
theorem within_no (n l h : Int) (w : World) (h1 : n < l ∨ h < n) :
    Calls Try.prog 51 #[.int .i64 n, .int .i64 l, .int .i64 h] w fun e w' => e = .returned (.bool false) ∧ w = w' := by
  by_cases hl : l ≤ n
  · have h2 : ¬ n ≤ h := by omega
    clear h1
    go_enter Try.func51, Try.ntmps51
    go_wp2
    go_ret
    exact ⟨rfl, rfl⟩
  · clear h1
    go_enter Try.func51, Try.ntmps51
    go_wp2
    go_ret
    exact ⟨rfl, rfl⟩
theorem l1In_yes (n l h : Int) (w : World) (h1 : l ≤ n) (h2 : n ≤ h) :
    Calls Try.prog 53 #[.int .i64 n, .int .i64 l, .int .i64 h] w fun e w' => e = .returned (.bool true) ∧ w = w' := by
  go_enter Try.func53, Try.ntmps53
  go_wp2
  go_ret
  exact ⟨rfl, rfl⟩
theorem l1In_no (n l h : Int) (w : World) (h1 : n < l ∨ h < n) :
    Calls Try.prog 53 #[.int .i64 n, .int .i64 l, .int .i64 h] w fun e w' => e = .returned (.bool false) ∧ w = w' := by
  by_cases hl : l ≤ n
  · have h2 : ¬ n ≤ h := by omega
    clear h1
    go_enter Try.func53, Try.ntmps53
    go_wp2
    go_ret
    exact ⟨rfl, rfl⟩
  · clear h1
    go_enter Try.func53, Try.ntmps53
    go_wp2
    go_ret
    exact ⟨rfl, rfl⟩
theorem divides_yes (a b : Int) (w : World) (hs : Small a b) :
    Calls Try.prog 46 #[.int .i64 a, .int .i64 b] w fun e w' => e = .returned (.bool true) ∧ w = w' := by
  obtain ⟨h0, h1, h2, h3, h4⟩ := hs
  have hb : (b != 0) = true := by simpa using h0
  go_enter Try.func46, Try.ntmps46
  go_wp2_with (go_at_call 51; refine (within_yes _ _ _ _ (by omega) (by omega)).mono ?_; rintro e w' ⟨rfl, rfl⟩)
  go_ret
  exact ⟨rfl, rfl⟩
theorem divides_no (a b : Int) (w : World) (hs : ¬ Small a b) :
    Calls Try.prog 46 #[.int .i64 a, .int .i64 b] w fun e w' => e = .returned (.bool false) ∧ w = w' := by
  unfold Small at hs
  by_cases h0 : b = 0
  · subst h0
    go_enter Try.func46, Try.ntmps46
    go_wp2
    go_ret
    exact ⟨rfl, rfl⟩
  have hb : (b != 0) = true := by simpa using h0
  by_cases h1 : a < -4611686018427387904 ∨ 4611686018427387904 < a
  · clear hs
    go_enter Try.func46, Try.ntmps46
    go_wp2_with (go_at_call 51; refine (within_no _ _ _ _ h1).mono ?_; rintro e w' ⟨rfl, rfl⟩)
    go_ret
    exact ⟨rfl, rfl⟩
  · have ha1 : -4611686018427387904 ≤ a := by omega
    have ha2 : a ≤ 4611686018427387904 := by omega
    have h2 : b < -4611686018427387904 ∨ 4611686018427387904 < b := by omega
    clear hs h1
    go_enter Try.func46, Try.ntmps46
    go_wp2_with (first | (go_at_call 51; (with_reducible refine (within_yes a _ _ _ ha1 ha2).mono ?_); rintro e w' ⟨rfl, rfl⟩) | (go_at_call 51; (with_reducible refine (within_no b _ _ _ h2).mono ?_); rintro e w' ⟨rfl, rfl⟩))
    go_ret
    exact ⟨rfl, rfl⟩

theorem nx {p q : Prop} [Decidable p] [Decidable q] (h : (!decide p == decide q) = true) : ¬ (p ↔ q) := by by_cases hp : p <;> by_cases hq : q <;> simp_all
theorem ny {p q : Prop} [Decidable p] [Decidable q] (h : (!decide p == decide q) = false) : p ↔ q := by by_cases hp : p <;> by_cases hq : q <;> simp_all
theorem px {p q : Prop} [Decidable p] [Decidable q] (h : (decide p == decide q) = true) : p ↔ q := by by_cases hp : p <;> by_cases hq : q <;> simp_all
theorem py {p q : Prop} [Decidable p] [Decidable q] (h : (decide p == decide q) = false) : ¬ (p ↔ q) := by by_cases hp : p <;> by_cases hq : q <;> simp_all
theorem bz {a b : Int} (h : (a != b) = false) : a = b := by simpa using h
theorem bn {a b : Int} (h : (a != b) = true) : a ≠ b := by simpa using h

theorem floor_yes (a b : Int) (w : World) (hs : Small a b) :
    Calls Try.prog 18 #[.int .i64 a, .int .i64 b] w fun e w' => e = .returned (.int .i64 (a.fdiv b)) ∧ w = w' := by
  have ⟨ht, ht'⟩ := tdiv_bd a b hs
  have ⟨hm, hm'⟩ := tdiv_mul_bd a b hs
  have H := Lib.hid hs
  obtain ⟨h0, h1, h2, h3, h4⟩ := hs
  go_enter Try.func18, Try.ntmps18
  go_wp2_with (go_at_call 46; refine (divides_yes _ _ _ H.out).mono ?_; rintro e w' ⟨rfl, rfl⟩)
  all_goals
    go_ret
    refine ⟨ret_int ?_, rfl⟩
  · rename_i x; exact floor_same a b h0 (.inl x)
  · rename_i x y; exact floor_down a b h0 x (nx y.2)
  · rename_i x y; exact floor_same a b h0 (y.imp bz ny)
theorem floor_no (a b : Int) (w : World) (hs : ¬ Small a b) :
    Calls Try.prog 18 #[.int .i64 a, .int .i64 b] w fun e w' => e = .returned (.int .i64 0) ∧ w = w' := by
  have H := Lib.hid hs
  clear hs
  go_enter Try.func18, Try.ntmps18
  go_wp2_with (go_at_call 46; refine (divides_no _ _ _ H.out).mono ?_; rintro e w' ⟨rfl, rfl⟩)
  go_ret
  exact ⟨rfl, rfl⟩
theorem ceil_yes (a b : Int) (w : World) (hs : Small a b) :
    Calls Try.prog 19 #[.int .i64 a, .int .i64 b] w fun e w' => e = .returned (.int .i64 (-((-a).fdiv b))) ∧ w = w' := by
  have ⟨ht, ht'⟩ := tdiv_bd a b hs
  have ⟨hm, hm'⟩ := tdiv_mul_bd a b hs
  have H := Lib.hid hs
  obtain ⟨h0, h1, h2, h3, h4⟩ := hs
  go_enter Try.func19, Try.ntmps19
  go_wp2_with (go_at_call 46; refine (divides_yes _ _ _ H.out).mono ?_; rintro e w' ⟨rfl, rfl⟩)
  all_goals
    go_ret
    refine ⟨ret_int ?_, rfl⟩
  · rename_i x; exact ceil_same a b h0 (.inl x)
  · rename_i x y; exact ceil_up a b h0 x (px y.2)
  · rename_i x y; exact ceil_same a b h0 (y.imp bz py)
theorem ceil_no (a b : Int) (w : World) (hs : ¬ Small a b) :
    Calls Try.prog 19 #[.int .i64 a, .int .i64 b] w fun e w' => e = .returned (.int .i64 0) ∧ w = w' := by
  have H := Lib.hid hs
  clear hs
  go_enter Try.func19, Try.ntmps19
  go_wp2_with (go_at_call 46; refine (divides_no _ _ _ H.out).mono ?_; rintro e w' ⟨rfl, rfl⟩)
  go_ret
  exact ⟨rfl, rfl⟩
theorem rest_yes (a b : Int) (w : World) (hs : Small a b) :
    Calls Try.prog 20 #[.int .i64 a, .int .i64 b] w fun e w' => e = .returned (.int .i64 (a.fmod b)) ∧ w = w' := by
  have hm : -4611686018427387903 ≤ a.tmod b ∧ a.tmod b ≤ 4611686018427387903 := by
    obtain ⟨_, h1, rfl, h2, h3, h4, h5, h6⟩ := tmod_fact a b hs.1
    obtain ⟨h0, h1, h2, h3, h4⟩ := hs
    omega
  obtain ⟨hm1, hm2⟩ := hm
  have H := Lib.hid hs
  obtain ⟨h0, h1, h2, h3, h4⟩ := hs
  go_enter Try.func20, Try.ntmps20
  go_wp2_with (go_at_call 46; refine (divides_yes _ _ _ H.out).mono ?_; rintro e w' ⟨rfl, rfl⟩)
  all_goals
    go_ret
    refine ⟨ret_int ?_, rfl⟩
  · rename_i x; exact x.symm.trans (rest_same a b h0 (.inl x))
  · rename_i x y; exact rest_up a b h0 x (nx y.2)
  · rename_i x y; exact rest_same a b h0 (y.imp bz ny)
theorem rest_no (a b : Int) (w : World) (hs : ¬ Small a b) :
    Calls Try.prog 20 #[.int .i64 a, .int .i64 b] w fun e w' => e = .returned (.int .i64 0) ∧ w = w' := by
  have H := Lib.hid hs
  clear hs
  go_enter Try.func20, Try.ntmps20
  go_wp2_with (go_at_call 46; refine (divides_no _ _ _ H.out).mono ?_; rintro e w' ⟨rfl, rfl⟩)
  go_ret
  exact ⟨rfl, rfl⟩

/- the reference -/
theorem l1Small_yes (a b : Int) (w : World) (hs : Small a b) :
    Calls Try.prog 47 #[.int .i64 a, .int .i64 b] w fun e w' => e = .returned (.bool true) ∧ w = w' := by
  obtain ⟨h0, h1, h2, h3, h4⟩ := hs
  have hb : (b != 0) = true := by simpa using h0
  go_enter Try.func47, Try.ntmps47
  go_wp2_with (go_at_call 53; refine (l1In_yes _ _ _ _ (by omega) (by omega)).mono ?_; rintro e w' ⟨rfl, rfl⟩)
  go_ret
  exact ⟨rfl, rfl⟩
theorem l1Small_no (a b : Int) (w : World) (hs : ¬ Small a b) :
    Calls Try.prog 47 #[.int .i64 a, .int .i64 b] w fun e w' => e = .returned (.bool false) ∧ w = w' := by
  unfold Small at hs
  by_cases h0 : b = 0
  · subst h0
    go_enter Try.func47, Try.ntmps47
    go_wp2
    go_ret
    exact ⟨rfl, rfl⟩
  have hb : (b != 0) = true := by simpa using h0
  by_cases h1 : a < -4611686018427387904 ∨ 4611686018427387904 < a
  · clear hs
    go_enter Try.func47, Try.ntmps47
    go_wp2_with (go_at_call 53; refine (l1In_no _ _ _ _ h1).mono ?_; rintro e w' ⟨rfl, rfl⟩)
    go_ret
    exact ⟨rfl, rfl⟩
  · have ha1 : -4611686018427387904 ≤ a := by omega
    have ha2 : a ≤ 4611686018427387904 := by omega
    have h2 : b < -4611686018427387904 ∨ 4611686018427387904 < b := by omega
    clear hs h1
    go_enter Try.func47, Try.ntmps47
    go_wp2_with (first | (go_at_call 53; (with_reducible refine (l1In_yes a _ _ _ ha1 ha2).mono ?_); rintro e w' ⟨rfl, rfl⟩) | (go_at_call 53; (with_reducible refine (l1In_no b _ _ _ h2).mono ?_); rintro e w' ⟨rfl, rfl⟩))
    go_ret
    exact ⟨rfl, rfl⟩
theorem l1Floor_yes (a b : Int) (w : World) (hs : Small a b) :
    Calls Try.prog 48 #[.int .i64 a, .int .i64 b] w fun e w' => e = .returned (.int .i64 (a.fdiv b)) ∧ w = w' := by
  have ⟨ht, ht'⟩ := tdiv_bd a b hs
  have H := Lib.hid hs
  obtain ⟨h0, h1, h2, h3, h4⟩ := hs
  have h6 : a.tmod b = 0 ↔ a.tdiv b * b = a := by
    obtain ⟨_, h1, rfl, h2, h3, h4, h5, h6⟩ := tmod_fact a b h0
    exact h6.symm
  have H6 := Lib.hid h6
  clear h6
  go_enter Try.func48, Try.ntmps48
  go_wp2
  all_goals
    go_ret
    refine ⟨ret_int ?_, rfl⟩
  · rename_i x; exact floor_same a b h0 (.inl (H6.out.1 x))
  · rename_i x y; exact floor_down a b h0 (fun e => x (H6.out.2 e)) (nx y.2)
  · rename_i x y; exact floor_same a b h0 (y.imp (fun e => H6.out.1 (bz e)) ny)
theorem sfloor_yes (a b : Int) (w : World) (hs : Small a b) :
    Calls Try.prog 21 #[.int .i64 a, .int .i64 b] w fun e w' => e = .returned (.int .i64 (a.fdiv b)) ∧ w = w' := by
  have H := Lib.hid hs
  clear hs
  go_enter Try.func21, Try.ntmps21
  go_wp2_with (first | (go_at_call 47; refine (l1Small_yes _ _ _ H.out).mono ?_; rintro e w' ⟨rfl, rfl⟩) | (go_at_call 48; refine (l1Floor_yes _ _ _ H.out).mono ?_; rintro e w' ⟨rfl, rfl⟩))
  go_ret
  exact ⟨rfl, rfl⟩
theorem sfloor_no (a b : Int) (w : World) (hs : ¬ Small a b) :
    Calls Try.prog 21 #[.int .i64 a, .int .i64 b] w fun e w' => e = .returned (.int .i64 0) ∧ w = w' := by
  have H := Lib.hid hs
  clear hs
  go_enter Try.func21, Try.ntmps21
  go_wp2_with (go_at_call 47; refine (l1Small_no _ _ _ H.out).mono ?_; rintro e w' ⟨rfl, rfl⟩)
  go_ret
  exact ⟨rfl, rfl⟩
theorem sceil_yes (a b : Int) (w : World) (hs : Small a b) :
    Calls Try.prog 22 #[.int .i64 a, .int .i64 b] w fun e w' => e = .returned (.int .i64 (-((-a).fdiv b))) ∧ w = w' := by
  have hs2 : Small (-a) b := by unfold Small at *; omega
  have ⟨ht, ht'⟩ := fdiv_bd (-a) b hs2
  have H := Lib.hid hs
  have H2 := Lib.hid hs2
  obtain ⟨h0, h1, h2, h3, h4⟩ := hs
  clear hs2
  go_enter Try.func22, Try.ntmps22
  go_wp2_with (first | (go_at_call 47; refine (l1Small_yes _ _ _ H.out).mono ?_; rintro e w' ⟨rfl, rfl⟩) | (go_at_call 48; refine (l1Floor_yes _ _ _ H2.out).mono ?_; rintro e w' ⟨rfl, rfl⟩))
  go_ret
  exact ⟨rfl, rfl⟩
theorem sceil_no (a b : Int) (w : World) (hs : ¬ Small a b) :
    Calls Try.prog 22 #[.int .i64 a, .int .i64 b] w fun e w' => e = .returned (.int .i64 0) ∧ w = w' := by
  have H := Lib.hid hs
  clear hs
  go_enter Try.func22, Try.ntmps22
  go_wp2_with (go_at_call 47; refine (l1Small_no _ _ _ H.out).mono ?_; rintro e w' ⟨rfl, rfl⟩)
  go_ret
  exact ⟨rfl, rfl⟩
theorem srest_yes (a b : Int) (w : World) (hs : Small a b) :
    Calls Try.prog 23 #[.int .i64 a, .int .i64 b] w fun e w' => e = .returned (.int .i64 (a.fmod b)) ∧ w = w' := by
  have hq := fmod_eq a b
  have hd := fmod_bd a b hs.1
  have H := Lib.hid hs
  have Hq := Lib.hid hq
  obtain ⟨h0, h1, h2, h3, h4⟩ := hs
  have hb1 : -9223372036854775808 ≤ b * a.fdiv b := by omega
  have hb2 : b * a.fdiv b ≤ 9223372036854775807 := by omega
  have hb3 : -9223372036854775808 ≤ a - b * a.fdiv b := by omega
  have hb4 : a - b * a.fdiv b ≤ 9223372036854775807 := by omega
  clear hd hq
  go_enter Try.func23, Try.ntmps23
  go_wp2_with (first | (go_at_call 47; refine (l1Small_yes _ _ _ H.out).mono ?_; rintro e w' ⟨rfl, rfl⟩) | (go_at_call 48; refine (l1Floor_yes _ _ _ H.out).mono ?_; rintro e w' ⟨rfl, rfl⟩))
  go_ret
  exact ⟨ret_int Hq.out.symm, rfl⟩
theorem srest_no (a b : Int) (w : World) (hs : ¬ Small a b) :
    Calls Try.prog 23 #[.int .i64 a, .int .i64 b] w fun e w' => e = .returned (.int .i64 0) ∧ w = w' := by
  have H := Lib.hid hs
  clear hs
  go_enter Try.func23, Try.ntmps23
  go_wp2_with (go_at_call 47; refine (l1Small_no _ _ _ H.out).mono ?_; rintro e w' ⟨rfl, rfl⟩)
  go_ret
  exact ⟨rfl, rfl⟩
end Go.Proofs.Ytpagepicgmaioaa
