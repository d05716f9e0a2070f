
import Derived.Test.YtegibpepdndocaaRows
import Derived.Test.YtegibpepdndocaaPure
import Derived.WalkKit
import Derived.ProofKit
import Derived.OpenShut
import Derived.Lib.Hide
import Derived.IntWalk
import Derived.Outline
namespace Go.Proofs.Ytegibpepdndocaa
open Go.ChangeShapes Go.WideShapes Go.ChangeAt Go.RowKit

theorem ret_int {k : IntKind} {a b : Int} (h : a = b) : Ending.returned (.int k a) = .returned (.int k b) := by rw [h]

theorem within_yes (n l h : Int) (w : World) (h1 : l ≤ n) (h2 : n ≤ h) :
    Calls Try.prog 46 #[.int .i64 n, .int .i64 l, .int .i64 h] w fun e w' => e = .returned (.bool true) ∧ w = w' := by
  go_enter Try.func46, Try.ntmps46
  go_wp2
  go_ret
  exact ⟨rfl, rfl⟩
theorem within_no (n l h : Int) (w : World) (h1 : n < l ∨ h < n) :
    Calls Try.prog 46 #[.int .i64 n, .int .i64 l, .int .i64 h] w fun e w' => e = .returned (.bool false) ∧ w = w' := by
  by_cases hl : l ≤ n
  · have h2 : ¬ n ≤ h := by omega
    clear h1
    go_enter Try.func46, Try.ntmps46
    go_wp2
    go_ret
    exact ⟨rfl, rfl⟩
  · clear h1
    go_enter Try.func46, Try.ntmps46
    go_wp2
    go_ret
    exact ⟨rfl, rfl⟩
theorem l1In_yes (n l h : Int) (w : World) (h1 : l ≤ n) (h2 : n ≤ h) :
    Calls Try.prog 45 #[.int .i64 n, .int .i64 l, .int .i64 h] w fun e w' => e = .returned (.bool true) ∧ w = w' := by
  go_enter Try.func45, Try.ntmps45
  go_wp2
  go_ret
  exact ⟨rfl, rfl⟩
theorem l1In_no (n l h : Int) (w : World) (h1 : n < l ∨ h < n) :
    Calls Try.prog 45 #[.int .i64 n, .int .i64 l, .int .i64 h] w fun e w' => e = .returned (.bool false) ∧ w = w' := by
  by_cases hl : l ≤ n
  · have h2 : ¬ n ≤ h := by omega
    clear h1
    go_enter Try.func45, Try.ntmps45
    go_wp2
    go_ret
    exact ⟨rfl, rfl⟩
  · clear h1
    go_enter Try.func45, Try.ntmps45
    go_wp2
    go_ret
    exact ⟨rfl, rfl⟩
theorem divides_yes (a b : Int) (w : World) (hs : Small a b) :
    Calls Try.prog 74 #[.int .i64 a, .int .i64 b] w fun e w' => e = .returned (.bool true) ∧ w = w' := by
  obtain ⟨h0, h1, h2, h3, h4⟩ := hs
  have hb : (b != 0) = true := by simpa using h0
  go_enter Try.func74, Try.ntmps74
  go_wp2_with (go_at_call 46; refine (within_yes _ _ _ _ (by omega) (by omega)).mono ?_; rintro e w' ⟨rfl, rfl⟩)
  go_ret
  exact ⟨rfl, rfl⟩
theorem divides_no (a b : Int) (w : World) (hs : ¬ Small a b) :
    Calls Try.prog 74 #[.int .i64 a, .int .i64 b] w fun e w' => e = .returned (.bool false) ∧ w = w' := by
  unfold Small at hs
  by_cases h0 : b = 0
  · subst h0
    go_enter Try.func74, Try.ntmps74
    go_wp2
    go_ret
    exact ⟨rfl, rfl⟩
  have hb : (b != 0) = true := by simpa using h0
  by_cases h1 : a < -4611686018427387904 ∨ 4611686018427387904 < a
  · clear hs
    go_enter Try.func74, Try.ntmps74
    go_wp2_with (go_at_call 46; refine (within_no _ _ _ _ h1).mono ?_; rintro e w' ⟨rfl, rfl⟩)
    go_ret
    exact ⟨rfl, rfl⟩
  · have ha1 : -4611686018427387904 ≤ a := by omega
    have ha2 : a ≤ 4611686018427387904 := by omega
    have h2 : b < -4611686018427387904 ∨ 4611686018427387904 < b := by omega
    clear hs h1
    go_enter Try.func74, Try.ntmps74
    go_wp2_with (first | (go_at_call 46; (with_reducible refine (within_yes a _ _ _ ha1 ha2).mono ?_); rintro e w' ⟨rfl, rfl⟩) | (go_at_call 46; (with_reducible refine (within_no b _ _ _ h2).mono ?_); rintro e w' ⟨rfl, rfl⟩))
    go_ret
    exact ⟨rfl, rfl⟩

theorem nx {p q : Prop} [Decidable p] [Decidable q] (h : (!decide p == decide q) = true) : ¬ (p ↔ q) := by by_cases hp : p <;> by_cases hq : q <;> simp_all
theorem ny {p q : Prop} [Decidable p] [Decidable q] (h : (!decide p == decide q) = false) : p ↔ q := by by_cases hp : p <;> by_cases hq : q <;> simp_all
theorem px {p q : Prop} [Decidable p] [Decidable q] (h : (decide p == decide q) = true) : p ↔ q := by by_cases hp : p <;> by_cases hq : q <;> simp_all
theorem py {p q : Prop} [Decidable p] [Decidable q] (h : (decide p == decide q) = false) : ¬ (p ↔ q) := by by_cases hp : p <;> by_cases hq : q <;> simp_all
theorem bz {a b : Int} (h : (a != b) = false) : a = b := by simpa using h
theorem bn {a b : Int} (h : (a != b) = true) : a ≠ b := by simpa using h

theorem floor_yes (a b : Int) (w : World) (hs : Small a b) :
    Calls Try.prog 69 #[.int .i64 a, .int .i64 b] w fun e w' => e = .returned (.int .i64 (a.fdiv b)) ∧ w = w' := by
  have ⟨ht, ht'⟩ := tdiv_bd a b hs
  have ⟨hm, hm'⟩ := tdiv_mul_bd a b hs
  have H := Lib.hid hs
  obtain ⟨h0, h1, h2, h3, h4⟩ := hs
  go_enter Try.func69, Try.ntmps69
  go_wp2_with (go_at_call 74; refine (divides_yes _ _ _ H.out).mono ?_; rintro e w' ⟨rfl, rfl⟩)
  all_goals
    go_ret
    refine ⟨ret_int ?_, rfl⟩
  · rename_i x; exact floor_same a b h0 (.inl x)
  · rename_i x y; exact floor_down a b h0 x (nx y.2)
  · rename_i x y; exact floor_same a b h0 (y.imp bz ny)
theorem floor_no (a b : Int) (w : World) (hs : ¬ Small a b) :
    Calls Try.prog 69 #[.int .i64 a, .int .i64 b] w fun e w' => e = .returned (.int .i64 0) ∧ w = w' := by
  have H := Lib.hid hs
  clear hs
  go_enter Try.func69, Try.ntmps69
  go_wp2_with (go_at_call 74; refine (divides_no _ _ _ H.out).mono ?_; rintro e w' ⟨rfl, rfl⟩)
  go_ret
  exact ⟨rfl, rfl⟩
theorem l1Floor_yes (a b : Int) (w : World) (hs : Small a b) :
    Calls Try.prog 73 #[.int .i64 a, .int .i64 b] w fun e w' => e = .returned (.int .i64 (a.fdiv b)) ∧ w = w' := by
  have ⟨ht, ht'⟩ := tdiv_bd a b hs
  have H := Lib.hid hs
  obtain ⟨h0, h1, h2, h3, h4⟩ := hs
  have h6 : a.tmod b = 0 ↔ a.tdiv b * b = a := by
    obtain ⟨_, h1, rfl, h2, h3, h4, h5, h6⟩ := tmod_fact a b h0
    exact h6.symm
  have H6 := Lib.hid h6
  clear h6
  go_enter Try.func73, Try.ntmps73
  go_wp2
  all_goals
    go_ret
    refine ⟨ret_int ?_, rfl⟩
  · rename_i x; exact floor_same a b h0 (.inl (H6.out.1 x))
  · rename_i x y; exact floor_down a b h0 (fun e => x (H6.out.2 e)) (nx y.2)
  · rename_i x y; exact floor_same a b h0 (y.imp (fun e => H6.out.1 (bz e)) ny)
end Go.Proofs.Ytegibpepdndocaa
