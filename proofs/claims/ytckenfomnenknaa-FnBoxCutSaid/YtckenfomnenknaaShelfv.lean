import Derived.IntWalk
import Derived.Lib.Hide
import Derived.OpenShut
import Derived.Outline
import Derived.ProofKit
import Derived.Shelf.Small.Bits
import Derived.Shelf.Strconv.Itoa0
import Derived.Test.YtckenfomnenknaaProg
import Derived.Test.YtckenfomnenknaaPurev
import Derived.Test.YtckenfomnenknaaRows
import Derived.WalkKit
section
namespace Go.Proofs.Ytckenfomnenknaa
open Go.ChangeShapes Go.WideShapes Go.ChangeAt Go.RowKit

theorem ret_int {k : IntKind} {a b : Int} (h : a = b) : Ending.returned (.int k a) = .returned (.int k b) := by rw [h]

theorem within_yes (n l h : Int) (w : World) (h1 : l ≤ n) (h2 : n ≤ h) :
    Calls Try.prog 66 #[.int .i64 n, .int .i64 l, .int .i64 h] w fun e w' => e = .returned (.bool true) ∧ w = w' := by
  go_enter Try.func66, Try.ntmps66
  go_wp2
  go_ret
  exact ⟨rfl, rfl⟩
theorem within_no (n l h : Int) (w : World) (h1 : n < l ∨ h < n) :
    Calls Try.prog 66 #[.int .i64 n, .int .i64 l, .int .i64 h] w fun e w' => e = .returned (.bool false) ∧ w = w' := by
  by_cases hl : l ≤ n
  · have h2 : ¬ n ≤ h := by omega
    clear h1
    go_enter Try.func66, Try.ntmps66
    go_wp2
    go_ret
    exact ⟨rfl, rfl⟩
  · clear h1
    go_enter Try.func66, Try.ntmps66
    go_wp2
    go_ret
    exact ⟨rfl, rfl⟩
theorem l1In_yes (n l h : Int) (w : World) (h1 : l ≤ n) (h2 : n ≤ h) :
    Calls Try.prog 67 #[.int .i64 n, .int .i64 l, .int .i64 h] w fun e w' => e = .returned (.bool true) ∧ w = w' := by
  go_enter Try.func67, Try.ntmps67
  go_wp2
  go_ret
  exact ⟨rfl, rfl⟩
theorem l1In_no (n l h : Int) (w : World) (h1 : n < l ∨ h < n) :
    Calls Try.prog 67 #[.int .i64 n, .int .i64 l, .int .i64 h] w fun e w' => e = .returned (.bool false) ∧ w = w' := by
  by_cases hl : l ≤ n
  · have h2 : ¬ n ≤ h := by omega
    clear h1
    go_enter Try.func67, Try.ntmps67
    go_wp2
    go_ret
    exact ⟨rfl, rfl⟩
  · clear h1
    go_enter Try.func67, Try.ntmps67
    go_wp2
    go_ret
    exact ⟨rfl, rfl⟩
theorem divides_yes (a b : Int) (w : World) (hs : Small a b) :
    Calls Try.prog 105 #[.int .i64 a, .int .i64 b] w fun e w' => e = .returned (.bool true) ∧ w = w' := by
  obtain ⟨h0, h1, h2, h3, h4⟩ := hs
  have hb : (b != 0) = true := by simpa using h0
  go_enter Try.func105, Try.ntmps105
  go_wp2_with (go_at_call 66; refine (within_yes _ _ _ _ (by omega) (by omega)).mono ?_; rintro e w' ⟨rfl, rfl⟩)
  go_ret
  exact ⟨rfl, rfl⟩
theorem divides_no (a b : Int) (w : World) (hs : ¬ Small a b) :
    Calls Try.prog 105 #[.int .i64 a, .int .i64 b] w fun e w' => e = .returned (.bool false) ∧ w = w' := by
  unfold Small at hs
  by_cases h0 : b = 0
  · subst h0
    go_enter Try.func105, Try.ntmps105
    go_wp2
    go_ret
    exact ⟨rfl, rfl⟩
  have hb : (b != 0) = true := by simpa using h0
  by_cases h1 : a < -4611686018427387904 ∨ 4611686018427387904 < a
  · clear hs
    go_enter Try.func105, Try.ntmps105
    go_wp2_with (go_at_call 66; refine (within_no _ _ _ _ h1).mono ?_; rintro e w' ⟨rfl, rfl⟩)
    go_ret
    exact ⟨rfl, rfl⟩
  · have ha1 : -4611686018427387904 ≤ a := by omega
    have ha2 : a ≤ 4611686018427387904 := by omega
    have h2 : b < -4611686018427387904 ∨ 4611686018427387904 < b := by omega
    clear hs h1
    go_enter Try.func105, Try.ntmps105
    go_wp2_with (first | (go_at_call 66; (with_reducible refine (within_yes a _ _ _ ha1 ha2).mono ?_); rintro e w' ⟨rfl, rfl⟩) | (go_at_call 66; (with_reducible refine (within_no b _ _ _ h2).mono ?_); rintro e w' ⟨rfl, rfl⟩))
    go_ret
    exact ⟨rfl, rfl⟩

theorem nx {p q : Prop} [Decidable p] [Decidable q] (h : (!decide p == decide q) = true) : ¬ (p ↔ q) := by by_cases hp : p <;> by_cases hq : q <;> simp_all
theorem ny {p q : Prop} [Decidable p] [Decidable q] (h : (!decide p == decide q) = false) : p ↔ q := by by_cases hp : p <;> by_cases hq : q <;> simp_all
theorem bz {a b : Int} (h : (a != b) = false) : a = b := by simpa using h
theorem floor_yes (a b : Int) (w : World) (hs : Small a b) :
    Calls Try.prog 60 #[.int .i64 a, .int .i64 b] w fun e w' => e = .returned (.int .i64 (a.fdiv b)) ∧ w = w' := by
  have ⟨ht, ht'⟩ := tdiv_bd a b hs
  have ⟨hm, hm'⟩ := tdiv_mul_bd a b hs
  have H := Lib.hid hs
  obtain ⟨h0, h1, h2, h3, h4⟩ := hs
  go_enter Try.func60, Try.ntmps60
  go_wp2_with (go_at_call 105; refine (divides_yes _ _ _ H.out).mono ?_; rintro e w' ⟨rfl, rfl⟩)
  all_goals
    go_ret
    refine ⟨ret_int ?_, rfl⟩
  · rename_i x; exact floor_same a b h0 (.inl x)
  · rename_i x y; exact floor_down a b h0 x (nx y.2)
  · rename_i x y; exact floor_same a b h0 (y.imp bz ny)
theorem floor_no (a b : Int) (w : World) (hs : ¬ Small a b) :
    Calls Try.prog 60 #[.int .i64 a, .int .i64 b] w fun e w' => e = .returned (.int .i64 0) ∧ w = w' := by
  have H := Lib.hid hs
  clear hs
  go_enter Try.func60, Try.ntmps60
  go_wp2_with (go_at_call 105; refine (divides_no _ _ _ H.out).mono ?_; rintro e w' ⟨rfl, rfl⟩)
  go_ret
  exact ⟨rfl, rfl⟩
/- the reference -/
theorem l1Small_yes (a b : Int) (w : World) (hs : Small a b) :
    Calls Try.prog 159 #[.int .i64 a, .int .i64 b] w fun e w' => e = .returned (.bool true) ∧ w = w' := by
  obtain ⟨h0, h1, h2, h3, h4⟩ := hs
  have hb : (b != 0) = true := by simpa using h0
  go_enter Try.func159, Try.ntmps159
  go_wp2_with (go_at_call 67; refine (l1In_yes _ _ _ _ (by omega) (by omega)).mono ?_; rintro e w' ⟨rfl, rfl⟩)
  go_ret
  exact ⟨rfl, rfl⟩
theorem l1Floor_yes (a b : Int) (w : World) (hs : Small a b) :
    Calls Try.prog 139 #[.int .i64 a, .int .i64 b] w fun e w' => e = .returned (.int .i64 (a.fdiv b)) ∧ w = w' := by
  have ⟨ht, ht'⟩ := tdiv_bd a b hs
  have H := Lib.hid hs
  obtain ⟨h0, h1, h2, h3, h4⟩ := hs
  have h6 : a.tmod b = 0 ↔ a.tdiv b * b = a := by
    obtain ⟨_, h1, rfl, h2, h3, h4, h5, h6⟩ := tmod_fact a b h0
    exact h6.symm
  have H6 := Lib.hid h6
  clear h6
  go_enter Try.func139, Try.ntmps139
  go_wp2
  all_goals
    go_ret
    refine ⟨ret_int ?_, rfl⟩
  · rename_i x; exact floor_same a b h0 (.inl (H6.out.1 x))
  · rename_i x y; exact floor_down a b h0 (fun e => x (H6.out.2 e)) (nx y.2)
  · rename_i x y; exact floor_same a b h0 (y.imp (fun e => H6.out.1 (bz e)) ny)
theorem sceil_yes (a b : Int) (w : World) (hs : Small a b) :
    Calls Try.prog 136 #[.int .i64 a, .int .i64 b] w fun e w' => e = .returned (.int .i64 (-((-a).fdiv b))) ∧ w = w' := by
  have hs2 : Small (-a) b := by unfold Small at *; omega
  have ⟨ht, ht'⟩ := fdiv_bd (-a) b hs2
  have H := Lib.hid hs
  have H2 := Lib.hid hs2
  obtain ⟨h0, h1, h2, h3, h4⟩ := hs
  clear hs2
  go_enter Try.func136, Try.ntmps136
  go_wp2_with (first | (go_at_call 159; refine (l1Small_yes _ _ _ H.out).mono ?_; rintro e w' ⟨rfl, rfl⟩) | (go_at_call 139; refine (l1Floor_yes _ _ _ H2.out).mono ?_; rintro e w' ⟨rfl, rfl⟩))
  go_ret
  exact ⟨rfl, rfl⟩
end Go.Proofs.Ytckenfomnenknaa
end
section
/- Contracts of library functions at this translation, as the kit's tool lays them. -/
namespace Go.Proofs
open Go.Shelf
def Try.lays125_ren : Go.Shelf.Ren := ⟨fun | 125 => 107 | 128 => 140 | 129 => 141 | n => n, fun | 46 => 136 | 3 => 3 | 51 => 161 | 53 => 163 | 4 => 4 | 5 => 5 | 9 => 9 | n => n, fun | n => n⟩
theorem Try.lays125 : Go.Proofs.Lays.n125 Try.prog Try.lays125_ren := {
  mixed := by kernel_rfl
  f125 := Try.func107.trans (congrArg some (by kernel_rfl))
  f128 := Try.func140.trans (congrArg some (by kernel_rfl))
  f129 := Try.func141.trans (congrArg some (by kernel_rfl))
  t3 := Try.underlying3
  a3 := Try.isAgg3
  z3 := Try.sizeOf3
  v3 := Try.zeroValue3
  t4 := Try.underlying4
  a4 := Try.isAgg4
  z4 := Try.sizeOf4
  v4 := Try.zeroValue4
  t5 := Try.underlying5
  a5 := Try.isAgg5
  z5 := Try.sizeOf5
  v5 := Try.zeroValue5
  t9 := Try.underlying9
  a9 := Try.isAgg9
  z9 := Try.sizeOf9
  v9 := Try.zeroValue9
  t46 := Try.underlying136
  a46 := Try.isAgg136
  z46 := Try.sizeOf136
  v46 := Try.zeroValue136
  t51 := Try.underlying161
  a51 := Try.isAgg161
  z51 := Try.sizeOf161
  v51 := Try.zeroValue161
  t53 := Try.underlying163
  a53 := Try.isAgg163
  z53 := Try.sizeOf163
  v53 := Try.zeroValue163 }
theorem Try.bits_Len (x : Int) (w : World) (h0 : 0 ≤ x) (h1 : x ≤ 18446744073709551615) :
    Calls Try.prog 107 #[.int .u64 x] w fun e w' => e = .returned (.int .i64 (Lib.bitLen x.toNat)) ∧ w' = w := Any.bits_Len Try.lays125 x w h0 h1
end Go.Proofs
end
