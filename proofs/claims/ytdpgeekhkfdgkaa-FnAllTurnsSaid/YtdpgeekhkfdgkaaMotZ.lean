
import Derived.Test.YtdpgeekhkfdgkaaMotY
namespace Go.Proofs.Ytdpgeekhkfdgkaa
open Go.ChangeShapes Go.WideShapes Go.ChangeAt Go.RowKit
set_option maxHeartbeats 2000000

def NineC (cur : Array Value) (k : Nat) (a b c : Int) (p q r : Bool) (x y z : Int) : Prop :=
  cur[k * 9]? = some (.int .i64 a) ∧ cur[k * 9 + 1]? = some (.int .i64 b) ∧ cur[k * 9 + 2]? = some (.int .i64 c) ∧
  cur[k * 9 + 3]? = some (.bool p) ∧ cur[k * 9 + 4]? = some (.bool q) ∧ cur[k * 9 + 5]? = some (.bool r) ∧
  cur[k * 9 + 6]? = some (.int .i64 x) ∧ cur[k * 9 + 7]? = some (.int .i64 y) ∧ cur[k * 9 + 8]? = some (.int .i64 z)
theorem set9 (cur : Array Value) (j : Nat) (h : j * 9 + 9 ≤ cur.size) (v0 v1 v2 v3 v4 v5 v6 v7 v8 : Value) :
    let C := ((((((((cur.setIfInBounds (j * 9) v0).setIfInBounds (j * 9 + 1) v1).setIfInBounds (j * 9 + 2) v2).setIfInBounds (j * 9 + 3) v3).setIfInBounds (j * 9 + 4) v4).setIfInBounds (j * 9 + 5) v5).setIfInBounds (j * 9 + 6) v6).setIfInBounds (j * 9 + 7) v7).setIfInBounds (j * 9 + 8) v8
    C.size = cur.size ∧ (∀ t, t < j * 9 → C[t]? = cur[t]?) ∧ C[j * 9]? = some v0 ∧ C[j * 9 + 1]? = some v1 ∧ C[j * 9 + 2]? = some v2 ∧ C[j * 9 + 3]? = some v3 ∧ C[j * 9 + 4]? = some v4 ∧ C[j * 9 + 5]? = some v5 ∧ C[j * 9 + 6]? = some v6 ∧ C[j * 9 + 7]? = some v7 ∧ C[j * 9 + 8]? = some v8 := by
  intro C
  refine ⟨by simp [C], fun t ht => ?_, ?_, ?_, ?_, ?_, ?_, ?_, ?_, ?_, ?_⟩
  · simp only [C, Array.getElem?_setIfInBounds]
    repeat rw [if_neg (by omega)]
  all_goals
    simp only [C, Array.getElem?_setIfInBounds, Array.size_setIfInBounds]
    repeat (first | rfl | rw [if_pos trivial] | rw [if_neg (by omega)] | rw [if_pos (by omega)])
/- marked: the numbers from 1 on, and every third one's bool -/
def Mrk (cur : Array Value) (n : Nat) : Prop := 48 * 9 ≤ cur.size ∧ ∀ i, i < n → NineC cur i (9 * i + 1) (9 * i + 2) (9 * i + 3) false false true (9 * i + 7) (9 * i + 8) (9 * i + 9)
theorem some_at {w : World} {g : Nat} {cur : Array Value} {T : TypeId} (h : Has w g cur T) (i : Nat) (hi : i < cur.size) : ∃ v, w.cell? ⟨g, i, none⟩ = some v := ⟨cur[i], by rw [Has.cell h]; exact Array.getElem?_eq_getElem hi⟩
theorem by_set {a w : World} {g : Nat} (h : a.grownBy w (some g)) (i : Nat) (v : Value) : a.grownBy (w.setCell ⟨g, i, none⟩ v) (some g) :=
  by_trans h ⟨rfl, rfl, rfl, by simp, fun k _ hne => Below.heap_setCell w ⟨g, i, none⟩ v k (fun e => hne (by rw [e]))⟩
attribute [local go_sem] VGo_value VGo_skip VGo_enter
theorem markMotionS_any (g cap : Nat) (cur : Array Value) (w : World) (hA : Has w g cur 38) (hs : 48 * 9 ≤ cur.size) :
    Calls Try.prog 61 #[.slice (some ⟨g, 0, none⟩) 48 cap, .int .i64 1] w fun e w' => e = .returned (.int .i64 433) ∧ ∃ cur', Has w' g cur' 38 ∧ Mrk cur' 48 ∧ w.grownBy w' (some g) := by
  go_enter Try.func61, Try.ntmps61
  go_wp2
  go_loopw [1, 5] (fun k i2 wr => ∃ j : Nat, j ≤ 48 ∧ i2 = .int .i64 j ∧ k = .int .i64 (9 * j + 1) ∧ ∃ cur', Has wr g cur' 38 ∧ Mrk cur' j ∧ w.grownBy wr (some g)) (fun _ i2 _ => 48 - (intOf i2).toNat)
  case atStart => exact ⟨0, by omega, rfl, rfl, cur, hA, ⟨hs, fun i h => by omega⟩, World.grownBy.refl _ _⟩
  case round =>
    clear hA hs
    obtain ⟨j, hj, rfl, rfl, cur', hA, hM, hG⟩ := hrel
    by_cases hc : j < 48
    · have hz := hM.1
      obtain ⟨v0, a0⟩ := some_at hA (j * 9) (by omega)
      obtain ⟨v1, a1⟩ := some_at hA (j * 9 + 1) (by omega)
      obtain ⟨v2, a2⟩ := some_at hA (j * 9 + 2) (by omega)
      obtain ⟨v3, a3⟩ := some_at hA (j * 9 + 3) (by omega)
      obtain ⟨v4, a4⟩ := some_at hA (j * 9 + 4) (by omega)
      obtain ⟨v5, a5⟩ := some_at hA (j * 9 + 5) (by omega)
      obtain ⟨v6, a6⟩ := some_at hA (j * 9 + 6) (by omega)
      obtain ⟨v7, a7⟩ := some_at hA (j * 9 + 7) (by omega)
      obtain ⟨v8, a8⟩ := some_at hA (j * 9 + 8) (by omega)
      have fA := Has.frozen hA
      have HM := Lib.hid hM
      clear hM
      go_wp2
      refine wp_loop_rounds 4 ?_
      repeat' (rw [rounds_succ]; go_wp2)
      refine wp_loop_rounds 4 ?_
      repeat' (rw [rounds_succ]; go_wp2)
      obtain ⟨s0, s1, q0, q1, q2, q3, q4, q5, q6, q7, q8⟩ := set9 cur' j (by omega) (.int .i64 (9 * (j : Int) + 1)) (.int .i64 (9 * (j : Int) + 1 + 1)) (.int .i64 (9 * (j : Int) + 1 + 1 + 1)) (.bool ((9 * (j : Int) + 1 + 1 + 1 + 1) % 3 == 0)) (.bool ((9 * (j : Int) + 1 + 1 + 1 + 1 + 1) % 3 == 0)) (.bool ((9 * (j : Int) + 1 + 1 + 1 + 1 + 1 + 1) % 3 == 0)) (.int .i64 (9 * (j : Int) + 1 + 1 + 1 + 1 + 1 + 1 + 1)) (.int .i64 (9 * (j : Int) + 1 + 1 + 1 + 1 + 1 + 1 + 1 + 1)) (.int .i64 (9 * (j : Int) + 1 + 1 + 1 + 1 + 1 + 1 + 1 + 1 + 1))
      have m3 : (9 * (j : Int) + 1 + 1 + 1 + 1) % 3 = 1 := by omega
      have m4 : (9 * (j : Int) + 1 + 1 + 1 + 1 + 1) % 3 = 2 := by omega
      have m5 : (9 * (j : Int) + 1 + 1 + 1 + 1 + 1 + 1) % 3 = 0 := by omega
      go_roundw
      case measure => simp [intOf]; omega
      refine ⟨j + 1, by omega, by go_num, congrArg (Value.int .i64) (by omega), _, Has.same (Has.same (Has.same (Has.same (Has.same (Has.same (Has.same (Has.same (Has.same hA _ _) _ _) _ _) _ _) _ _) _ _) _ _) _ _) _ _, ⟨by rw [s0]; exact HM.out.1, fun i hi => ?_⟩, by_set (by_set (by_set (by_set (by_set (by_set (by_set (by_set (by_set (hG) _ _) _ _) _ _) _ _) _ _) _ _) _ _) _ _) _ _⟩
      by_cases hij : i < j
      · obtain ⟨e0, e1, e2, e3, e4, e5, e6, e7, e8⟩ := HM.out.2 i hij
        refine ⟨?_, ?_, ?_, ?_, ?_, ?_, ?_, ?_, ?_⟩ <;> rw [s1 _ (by omega)] <;> assumption
      · obtain rfl : i = j := by omega
        refine ⟨?_, ?_, ?_, ?_, ?_, ?_, ?_, ?_, ?_⟩
        · rw [q0]
        · rw [q1]; exact congrArg (fun zz : Int => some (Value.int .i64 zz)) (by omega)
        · rw [q2]; exact congrArg (fun zz : Int => some (Value.int .i64 zz)) (by omega)
        · rw [q3, m3]; rfl
        · rw [q4, m4]; rfl
        · rw [q5, m5]; rfl
        · rw [q6]; exact congrArg (fun zz : Int => some (Value.int .i64 zz)) (by omega)
        · rw [q7]; exact congrArg (fun zz : Int => some (Value.int .i64 zz)) (by omega)
        · rw [q8]; exact congrArg (fun zz : Int => some (Value.int .i64 zz)) (by omega)
    · obtain rfl : j = 48 := by omega
      go_wp2
      go_ret
      exact ⟨rfl, cur', hA, hM, hG⟩
theorem heldMotionS_any (g cap : Nat) (cur : Array Value) (w : World) (hA : Has w g cur 38) (hM : Mrk cur 48) :
    Calls Try.prog 62 #[.slice (some ⟨g, 0, none⟩) 48 cap, .int .i64 1] w fun e w' => e = .returned (.int .i64 433) ∧ w = w' := by
  have HM := Lib.hid hM
  clear hM
  go_enter Try.func62, Try.ntmps62
  go_wp2
  go_loopw [1, 5] (fun k i2 wr => ∃ j : Nat, j ≤ 48 ∧ i2 = .int .i64 j ∧ k = .int .i64 (9 * j + 1) ∧ w = wr) (fun _ i2 _ => 48 - (intOf i2).toNat)
  case atStart => exact ⟨0, by omega, rfl, rfl, rfl⟩
  case round =>
    obtain ⟨j, hj, rfl, rfl, rfl⟩ := hrel
    by_cases hc : j < 48
    · have C := Has.cell hA
      obtain ⟨e0, e1, e2, e3, e4, e5, e6, e7, e8⟩ := HM.out.2 j hc
      have m3 : (9 * (j : Int) + 1 + 1 + 1 + 1) % 3 = 1 := by omega
      have m4 : (9 * (j : Int) + 1 + 1 + 1 + 1 + 1) % 3 = 2 := by omega
      have m5 : (9 * (j : Int) + 1 + 1 + 1 + 1 + 1 + 1) % 3 = 0 := by omega
      have a0 : w.cell? ⟨g, j * 9, none⟩ = some (.int .i64 (9 * (j : Int) + 1)) := by rw [C, e0]
      have a1 : w.cell? ⟨g, j * 9 + 1, none⟩ = some (.int .i64 (9 * (j : Int) + 1 + 1)) := by rw [C, e1]; exact congrArg (fun zz : Int => some (Value.int .i64 zz)) (by omega)
      have a2 : w.cell? ⟨g, j * 9 + 2, none⟩ = some (.int .i64 (9 * (j : Int) + 1 + 1 + 1)) := by rw [C, e2]; exact congrArg (fun zz : Int => some (Value.int .i64 zz)) (by omega)
      have a3 : w.cell? ⟨g, j * 9 + 3, none⟩ = some (.bool false) := by rw [C, e3]
      have a4 : w.cell? ⟨g, j * 9 + 4, none⟩ = some (.bool false) := by rw [C, e4]
      have a5 : w.cell? ⟨g, j * 9 + 5, none⟩ = some (.bool true) := by rw [C, e5]
      have a6 : w.cell? ⟨g, j * 9 + 6, none⟩ = some (.int .i64 (9 * (j : Int) + 1 + 1 + 1 + 1 + 1 + 1 + 1)) := by rw [C, e6]; exact congrArg (fun zz : Int => some (Value.int .i64 zz)) (by omega)
      have a7 : w.cell? ⟨g, j * 9 + 7, none⟩ = some (.int .i64 (9 * (j : Int) + 1 + 1 + 1 + 1 + 1 + 1 + 1 + 1)) := by rw [C, e7]; exact congrArg (fun zz : Int => some (Value.int .i64 zz)) (by omega)
      have a8 : w.cell? ⟨g, j * 9 + 8, none⟩ = some (.int .i64 (9 * (j : Int) + 1 + 1 + 1 + 1 + 1 + 1 + 1 + 1 + 1)) := by rw [C, e8]; exact congrArg (fun zz : Int => some (Value.int .i64 zz)) (by omega)
      clear C hA e0 e1 e2 e3 e4 e5 e6 e7 e8
      go_wp2
      refine wp_loop_rounds 4 ?_
      repeat' (rw [rounds_succ]; go_wp2)
      refine wp_loop_rounds 4 ?_
      repeat' (rw [rounds_succ]; go_wp2)
      go_roundw
      case rel => exact ⟨j + 1, by omega, by go_num, congrArg (Value.int .i64) (by omega), by first | rfl | trivial⟩
      case measure => simp [intOf]; omega
    · obtain rfl : j = 48 := by omega
      go_wp2
      go_ret
      exact ⟨rfl, rfl⟩
end Go.Proofs.Ytdpgeekhkfdgkaa
