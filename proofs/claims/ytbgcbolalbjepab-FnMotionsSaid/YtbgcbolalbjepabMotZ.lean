
import Derived.Test.YtbgcbolalbjepabMotY
namespace Go.Proofs.Ytbgcbolalbjepab
open Go.ChangeShapes Go.WideShapes Go.ChangeAt Go.RowKit
set_option maxHeartbeats 2000000

def NineC (cur : Array Value) (k : Nat) (a b c : Int) (p q r : Bool) (x y z : Int) : Prop :=
  cur[k * 9]? = some (.int .i64 a) ∧ cur[k * 9 + 1]? = some (.int .i64 b) ∧ cur[k * 9 + 2]? = some (.int .i64 c) ∧
  cur[k * 9 + 3]? = some (.bool p) ∧ cur[k * 9 + 4]? = some (.bool q) ∧ cur[k * 9 + 5]? = some (.bool r) ∧
  cur[k * 9 + 6]? = some (.int .i64 x) ∧ cur[k * 9 + 7]? = some (.int .i64 y) ∧ cur[k * 9 + 8]? = some (.int .i64 z)
theorem set9 (cur : Array Value) (j : Nat) (h : j * 9 + 9 ≤ cur.size) (v0 v1 v2 v3 v4 v5 v6 v7 v8 : Value) :
    let C := ((((((((cur.setIfInBounds (j * 9) v0).setIfInBounds (j * 9 + 1) v1).setIfInBounds (j * 9 + 2) v2).setIfInBounds (j * 9 + 3) v3).setIfInBounds (j * 9 + 4) v4).setIfInBounds (j * 9 + 5) v5).setIfInBounds (j * 9 + 6) v6).setIfInBounds (j * 9 + 7) v7).setIfInBounds (j * 9 + 8) v8
    C.size = cur.size ∧ (∀ t, t < j * 9 → C[t]? = cur[t]?) ∧ C[j * 9]? = some v0 ∧ C[j * 9 + 1]? = some v1 ∧ C[j * 9 + 2]? = some v2 ∧ C[j * 9 + 3]? = some v3 ∧ C[j * 9 + 4]? = some v4 ∧ C[j * 9 + 5]? = some v5 ∧ C[j * 9 + 6]? = some v6 ∧ C[j * 9 + 7]? = some v7 ∧ C[j * 9 + 8]? = some v8 := by
  intro C
  refine ⟨by simp [C], fun t ht => ?_, ?_, ?_, ?_, ?_, ?_, ?_, ?_, ?_, ?_⟩
  · simp only [C, Array.getElem?_setIfInBounds]
    repeat rw [if_neg (by omega)]
  all_goals
    simp only [C, Array.getElem?_setIfInBounds, Array.size_setIfInBounds]
    repeat (first | rfl | rw [if_pos trivial] | rw [if_neg (by omega)] | rw [if_pos (by omega)])
/- marked: the numbers from 1 on, and every third one's bool -/
def Mrk (cur : Array Value) (n : Nat) : Prop := 48 * 9 ≤ cur.size ∧ ∀ i, i < n → NineC cur i (9 * i + 1) (9 * i + 2) (9 * i + 3) false false true (9 * i + 7) (9 * i + 8) (9 * i + 9)
theorem some_at {w : World} {g : Nat} {cur : Array Value} {T : TypeId} (h : Has w g cur T) (i : Nat) (hi : i < cur.size) : ∃ v, w.cell? ⟨g, i, none⟩ = some v := ⟨cur[i], by rw [Has.cell h]; exact Array.getElem?_eq_getElem hi⟩
theorem by_set {a w : World} {g : Nat} (h : a.grownBy w (some g)) (i : Nat) (v : Value) : a.grownBy (w.setCell ⟨g, i, none⟩ v) (some g) :=
  by_trans h ⟨rfl, rfl, rfl, by simp, fun k _ hne => Below.heap_setCell w ⟨g, i, none⟩ v k (fun e => hne (by rw [e]))⟩
attribute [local go_sem] VGo_value VGo_skip VGo_enter
end Go.Proofs.Ytbgcbolalbjepab
