import Derived.Deep.Cut
import Derived.LoopN
import Derived.Test.YtbgcbolalbjepaaEndu
import Derived.Test.YtbgcbolalbjepaaMotMu
import Derived.Test.YtbgcbolalbjepaaMotR0u
import Derived.Test.YtbgcbolalbjepaaUndu
namespace Go.Proofs.Ytbgcbolalbjepaa
open Go.ChangeShapes Go.WideShapes Go.ChangeAt Go.RowKit
set_option maxHeartbeats 2000000

theorem mrow_shape {w : World} {B n : Nat} {v : Value} (h : MRow w B v (n + 1)) : ∃ g cap cur, v = .slice (some ⟨g, 0, none⟩) (n + 1) cap ∧ B ≤ g ∧ Has w g cur 54 ∧ (n + 1) * 9 ≤ cur.size ∧ ∀ i c, i < n + 1 → c < 9 → cur[i * 9 + c]? = (moN i)[c]? := by
  rcases h.2 with ⟨_, h0⟩ | ⟨g, cap, cur, rfl, hB, hg, hn, _, hs, ht⟩
  · omega
  · refine ⟨g, cap, cur, rfl, hB, hg, by rw [hs]; exact Nat.mul_le_mul_right _ hn, fun i c hi hc => ?_⟩
    rw [← mots_get (n + 1) i c hi hc, ← ht, List.getElem?_take, if_pos (by omega)]
    simp
/- the nine cells of a motion in a block -/
def Nine (w : World) (g k : Nat) (a b c : Int) (p q r : Bool) (x y z : Int) : Prop :=
  w.cell? ⟨g, k * 9, none⟩ = some (.int .i64 a) ∧ w.cell? ⟨g, k * 9 + 1, none⟩ = some (.int .i64 b) ∧ w.cell? ⟨g, k * 9 + 2, none⟩ = some (.int .i64 c) ∧
  w.cell? ⟨g, k * 9 + 3, none⟩ = some (.bool p) ∧ w.cell? ⟨g, k * 9 + 4, none⟩ = some (.bool q) ∧ w.cell? ⟨g, k * 9 + 5, none⟩ = some (.bool r) ∧
  w.cell? ⟨g, k * 9 + 6, none⟩ = some (.int .i64 x) ∧ w.cell? ⟨g, k * 9 + 7, none⟩ = some (.int .i64 y) ∧ w.cell? ⟨g, k * 9 + 8, none⟩ = some (.int .i64 z)
def Mots (cur : Array Value) : Prop := 48 * 9 ≤ cur.size ∧ ∀ i c, i < 48 → c < 9 → cur[i * 9 + c]? = (moN i)[c]?
theorem nine_of {w : World} {g k : Nat} {cur : Array Value} {T : TypeId} (h : Has w g cur T) (hm : Mots cur) (hk : k < 48) :
    Nine w g k (axs (k / 8)).1 (axs (k / 8)).2.1 (axs (k / 8)).2.2 (bt (k % 8) 0) (bt (k % 8) 1) (bt (k % 8) 2) 0 0 0 := by
  have C := Has.cell h
  refine ⟨?_, ?_, ?_, ?_, ?_, ?_, ?_, ?_, ?_⟩ <;> rw [C]
  · exact hm.2 k 0 hk (by omega)
  · exact hm.2 k 1 hk (by omega)
  · exact hm.2 k 2 hk (by omega)
  · exact hm.2 k 3 hk (by omega)
  · exact hm.2 k 4 hk (by omega)
  · exact hm.2 k 5 hk (by omega)
  · exact hm.2 k 6 hk (by omega)
  · exact hm.2 k 7 hk (by omega)
  · exact hm.2 k 8 hk (by omega)
attribute [local go_sem] VGo_value VGo_skip VGo_enter
end Go.Proofs.Ytbgcbolalbjepaa
