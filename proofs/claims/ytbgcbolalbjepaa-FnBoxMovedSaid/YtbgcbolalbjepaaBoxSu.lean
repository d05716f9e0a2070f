import Derived.Test.YtbgcbolalbjepaaBox2u
import Derived.Test.YtbgcbolalbjepaaBox5u
import Derived.Test.YtbgcbolalbjepaaBox6u
import Derived.Test.YtbgcbolalbjepaaBoxEu
namespace Go.Proofs.Ytbgcbolalbjepaa
open Go.ChangeShapes Go.WideShapes Go.ChangeAt Go.RowKit
set_option linter.unusedSimpArgs false
set_option linter.unusedVariables false
set_option maxHeartbeats 4000000

/- a place is in a box just if the moved place is in the moved box -/
theorem mv_has {a b c p q r x y z u v t X Y Z U V T L1 L2 L3 M1 M2 M3 i j h I J H : Int} {k l n : Bool} (hp : Perm a b c) (e : MvE a b c k l n p q r x y z u v t X Y Z U V T L1 L2 L3 M1 M2 M3) (hl : Le3 x y z u v t) (ev : TuE a b c k l n i j h I J H) :
    (Le3 x y z i j h ∧ Le3 i j h u v t) ↔ (Le3 L1 L2 L3 (I + p) (J + q) (H + r) ∧ Le3 (I + p) (J + q) (H + r) M1 M2 M3) := by
  obtain ⟨⟨rfl, rfl, rfl⟩, ⟨rfl, rfl, rfl⟩, ⟨rfl, rfl, rfl⟩, ⟨rfl, rfl, rfl⟩⟩ := e
  obtain ⟨rfl, rfl, rfl⟩ := ev
  unfold Le3 at *
  rcases hp with ⟨rfl, rfl, rfl⟩ | ⟨rfl, rfl, rfl⟩ | ⟨rfl, rfl, rfl⟩ | ⟨rfl, rfl, rfl⟩ | ⟨rfl, rfl, rfl⟩ | ⟨rfl, rfl, rfl⟩ <;> cases k <;> cases l <;> cases n <;> simp [tu, sg, pk] <;> omega
theorem mv_cells {a b c p q r x y z u v t X Y Z U V T L1 L2 L3 M1 M2 M3 : Int} {k l n : Bool} (hp : Perm a b c) (e : MvE a b c k l n p q r x y z u v t X Y Z U V T L1 L2 L3 M1 M2 M3) (hl : Le3 x y z u v t) :
    (M1 - L1 + 1) * (M2 - L2 + 1) * (M3 - L3 + 1) = (u - x + 1) * (v - y + 1) * (t - z + 1) := by
  have ax : ∀ (d : Int) (k : Bool) (s g h : Int), d = s ∨ True → s ≤ g → max (sg k s + h) (sg k g + h) - min (sg k s + h) (sg k g + h) = g - s := fun d k s g h _ hs => by cases k <;> simp [sg] <;> omega
  obtain ⟨⟨rfl, rfl, rfl⟩, ⟨rfl, rfl, rfl⟩, ⟨rfl, rfl, rfl⟩, ⟨rfl, rfl, rfl⟩⟩ := e
  obtain ⟨h1, h2, h3⟩ := hl
  unfold tu
  rw [ax 0 k _ _ p (.inr trivial) (by rcases hp with ⟨rfl, rfl, rfl⟩ | ⟨rfl, rfl, rfl⟩ | ⟨rfl, rfl, rfl⟩ | ⟨rfl, rfl, rfl⟩ | ⟨rfl, rfl, rfl⟩ | ⟨rfl, rfl, rfl⟩ <;> simp [pk] <;> omega),
    ax 0 l _ _ q (.inr trivial) (by rcases hp with ⟨rfl, rfl, rfl⟩ | ⟨rfl, rfl, rfl⟩ | ⟨rfl, rfl, rfl⟩ | ⟨rfl, rfl, rfl⟩ | ⟨rfl, rfl, rfl⟩ | ⟨rfl, rfl, rfl⟩ <;> simp [pk] <;> omega),
    ax 0 n _ _ r (.inr trivial) (by rcases hp with ⟨rfl, rfl, rfl⟩ | ⟨rfl, rfl, rfl⟩ | ⟨rfl, rfl, rfl⟩ | ⟨rfl, rfl, rfl⟩ | ⟨rfl, rfl, rfl⟩ | ⟨rfl, rfl, rfl⟩ <;> simp [pk] <;> omega)]
  rcases hp with ⟨rfl, rfl, rfl⟩ | ⟨rfl, rfl, rfl⟩ | ⟨rfl, rfl, rfl⟩ | ⟨rfl, rfl, rfl⟩ | ⟨rfl, rfl, rfl⟩ | ⟨rfl, rfl, rfl⟩ <;> simp only [pk, if_true, if_false, Int.reduceEq] <;> grind
def BmvP (a b c : Int) (k l n : Bool) (p q r x y z u v t i j h : Int) : Prop := ∃ (n1 n2 n3 n4 n5 n6 : Int) (hb ob on : Bool),
  (∀ w, Calls Try.prog 33 #[.agg #[.int .i64 (a), .int .i64 (b), .int .i64 (c), .bool (k), .bool (l), .bool (n), .int .i64 (p), .int .i64 (q), .int .i64 (r)], .agg #[.int .i64 (x), .int .i64 (y), .int .i64 (z), .int .i64 (u), .int .i64 (v), .int .i64 (t)]] w fun e w' => e = .returned (.agg #[.int .i64 (n1), .int .i64 (n2), .int .i64 (n3), .int .i64 (n4), .int .i64 (n5), .int .i64 (n6)]) ∧ Below w.heap.size w w') ∧ (∀ w, Calls Try.prog 31 #[.agg #[.int .i64 (a), .int .i64 (b), .int .i64 (c), .bool (k), .bool (l), .bool (n), .int .i64 (p), .int .i64 (q), .int .i64 (r)], .agg #[.int .i64 (x), .int .i64 (y), .int .i64 (z), .int .i64 (u), .int .i64 (v), .int .i64 (t)]] w fun e w' => e = .returned (.agg #[.int .i64 (n1), .int .i64 (n2), .int .i64 (n3), .int .i64 (n4), .int .i64 (n5), .int .i64 (n6)]) ∧ Below w.heap.size w w') ∧ (∀ w, Calls Try.prog 22 #[.agg #[.int .i64 (x), .int .i64 (y), .int .i64 (z), .int .i64 (u), .int .i64 (v), .int .i64 (t)], .agg #[.int .i64 (i), .int .i64 (j), .int .i64 (h)]] w fun e w' => e = .returned (.bool hb) ∧ Below w.heap.size w w') ∧ (∀ w, Calls Try.prog 20 #[.agg #[.int .i64 (x), .int .i64 (y), .int .i64 (z), .int .i64 (u), .int .i64 (v), .int .i64 (t)], .agg #[.int .i64 (i), .int .i64 (j), .int .i64 (h)]] w fun e w' => e = .returned (.bool hb) ∧ Below w.heap.size w w') ∧
  (∀ w, Calls Try.prog 19 #[.agg #[.int .i64 (x), .int .i64 (y), .int .i64 (z), .int .i64 (u), .int .i64 (v), .int .i64 (t)]] w fun e w' => e = .returned (.bool ob) ∧ Below w.heap.size w w') ∧ (∀ w, Calls Try.prog 17 #[.agg #[.int .i64 (x), .int .i64 (y), .int .i64 (z), .int .i64 (u), .int .i64 (v), .int .i64 (t)]] w fun e w' => e = .returned (.bool ob) ∧ Below w.heap.size w w') ∧ (∀ w, Calls Try.prog 19 #[.agg #[.int .i64 (n1), .int .i64 (n2), .int .i64 (n3), .int .i64 (n4), .int .i64 (n5), .int .i64 (n6)]] w fun e w' => e = .returned (.bool on) ∧ Below w.heap.size w w') ∧
  (on = false ∨ (on = true ∧ (xeq n1 n2 n3 n4 n5 n6 0 0 0 0 0 0 = true ∨ (xeq n1 n2 n3 n4 n5 n6 0 0 0 0 0 0 = false ∧ ∃ t1 t2 t3 cb : Int, (∀ w, Calls Try.prog 56 #[.agg #[.int .i64 (a), .int .i64 (b), .int .i64 (c), .bool (k), .bool (l), .bool (n), .int .i64 (p), .int .i64 (q), .int .i64 (r)], .agg #[.int .i64 (i), .int .i64 (j), .int .i64 (h)]] w fun e w' => e = .returned (.agg #[.int .i64 (t1), .int .i64 (t2), .int .i64 (t3)]) ∧ Below w.heap.size w w') ∧ (∀ w, Calls Try.prog 22 #[.agg #[.int .i64 (n1), .int .i64 (n2), .int .i64 (n3), .int .i64 (n4), .int .i64 (n5), .int .i64 (n6)], .agg #[.int .i64 (t1), .int .i64 (t2), .int .i64 (t3)]] w fun e w' => e = .returned (.bool hb) ∧ Below w.heap.size w w') ∧ (∀ w, Calls Try.prog 40 #[.agg #[.int .i64 (n1), .int .i64 (n2), .int .i64 (n3), .int .i64 (n4), .int .i64 (n5), .int .i64 (n6)]] w fun e w' => e = .returned (.int .i64 cb) ∧ Below w.heap.size w w') ∧ (∀ w, Calls Try.prog 40 #[.agg #[.int .i64 (x), .int .i64 (y), .int .i64 (z), .int .i64 (u), .int .i64 (v), .int .i64 (t)]] w fun e w' => e = .returned (.int .i64 cb) ∧ Below w.heap.size w w')))))
theorem bmvP (a b c : Int) (k l n : Bool) (p q r x y z u v t i j h : Int) (hv : Vok i j h 100) : BmvP a b c k l n p q r x y z u v t i j h := by
  have has : ∃ hb, (∀ w, Calls Try.prog 22 #[.agg #[.int .i64 (x), .int .i64 (y), .int .i64 (z), .int .i64 (u), .int .i64 (v), .int .i64 (t)], .agg #[.int .i64 (i), .int .i64 (j), .int .i64 (h)]] w fun e w' => e = .returned (.bool hb) ∧ Below w.heap.size w w') ∧ (∀ w, Calls Try.prog 20 #[.agg #[.int .i64 (x), .int .i64 (y), .int .i64 (z), .int .i64 (u), .int .i64 (v), .int .i64 (t)], .agg #[.int .i64 (i), .int .i64 (j), .int .i64 (h)]] w fun e w' => e = .returned (.bool hb) ∧ Below w.heap.size w w') ∧ ((hb = true ∧ Xok x y z u v t ∧ Le3 x y z i j h ∧ Le3 i j h u v t) ∨ (hb = false ∧ ¬ (Xok x y z u v t ∧ Le3 x y z i j h ∧ Le3 i j h u v t))) := by
    by_cases hh : Xok x y z u v t ∧ Le3 x y z i j h ∧ Le3 i j h u v t
    · exact ⟨true, fun w => iboxHas_yes _ _ _ _ _ _ _ _ _ w hh.1 hh.2.1 hh.2.2, fun w => sboxHas_yes _ _ _ _ _ _ _ _ _ w hh.1 hh.2.1 hh.2.2, .inl ⟨rfl, hh⟩⟩
    · exact ⟨false, fun w => iboxHas_no _ _ _ _ _ _ _ _ _ w hh, fun w => sboxHas_no _ _ _ _ _ _ _ _ _ w hh, .inr ⟨rfl, hh⟩⟩
  obtain ⟨hb, hi, hs, hbv⟩ := has
  have ok : ∃ ob, (∀ w, Calls Try.prog 19 #[.agg #[.int .i64 (x), .int .i64 (y), .int .i64 (z), .int .i64 (u), .int .i64 (v), .int .i64 (t)]] w fun e w' => e = .returned (.bool ob) ∧ Below w.heap.size w w') ∧ (∀ w, Calls Try.prog 17 #[.agg #[.int .i64 (x), .int .i64 (y), .int .i64 (z), .int .i64 (u), .int .i64 (v), .int .i64 (t)]] w fun e w' => e = .returned (.bool ob) ∧ Below w.heap.size w w') := by
    by_cases hh : Xok x y z u v t
    · exact ⟨true, fun w => iboxOk_yes _ _ _ _ _ _ w hh, fun w => sboxOk_yes _ _ _ _ _ _ w hh⟩
    · exact ⟨false, fun w => iboxOk_no _ _ _ _ _ _ w hh, fun w => sboxOk_no _ _ _ _ _ _ w hh⟩
  obtain ⟨ob, oi, os⟩ := ok
  have z0 : Xok 0 0 0 0 0 0 := by unfold Xok Vok Le3; omega
  by_cases hm : Mok a b c p q r ∧ Xok x y z u v t
  · obtain ⟨hm, hx⟩ := hm
    obtain ⟨X, Y, Z, U, V, T, L1, L2, L3, M1, M2, M3, e⟩ := mvE a b c k l n p q r x y z u v t
    by_cases ho : Xok L1 L2 L3 M1 M2 M3
    · refine ⟨_, _, _, _, _, _, hb, ob, true, fun w => iboxMoved_yes _ _ _ _ _ _ _ _ _ _ _ _ _ _ _ _ _ _ _ _ _ _ _ _ _ _ _ w hm hx e ho, fun w => sboxMoved_yes _ _ _ _ _ _ _ _ _ _ _ _ _ _ _ _ _ _ _ _ _ _ _ _ _ _ _ w hm hx e ho, hi, hs, oi, os, fun w => iboxOk_yes _ _ _ _ _ _ w ho, .inr ⟨rfl, ?_⟩⟩
      cases hq : xeq L1 L2 L3 M1 M2 M3 0 0 0 0 0 0
      · refine .inr ⟨rfl, ?_⟩
        have hvt : Vok i j h 1048576 := by unfold Vok at *; omega
        have ht : TuE a b c k l n i j h (tu a k i j h) (tu b l i j h) (tu c n i j h) := ⟨rfl, rfl, rfl⟩
        have hiff := mv_has hm.1 e hx.2.2 ht
        have hc := mv_cells hm.1 e hx.2.2
        refine ⟨_, _, _, _, fun w => iMoved_yes _ _ _ _ _ _ _ _ _ _ _ _ _ _ _ w hm hvt ht, fun w => ?_, fun w => iboxCells_yes _ _ _ _ _ _ _ _ _ w ho (clE ho), fun w => ?_⟩
        · rcases hbv with ⟨rfl, -, h1⟩ | ⟨rfl, h1⟩
          · exact iboxHas_yes _ _ _ _ _ _ _ _ _ w ho (hiff.1 h1).1 (hiff.1 h1).2
          · exact iboxHas_no _ _ _ _ _ _ _ _ _ w fun hh => h1 ⟨hx, hiff.2 hh.2⟩
        · rw [hc]; exact iboxCells_yes _ _ _ _ _ _ _ _ _ w hx (clE hx)
      · exact .inl rfl
    · exact ⟨0, 0, 0, 0, 0, 0, hb, ob, true, fun w => iboxMoved_far _ _ _ _ _ _ _ _ _ _ _ _ _ _ _ _ _ _ _ _ _ _ _ _ _ _ _ w hm hx e ho, fun w => sboxMoved_far _ _ _ _ _ _ _ _ _ _ _ _ _ _ _ _ _ _ _ _ _ _ _ _ _ _ _ w hm hx e ho, hi, hs, oi, os, fun w => iboxOk_yes _ _ _ _ _ _ w z0, .inr ⟨rfl, .inl (xeq_self _ _ _ _ _ _)⟩⟩
  · exact ⟨0, 0, 0, 0, 0, 0, hb, ob, true, fun w => iboxMoved_no _ _ _ _ _ _ _ _ _ _ _ _ _ _ _ w hm, fun w => sboxMoved_no _ _ _ _ _ _ _ _ _ _ _ _ _ _ _ w hm, hi, hs, oi, os, fun w => iboxOk_yes _ _ _ _ _ _ w z0, .inr ⟨rfl, .inl (xeq_self _ _ _ _ _ _)⟩⟩
end Go.Proofs.Ytbgcbolalbjepaa
