import Derived.Test.YtbgcbolalbjepaaBox2q
import Derived.Test.YtbgcbolalbjepaaBox5q
import Derived.Test.YtbgcbolalbjepaaBoxEq
import Derived.Test.YtbgcbolalbjepaaBoxWq
namespace Go.Proofs.Ytbgcbolalbjepaa
open Go.ChangeShapes Go.WideShapes Go.ChangeAt Go.RowKit
set_option linter.unusedSimpArgs false
set_option linter.unusedVariables false
set_option maxHeartbeats 4000000
attribute [-go_sem] run_eql_struct run_neq_struct
attribute [local go_sem] VGo_value VGo_skip VGo_enter eqlBox neqBox xeq_self

/- what the law asks of two boxes, in words of what the functions answer -/
def BxsP (a b c x y z p q r u v t : Int) : Prop := ∃ (m1 m2 m3 m4 m5 m6 j1 j2 j3 j4 j5 j6 ca cb cm cj : Int) (k oa ob : Bool),
  (∀ w, Calls Try.prog 27 #[.agg #[.int .i64 (a), .int .i64 (b), .int .i64 (c), .int .i64 (x), .int .i64 (y), .int .i64 (z)], .agg #[.int .i64 (p), .int .i64 (q), .int .i64 (r), .int .i64 (u), .int .i64 (v), .int .i64 (t)]] w fun e w' => e = .returned (.tuple #[.agg #[.int .i64 (m1), .int .i64 (m2), .int .i64 (m3), .int .i64 (m4), .int .i64 (m5), .int .i64 (m6)], .bool k]) ∧ Below w.heap.size w w') ∧ (∀ w, Calls Try.prog 26 #[.agg #[.int .i64 (a), .int .i64 (b), .int .i64 (c), .int .i64 (x), .int .i64 (y), .int .i64 (z)], .agg #[.int .i64 (p), .int .i64 (q), .int .i64 (r), .int .i64 (u), .int .i64 (v), .int .i64 (t)]] w fun e w' => e = .returned (.tuple #[.agg #[.int .i64 (m1), .int .i64 (m2), .int .i64 (m3), .int .i64 (m4), .int .i64 (m5), .int .i64 (m6)], .bool k]) ∧ Below w.heap.size w w') ∧
  (∀ w, Calls Try.prog 30 #[.agg #[.int .i64 (a), .int .i64 (b), .int .i64 (c), .int .i64 (x), .int .i64 (y), .int .i64 (z)], .agg #[.int .i64 (p), .int .i64 (q), .int .i64 (r), .int .i64 (u), .int .i64 (v), .int .i64 (t)]] w fun e w' => e = .returned (.agg #[.int .i64 (j1), .int .i64 (j2), .int .i64 (j3), .int .i64 (j4), .int .i64 (j5), .int .i64 (j6)]) ∧ Below w.heap.size w w') ∧ (∀ w, Calls Try.prog 29 #[.agg #[.int .i64 (a), .int .i64 (b), .int .i64 (c), .int .i64 (x), .int .i64 (y), .int .i64 (z)], .agg #[.int .i64 (p), .int .i64 (q), .int .i64 (r), .int .i64 (u), .int .i64 (v), .int .i64 (t)]] w fun e w' => e = .returned (.agg #[.int .i64 (j1), .int .i64 (j2), .int .i64 (j3), .int .i64 (j4), .int .i64 (j5), .int .i64 (j6)]) ∧ Below w.heap.size w w') ∧
  (∀ w, Calls Try.prog 40 #[.agg #[.int .i64 (a), .int .i64 (b), .int .i64 (c), .int .i64 (x), .int .i64 (y), .int .i64 (z)]] w fun e w' => e = .returned (.int .i64 ca) ∧ Below w.heap.size w w') ∧ (∀ w, Calls Try.prog 39 #[.agg #[.int .i64 (a), .int .i64 (b), .int .i64 (c), .int .i64 (x), .int .i64 (y), .int .i64 (z)]] w fun e w' => e = .returned (.int .i64 ca) ∧ Below w.heap.size w w') ∧
  (∀ w, Calls Try.prog 19 #[.agg #[.int .i64 (a), .int .i64 (b), .int .i64 (c), .int .i64 (x), .int .i64 (y), .int .i64 (z)]] w fun e w' => e = .returned (.bool oa) ∧ Below w.heap.size w w') ∧ (∀ w, Calls Try.prog 19 #[.agg #[.int .i64 (p), .int .i64 (q), .int .i64 (r), .int .i64 (u), .int .i64 (v), .int .i64 (t)]] w fun e w' => e = .returned (.bool ob) ∧ Below w.heap.size w w') ∧
  (((oa = false ∨ (oa = true ∧ ob = false)) ∧ k = false ∧ j1 = 0 ∧ j2 = 0 ∧ j3 = 0 ∧ j4 = 0 ∧ j5 = 0 ∧ j6 = 0) ∨
   (oa = true ∧ ob = true ∧ (∀ w, Calls Try.prog 35 #[.agg #[.int .i64 (a), .int .i64 (b), .int .i64 (c), .int .i64 (x), .int .i64 (y), .int .i64 (z)], .agg #[.int .i64 (j1), .int .i64 (j2), .int .i64 (j3), .int .i64 (j4), .int .i64 (j5), .int .i64 (j6)]] w fun e w' => e = .returned (.bool true) ∧ Below w.heap.size w w') ∧ (∀ w, Calls Try.prog 35 #[.agg #[.int .i64 (p), .int .i64 (q), .int .i64 (r), .int .i64 (u), .int .i64 (v), .int .i64 (t)], .agg #[.int .i64 (j1), .int .i64 (j2), .int .i64 (j3), .int .i64 (j4), .int .i64 (j5), .int .i64 (j6)]] w fun e w' => e = .returned (.bool true) ∧ Below w.heap.size w w') ∧ (∀ w, Calls Try.prog 40 #[.agg #[.int .i64 (p), .int .i64 (q), .int .i64 (r), .int .i64 (u), .int .i64 (v), .int .i64 (t)]] w fun e w' => e = .returned (.int .i64 cb) ∧ Below w.heap.size w w') ∧ (∀ w, Calls Try.prog 40 #[.agg #[.int .i64 (j1), .int .i64 (j2), .int .i64 (j3), .int .i64 (j4), .int .i64 (j5), .int .i64 (j6)]] w fun e w' => e = .returned (.int .i64 cj) ∧ Below w.heap.size w w') ∧ (0 ≤ ca ∧ ca ≤ 4103684801) ∧ (0 ≤ cb ∧ cb ≤ 4103684801) ∧ (0 ≤ cj ∧ cj ≤ 4103684801) ∧
    ((k = false ∧ xeq a b c x y z p q r u v t = false) ∨ (k = true ∧ (∀ w, Calls Try.prog 35 #[.agg #[.int .i64 (m1), .int .i64 (m2), .int .i64 (m3), .int .i64 (m4), .int .i64 (m5), .int .i64 (m6)], .agg #[.int .i64 (a), .int .i64 (b), .int .i64 (c), .int .i64 (x), .int .i64 (y), .int .i64 (z)]] w fun e w' => e = .returned (.bool true) ∧ Below w.heap.size w w') ∧ (∀ w, Calls Try.prog 35 #[.agg #[.int .i64 (m1), .int .i64 (m2), .int .i64 (m3), .int .i64 (m4), .int .i64 (m5), .int .i64 (m6)], .agg #[.int .i64 (p), .int .i64 (q), .int .i64 (r), .int .i64 (u), .int .i64 (v), .int .i64 (t)]] w fun e w' => e = .returned (.bool true) ∧ Below w.heap.size w w') ∧ (∀ w, Calls Try.prog 22 #[.agg #[.int .i64 (a), .int .i64 (b), .int .i64 (c), .int .i64 (x), .int .i64 (y), .int .i64 (z)], .agg #[.int .i64 (m1), .int .i64 (m2), .int .i64 (m3)]] w fun e w' => e = .returned (.bool true) ∧ Below w.heap.size w w') ∧ (∀ w, Calls Try.prog 22 #[.agg #[.int .i64 (p), .int .i64 (q), .int .i64 (r), .int .i64 (u), .int .i64 (v), .int .i64 (t)], .agg #[.int .i64 (m4), .int .i64 (m5), .int .i64 (m6)]] w fun e w' => e = .returned (.bool true) ∧ Below w.heap.size w w') ∧ (∀ w, Calls Try.prog 40 #[.agg #[.int .i64 (m1), .int .i64 (m2), .int .i64 (m3), .int .i64 (m4), .int .i64 (m5), .int .i64 (m6)]] w fun e w' => e = .returned (.int .i64 cm) ∧ Below w.heap.size w w') ∧ (0 ≤ cm ∧ cm ≤ 4103684801) ∧ ca + cb ≤ cj + cm ∧ (xeq a b c x y z p q r u v t = false ∨ (xeq a b c x y z p q r u v t = true ∧ m1 = a ∧ m2 = b ∧ m3 = c ∧ m4 = x ∧ m5 = y ∧ m6 = z ∧ cb ≤ cj))))))
theorem cellsB {a b c x y z : Int} (h : Xok a b c x y z) : 0 ≤ (x - a + 1) * (y - b + 1) * (z - c + 1) ∧ (x - a + 1) * (y - b + 1) * (z - c + 1) ≤ 4103684801 := by
  obtain ⟨_, ⟨p1, p2⟩, ⟨q1, q2⟩, r1, r2⟩ := clE h
  have m1 := mulU (P := x - a + 1) (Q := y - b + 1) (m := 1601) (k := 1601) (by omega) (by omega) (by omega) (by omega)
  have m2 := mulU (P := (x - a + 1) * (y - b + 1)) (Q := z - c + 1) (m := 2563201) (k := 1601) m1.1 (by omega) (by omega) (by omega)
  omega
theorem bxsP (a b c x y z p q r u v t : Int) : BxsP a b c x y z p q r u v t := by
  by_cases h : Xok a b c x y z ∧ Xok p q r u v t
  · obtain ⟨h1, h2⟩ := h
    have e : BothE a b c x y z p q r u v t (max a p) (max b q) (max c r) (min x u) (min y v) (min z t) := ⟨⟨rfl, rfl, rfl⟩, rfl, rfl, rfl⟩
    have f : JoinE a b c x y z p q r u v t (min a p) (min b q) (min c r) (max x u) (max y v) (max z t) := ⟨⟨rfl, rfl, rfl⟩, rfl, rfl, rfl⟩
    have hj : Xok (min a p) (min b q) (min c r) (max x u) (max y v) (max z t) := by unfold Xok Vok Le3 at *; omega
    have i1 : XinP a b c x y z (min a p) (min b q) (min c r) (max x u) (max y v) (max z t) := ⟨h1, hj, by unfold Le3; omega, by unfold Le3; omega⟩
    have i2 : XinP p q r u v t (min a p) (min b q) (min c r) (max x u) (max y v) (max z t) := ⟨h2, hj, by unfold Le3; omega, by unfold Le3; omega⟩
    by_cases ho : Xok (max a p) (max b q) (max c r) (min x u) (min y v) (min z t)
    · refine ⟨_, _, _, _, _, _, _, _, _, _, _, _, _, _, _, _, true, true, true, fun w => iboxBoth_yes _ _ _ _ _ _ _ _ _ _ _ _ _ _ _ _ _ _ w h1 h2 e ho, fun w => sboxBoth_yes _ _ _ _ _ _ _ _ _ _ _ _ _ _ _ _ _ _ w h1 h2 e ho,
        fun w => iboxJoin_yes _ _ _ _ _ _ _ _ _ _ _ _ _ _ _ _ _ _ w h1 h2 f, fun w => sboxJoin_yes _ _ _ _ _ _ _ _ _ _ _ _ _ _ _ _ _ _ w h1 h2 f, fun w => iboxCells_yes _ _ _ _ _ _ _ _ _ w h1 (clE h1), fun w => sboxCells_yes _ _ _ _ _ _ _ _ _ w h1 (clE h1),
        fun w => iboxOk_yes _ _ _ _ _ _ w h1, fun w => iboxOk_yes _ _ _ _ _ _ w h2, .inr ⟨rfl, rfl, fun w => iboxIn_yes _ _ _ _ _ _ _ _ _ _ _ _ w i1, fun w => iboxIn_yes _ _ _ _ _ _ _ _ _ _ _ _ w i2, fun w => iboxCells_yes _ _ _ _ _ _ _ _ _ w h2 (clE h2), fun w => iboxCells_yes _ _ _ _ _ _ _ _ _ w hj (clE hj),
          cellsB h1, cellsB h2, cellsB hj, .inr ⟨rfl, fun w => iboxIn_yes _ _ _ _ _ _ _ _ _ _ _ _ w ⟨ho, h1, by unfold Le3; omega, by unfold Le3; omega⟩, fun w => iboxIn_yes _ _ _ _ _ _ _ _ _ _ _ _ w ⟨ho, h2, by unfold Le3; omega, by unfold Le3; omega⟩,
            fun w => iboxHas_yes _ _ _ _ _ _ _ _ _ w h1 (by unfold Le3; omega) (by unfold Xok Le3 at *; omega), fun w => iboxHas_yes _ _ _ _ _ _ _ _ _ w h2 (by unfold Xok Le3 at *; omega) (by unfold Le3; omega), fun w => iboxCells_yes _ _ _ _ _ _ _ _ _ w ho (clE ho), cellsB ho, ?_, ?_⟩⟩⟩
      · have o1 := ho.2.2
        unfold Le3 at o1
        exact cells3 (by omega) (by omega) (by omega) (by have := h1.2.2; have := h2.2.2; unfold Le3 at *; omega) (by have := h1.2.2; have := h2.2.2; unfold Le3 at *; omega) (by have := h1.2.2; have := h2.2.2; unfold Le3 at *; omega)
      · cases hq : xeq a b c x y z p q r u v t
        · exact .inl rfl
        · obtain ⟨rfl, rfl, rfl, rfl, rfl, rfl⟩ := (xeq_iff _ _ _ _ _ _ _ _ _ _ _ _).1 hq
          exact .inr ⟨rfl, by omega, by omega, by omega, by omega, by omega, by omega, by simp⟩
    · refine ⟨0, 0, 0, 0, 0, 0, _, _, _, _, _, _, _, _, 0, _, false, true, true, fun w => iboxBoth_far _ _ _ _ _ _ _ _ _ _ _ _ _ _ _ _ _ _ w h1 h2 e ho, fun w => sboxBoth_far _ _ _ _ _ _ _ _ _ _ _ _ _ _ _ _ _ _ w h1 h2 e ho,
        fun w => iboxJoin_yes _ _ _ _ _ _ _ _ _ _ _ _ _ _ _ _ _ _ w h1 h2 f, fun w => sboxJoin_yes _ _ _ _ _ _ _ _ _ _ _ _ _ _ _ _ _ _ w h1 h2 f, fun w => iboxCells_yes _ _ _ _ _ _ _ _ _ w h1 (clE h1), fun w => sboxCells_yes _ _ _ _ _ _ _ _ _ w h1 (clE h1),
        fun w => iboxOk_yes _ _ _ _ _ _ w h1, fun w => iboxOk_yes _ _ _ _ _ _ w h2, .inr ⟨rfl, rfl, fun w => iboxIn_yes _ _ _ _ _ _ _ _ _ _ _ _ w i1, fun w => iboxIn_yes _ _ _ _ _ _ _ _ _ _ _ _ w i2, fun w => iboxCells_yes _ _ _ _ _ _ _ _ _ w h2 (clE h2), fun w => iboxCells_yes _ _ _ _ _ _ _ _ _ w hj (clE hj),
          cellsB h1, cellsB h2, cellsB hj, .inl ⟨rfl, ?_⟩⟩⟩
      cases hq : xeq a b c x y z p q r u v t
      · rfl
      · obtain ⟨rfl, rfl, rfl, rfl, rfl, rfl⟩ := (xeq_iff _ _ _ _ _ _ _ _ _ _ _ _).1 hq
        exfalso
        apply ho
        rw [Int.max_self, Int.max_self, Int.max_self, Int.min_self, Int.min_self, Int.min_self]
        exact h1
  · have cell : ∃ ca, (∀ w, Calls Try.prog 40 #[.agg #[.int .i64 (a), .int .i64 (b), .int .i64 (c), .int .i64 (x), .int .i64 (y), .int .i64 (z)]] w fun e w' => e = .returned (.int .i64 ca) ∧ Below w.heap.size w w') ∧ (∀ w, Calls Try.prog 39 #[.agg #[.int .i64 (a), .int .i64 (b), .int .i64 (c), .int .i64 (x), .int .i64 (y), .int .i64 (z)]] w fun e w' => e = .returned (.int .i64 ca) ∧ Below w.heap.size w w') := by
      by_cases h1 : Xok a b c x y z
      · exact ⟨_, fun w => iboxCells_yes _ _ _ _ _ _ _ _ _ w h1 (clE h1), fun w => sboxCells_yes _ _ _ _ _ _ _ _ _ w h1 (clE h1)⟩
      · exact ⟨0, fun w => iboxCells_no _ _ _ _ _ _ w h1, fun w => sboxCells_no _ _ _ _ _ _ w h1⟩
    obtain ⟨ca, hci, hcs⟩ := cell
    have ok : ∃ oa ob, (∀ w, Calls Try.prog 19 #[.agg #[.int .i64 (a), .int .i64 (b), .int .i64 (c), .int .i64 (x), .int .i64 (y), .int .i64 (z)]] w fun e w' => e = .returned (.bool oa) ∧ Below w.heap.size w w') ∧ (∀ w, Calls Try.prog 19 #[.agg #[.int .i64 (p), .int .i64 (q), .int .i64 (r), .int .i64 (u), .int .i64 (v), .int .i64 (t)]] w fun e w' => e = .returned (.bool ob) ∧ Below w.heap.size w w') ∧ (oa = false ∨ (oa = true ∧ ob = false)) := by
      by_cases h1 : Xok a b c x y z
      · have h2 : ¬ Xok p q r u v t := fun k => h ⟨h1, k⟩
        exact ⟨true, false, fun w => iboxOk_yes _ _ _ _ _ _ w h1, fun w => iboxOk_no _ _ _ _ _ _ w h2, .inr ⟨rfl, rfl⟩⟩
      · by_cases h2 : Xok p q r u v t
        · exact ⟨false, true, fun w => iboxOk_no _ _ _ _ _ _ w h1, fun w => iboxOk_yes _ _ _ _ _ _ w h2, .inl rfl⟩
        · exact ⟨false, false, fun w => iboxOk_no _ _ _ _ _ _ w h1, fun w => iboxOk_no _ _ _ _ _ _ w h2, .inl rfl⟩
    obtain ⟨oa, ob, hoa, hob, hab⟩ := ok
    exact ⟨0, 0, 0, 0, 0, 0, 0, 0, 0, 0, 0, 0, ca, 0, 0, 0, false, oa, ob, fun w => iboxBoth_no _ _ _ _ _ _ _ _ _ _ _ _ w h, fun w => sboxBoth_no _ _ _ _ _ _ _ _ _ _ _ _ w h,
      fun w => iboxJoin_no _ _ _ _ _ _ _ _ _ _ _ _ w h, fun w => sboxJoin_no _ _ _ _ _ _ _ _ _ _ _ _ w h, hci, hcs, hoa, hob, .inl ⟨hab, rfl, rfl, rfl, rfl, rfl, rfl, rfl⟩⟩
end Go.Proofs.Ytbgcbolalbjepaa
