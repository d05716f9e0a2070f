import Derived.Test.YtckenfomnenknaaBoxDv
import Derived.Test.YtckenfomnenknaaBoxHv
import Derived.Test.YtckenfomnenknaaHlfv
namespace Go.Proofs.Ytckenfomnenknaa
open Go.ChangeShapes Go.WideShapes Go.ChangeAt Go.RowKit
set_option linter.unusedSimpArgs false
set_option linter.unusedVariables false
set_option maxHeartbeats 4000000

def accA (xs : Nat → Int) : Nat → Int
  | 0 => -1073741824
  | j + 1 => max (accA xs j) (xs j)
def accZ (ys : Nat → Int) : Nat → Int
  | 0 => 1073741824
  | j + 1 => min (accZ ys j) (ys j)
theorem mxx (e a b : Int) : max (max e a) b = max e (max a b) := by omega
theorem mnn (e a b : Int) : min (min e a) b = min e (min a b) := by omega
def lst6 (x1 x2 x3 x4 x5 x6 : Int) : Nat → Int
  | 0 => x1
  | 1 => x2
  | 2 => x3
  | 3 => x4
  | 4 => x5
  | _ => x6
def BctP (a b c x y z p q r u v t : Int) : Prop := ∃ (X Y : Int) (ob orr : Bool) (H : List Qd),
  (∀ w, Calls Try.prog 11 #[.agg #[.int .i64 (a), .int .i64 (b), .int .i64 (c), .int .i64 (x), .int .i64 (y), .int .i64 (z)], .agg #[.int .i64 (p), .int .i64 (q), .int .i64 (r), .int .i64 (u), .int .i64 (v), .int .i64 (t)]] w fun e w' => e = .returned (.tuple #[.int .i64 (X), .int .i64 (Y)]) ∧ Below w.heap.size w w') ∧ (∀ w, Calls Try.prog 12 #[.agg #[.int .i64 (a), .int .i64 (b), .int .i64 (c), .int .i64 (x), .int .i64 (y), .int .i64 (z)], .agg #[.int .i64 (p), .int .i64 (q), .int .i64 (r), .int .i64 (u), .int .i64 (v), .int .i64 (t)]] w fun e w' => e = .returned (.tuple #[.int .i64 (X), .int .i64 (Y)]) ∧ Below w.heap.size w w') ∧ (∀ w, Calls Try.prog 13 #[.agg #[.int .i64 (a), .int .i64 (b), .int .i64 (c), .int .i64 (x), .int .i64 (y), .int .i64 (z)]] w fun e w' => e = .returned (.bool ob) ∧ Below w.heap.size w w') ∧ (∀ w, Calls Try.prog 14 #[.agg #[.int .i64 (a), .int .i64 (b), .int .i64 (c), .int .i64 (x), .int .i64 (y), .int .i64 (z)]] w fun e w' => e = .returned (.bool ob) ∧ Below w.heap.size w w') ∧ (∀ w, Calls Try.prog 16 #[.agg #[.int .i64 (p), .int .i64 (q), .int .i64 (r), .int .i64 (u), .int .i64 (v), .int .i64 (t)]] w fun e w' => e = .returned (.bool orr) ∧ Below w.heap.size w w') ∧
  (∀ w, Calls Try.prog 15 #[.agg #[.int .i64 (a), .int .i64 (b), .int .i64 (c), .int .i64 (x), .int .i64 (y), .int .i64 (z)]] w fun e w' => ∃ v, e = .returned v ∧ HRow w' w.heap.size v H ∧ Below w.heap.size w w') ∧
  ((ob = false ∧ H.length = 0 ∧ X = 0 ∧ Y = 0) ∨ (ob = true ∧ H.length = 6 ∧ ((orr = false ∧ X = 0 ∧ Y = 0) ∨ (orr = true ∧ ∃ xs ys : Nat → Int,
    (∀ j (h : j < H.length), ∀ w, Calls Try.prog 17 #[H[j].val, .agg #[.int .i64 (p), .int .i64 (q), .int .i64 (r), .int .i64 (u), .int .i64 (v), .int .i64 (t)]] w fun e w' => e = .returned (.tuple #[.int .i64 (xs j), .int .i64 (ys j)]) ∧ Below w.heap.size w w') ∧ (∀ j, j < 6 → xs j = ys j → X = 0 ∧ Y = 0) ∧ LfE (accA xs 6) (accZ ys 6) X Y))))
theorem bctP (a b c x y z p q r u v t : Int) : BctP a b c x y z p q r u v t := by
  by_cases hx : Xok a b c x y z
  · by_cases hr : Rok p q r u v t
    · obtain ⟨X1, Y1, X2, Y2, X3, Y3, G1, D1, G2, D2, G3, D3, X, Y, e⟩ := xcE a b c x y z p q r u v t
      have e' := e
      obtain ⟨⟨s1, s2, s3⟩, hc, hl⟩ := e
      have v1 := hx.1
      have v2 := hx.2.1
      have v3 := hr.1
      unfold Vok at v1 v2 v3
      obtain ⟨x1, y1, c1⟩ := cutE (-a) (-p) (-u) (((-a - -p) * 4096).fdiv (-u))
      have K1 : ∀ w, Calls Try.prog 17 #[.agg #[.int .i64 (-1), .int .i64 (0), .int .i64 (0), .int .i64 (-a)], .agg #[.int .i64 (p), .int .i64 (q), .int .i64 (r), .int .i64 (u), .int .i64 (v), .int .i64 (t)]] w fun e w' => e = .returned (.tuple #[.int .i64 (x1), .int .i64 (y1)]) ∧ Below w.heap.size w w' := fun w =>
        ihalfCut_yes (-1) (0) (0) (-a) p q r u v t (-p) (-u) _ x1 y1 w (by unfold Hok Vok; omega) hr (by unfold dot3; omega) (by unfold dot3; omega) rfl c1
      obtain ⟨x2, y2, c2⟩ := cutE (x) (p) (u) (((x - p) * 4096).fdiv (u))
      have K2 : ∀ w, Calls Try.prog 17 #[.agg #[.int .i64 (1), .int .i64 (0), .int .i64 (0), .int .i64 (x)], .agg #[.int .i64 (p), .int .i64 (q), .int .i64 (r), .int .i64 (u), .int .i64 (v), .int .i64 (t)]] w fun e w' => e = .returned (.tuple #[.int .i64 (x2), .int .i64 (y2)]) ∧ Below w.heap.size w w' := fun w =>
        ihalfCut_yes (1) (0) (0) (x) p q r u v t (p) (u) _ x2 y2 w (by unfold Hok Vok; omega) hr (by unfold dot3; omega) (by unfold dot3; omega) rfl c2
      obtain ⟨x3, y3, c3⟩ := cutE (-b) (-q) (-v) (((-b - -q) * 4096).fdiv (-v))
      have K3 : ∀ w, Calls Try.prog 17 #[.agg #[.int .i64 (0), .int .i64 (-1), .int .i64 (0), .int .i64 (-b)], .agg #[.int .i64 (p), .int .i64 (q), .int .i64 (r), .int .i64 (u), .int .i64 (v), .int .i64 (t)]] w fun e w' => e = .returned (.tuple #[.int .i64 (x3), .int .i64 (y3)]) ∧ Below w.heap.size w w' := fun w =>
        ihalfCut_yes (0) (-1) (0) (-b) p q r u v t (-q) (-v) _ x3 y3 w (by unfold Hok Vok; omega) hr (by unfold dot3; omega) (by unfold dot3; omega) rfl c3
      obtain ⟨x4, y4, c4⟩ := cutE (y) (q) (v) (((y - q) * 4096).fdiv (v))
      have K4 : ∀ w, Calls Try.prog 17 #[.agg #[.int .i64 (0), .int .i64 (1), .int .i64 (0), .int .i64 (y)], .agg #[.int .i64 (p), .int .i64 (q), .int .i64 (r), .int .i64 (u), .int .i64 (v), .int .i64 (t)]] w fun e w' => e = .returned (.tuple #[.int .i64 (x4), .int .i64 (y4)]) ∧ Below w.heap.size w w' := fun w =>
        ihalfCut_yes (0) (1) (0) (y) p q r u v t (q) (v) _ x4 y4 w (by unfold Hok Vok; omega) hr (by unfold dot3; omega) (by unfold dot3; omega) rfl c4
      obtain ⟨x5, y5, c5⟩ := cutE (-c) (-r) (-t) (((-c - -r) * 4096).fdiv (-t))
      have K5 : ∀ w, Calls Try.prog 17 #[.agg #[.int .i64 (0), .int .i64 (0), .int .i64 (-1), .int .i64 (-c)], .agg #[.int .i64 (p), .int .i64 (q), .int .i64 (r), .int .i64 (u), .int .i64 (v), .int .i64 (t)]] w fun e w' => e = .returned (.tuple #[.int .i64 (x5), .int .i64 (y5)]) ∧ Below w.heap.size w w' := fun w =>
        ihalfCut_yes (0) (0) (-1) (-c) p q r u v t (-r) (-t) _ x5 y5 w (by unfold Hok Vok; omega) hr (by unfold dot3; omega) (by unfold dot3; omega) rfl c5
      obtain ⟨x6, y6, c6⟩ := cutE (z) (r) (t) (((z - r) * 4096).fdiv (t))
      have K6 : ∀ w, Calls Try.prog 17 #[.agg #[.int .i64 (0), .int .i64 (0), .int .i64 (1), .int .i64 (z)], .agg #[.int .i64 (p), .int .i64 (q), .int .i64 (r), .int .i64 (u), .int .i64 (v), .int .i64 (t)]] w fun e w' => e = .returned (.tuple #[.int .i64 (x6), .int .i64 (y6)]) ∧ Below w.heap.size w w' := fun w =>
        ihalfCut_yes (0) (0) (1) (z) p q r u v t (r) (t) _ x6 y6 w (by unfold Hok Vok; omega) hr (by unfold dot3; omega) (by unfold dot3; omega) rfl c6
      have f1 := faces (by omega) (by omega) (by omega) s1 rfl c1 rfl c2
      have f2 := faces (by omega) (by omega) (by omega) s2 rfl c3 rfl c4
      have f3 := faces (by omega) (by omega) (by omega) s3 rfl c5 rfl c6
      have out : (X1 = 0 ∧ Y1 = 0) ∨ (X2 = 0 ∧ Y2 = 0) ∨ (X3 = 0 ∧ Y3 = 0) → X = 0 ∧ Y = 0 := fun hh => by
        have hc' := hc
        obtain ⟨⟨g1, g2⟩, ⟨g3, g4⟩, g5, g6⟩ := hc'
        rcases hh with ⟨rfl, rfl⟩ | ⟨rfl, rfl⟩ | ⟨rfl, rfl⟩
        · exact ct1 hc hl (.inl (by clear hc hl g3 g4 g5 g6 f1 f2 f3; omega))
        · exact ct1 hc hl (.inr (.inl (by clear hc hl g1 g2 g5 g6 f1 f2 f3; omega)))
        · exact ct1 hc hl (.inr (.inr (by clear hc hl g1 g2 g3 g4 f1 f2 f3; omega)))
      have hA : accA (lst6 x1 x2 x3 x4 x5 x6) 6 = G3 := by
        simp only [accA, lst6]
        rw [mxx (-1073741824) x1 x2, f1.1, hc.1.1, mxx G1 x3 x4, f2.1, hc.2.1.1, mxx G2 x5 x6, f3.1, hc.2.2.1]
      have hZ : accZ (lst6 y1 y2 y3 y4 y5 y6) 6 = D3 := by
        simp only [accZ, lst6]
        rw [mnn 1073741824 y1 y2, f1.2.1, hc.1.2, mnn D1 y3 y4, f2.2.1, hc.2.1.2, mnn D2 y5 y6, f3.2.1, hc.2.2.2]
      refine ⟨X, Y, true, true, boxHv a b c x y z, fun w => iboxCut_yes _ _ _ _ _ _ _ _ _ _ _ _ _ _ _ _ _ _ _ _ _ _ _ _ _ _ w hx hr e', fun w => sboxCut_yes _ _ _ _ _ _ _ _ _ _ _ _ _ _ _ _ _ _ _ _ _ _ _ _ _ _ w hx hr e', fun w => iboxOk_yes _ _ _ _ _ _ w hx, fun w => sboxOk_yes _ _ _ _ _ _ w hx, fun w => irayOk_yes _ _ _ _ _ _ w hr,
        fun w => iboxHalves_yes _ _ _ _ _ _ w hx, .inr ⟨rfl, rfl, .inr ⟨rfl, lst6 x1 x2 x3 x4 x5 x6, lst6 y1 y2 y3 y4 y5 y6, ?_, ?_, ?_⟩⟩⟩
      · intro j h
        have h6 : j < 6 := h
        obtain rfl | rfl | rfl | rfl | rfl | rfl : j = 0 ∨ j = 1 ∨ j = 2 ∨ j = 3 ∨ j = 4 ∨ j = 5 := by omega
        · exact K1
        · exact K2
        · exact K3
        · exact K4
        · exact K5
        · exact K6
      · intro j h hj
        obtain rfl | rfl | rfl | rfl | rfl | rfl : j = 0 ∨ j = 1 ∨ j = 2 ∨ j = 3 ∨ j = 4 ∨ j = 5 := by omega
        · exact out (.inl (f1.2.2.2 (.inl hj)))
        · exact out (.inl (f1.2.2.2 (.inr hj)))
        · exact out (.inr (.inl (f2.2.2.2 (.inl hj))))
        · exact out (.inr (.inl (f2.2.2.2 (.inr hj))))
        · exact out (.inr (.inr (f3.2.2.2 (.inl hj))))
        · exact out (.inr (.inr (f3.2.2.2 (.inr hj))))
      · rw [hA, hZ]
        exact hl
    · exact ⟨0, 0, true, false, boxHv a b c x y z, fun w => iboxCut_no _ _ _ _ _ _ _ _ _ _ _ _ w (fun h => hr h.2), fun w => sboxCut_no _ _ _ _ _ _ _ _ _ _ _ _ w (fun h => hr h.2), fun w => iboxOk_yes _ _ _ _ _ _ w hx, fun w => sboxOk_yes _ _ _ _ _ _ w hx, fun w => irayOk_no _ _ _ _ _ _ w hr,
        fun w => iboxHalves_yes _ _ _ _ _ _ w hx, .inr ⟨rfl, rfl, .inl ⟨rfl, rfl, rfl⟩⟩⟩
  · have hray : ∃ o, (∀ w, Calls Try.prog 16 #[.agg #[.int .i64 (p), .int .i64 (q), .int .i64 (r), .int .i64 (u), .int .i64 (v), .int .i64 (t)]] w fun e w' => e = .returned (.bool o) ∧ Below w.heap.size w w') := by
      by_cases j : Rok p q r u v t
      · exact ⟨true, fun w => irayOk_yes _ _ _ _ _ _ w j⟩
      · exact ⟨false, fun w => irayOk_no _ _ _ _ _ _ w j⟩
    obtain ⟨o, ho⟩ := hray
    exact ⟨0, 0, false, o, [], fun w => iboxCut_no _ _ _ _ _ _ _ _ _ _ _ _ w (fun h => hx h.1), fun w => sboxCut_no _ _ _ _ _ _ _ _ _ _ _ _ w (fun h => hx h.1), fun w => iboxOk_no _ _ _ _ _ _ w hx, fun w => sboxOk_no _ _ _ _ _ _ w hx, ho, fun w => iboxHalves_no _ _ _ _ _ _ w hx, .inl ⟨rfl, rfl, rfl, rfl⟩⟩
end Go.Proofs.Ytckenfomnenknaa
