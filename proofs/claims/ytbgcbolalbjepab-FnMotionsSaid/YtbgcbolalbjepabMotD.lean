
import Derived.Test.YtbgcbolalbjepabMotF
import Derived.Test.YtbgcbolalbjepabMotE
namespace Go.Proofs.Ytbgcbolalbjepab
open Go.ChangeShapes Go.WideShapes Go.ChangeAt Go.RowKit

theorem wFnMotions {A : Option Addr} {n c : Nat} {w : World} (hnc : n ≤ c) (hm : c ≤ 9223372036854775807) (hcode : Code w w.heap.size A n) :
    Calls Try.prog 11 #[.slice A n c] w fun e w' => e = .returned (.bool true) ∧ Below w.heap.size w w' := by
  refine lawMotions A n c w hnc hm hcode fun a b c3 p q r x y z a2 b2 c4 p2 q2 r2 x2 y2 z2 => ?_
  by_cases ha : Mok a b c3 x y z
  · obtain ⟨A', B', C', K, L, N, hi⟩ := inv_ex p q r ha.1
    have U1 := fun w => iUndone_yes a b c3 p q r x y z A' B' C' K L N _ _ _ w hi ha.2 ⟨rfl, rfl, rfl⟩
    have U2 := fun w => sUndone_yes a b c3 p q r x y z A' B' C' K L N _ _ _ w hi ha.2 ⟨rfl, rfl, rfl⟩
    have M1 := fun w => imotOk_yes a b c3 p q r x y z w ha
    have M2 := fun w => smotOk_yes a b c3 p q r x y z w ha
    by_cases hbo : Mok a2 b2 c4 x2 y2 z2 ∧ Vok (tu a2 p2 x y z + x2) (tu b2 q2 x y z + y2) (tu c4 r2 x y z + z2) 400
    · obtain ⟨hb, hv⟩ := hbo
      have tg : TogE a b c3 p q r a2 b2 c4 p2 q2 r2 (pk a2 a b c3) (pk b2 a b c3) (pk c4 a b c3) (p2 != pkb a2 p q r) (q2 != pkb b2 p q r) (r2 != pkb c4 p q r) := ⟨⟨rfl, rfl, rfl⟩, rfl, rfl, rfl⟩
      refine ⟨_, _, _, _, _, _, _, _, _, _, _, _, _, _, _, _, _, _, true, fun w => pick_yes' (iTogether_any a b c3 p q r x y z a2 b2 c4 p2 q2 r2 x2 y2 z2 _ _ _ _ _ _ _ _ _ w ha hb ⟨rfl, rfl, rfl⟩ tg) hv,
        fun w => pick_yes' (sTogether_any a b c3 p q r x y z a2 b2 c4 p2 q2 r2 x2 y2 z2 _ _ _ _ _ _ _ _ _ w ha hb ⟨rfl, rfl, rfl⟩ tg) hv, U1, U2, M1, M2,
        fun _ => ⟨true, fun w => imotOk_yes _ _ _ _ _ _ _ _ _ w ⟨tg.perm ha.1 hb.1, hv⟩, fun i j k h => ?_, undone_back ha hi,
          fun _ => ⟨_, _, _, hi_bd _ _ _ _ _ _ 3, (hand_tog tg ha.1 hb.1).symm, fun w => iHand_yes _ _ _ _ _ _ _ _ _ w ⟨tg.perm ha.1 hb.1, hv⟩, fun w => iHand_yes _ _ _ _ _ _ _ _ _ w ha, fun w => iHand_yes _ _ _ _ _ _ _ _ _ w hb⟩⟩⟩
      obtain ⟨e1, e2⟩ := moved_back ha hi i j k h
      exact ⟨_, _, _, e1, e2, fun _ => moved_both ha hb hv i j k h⟩
    · have T1 : ∀ w, Calls Try.prog 24 #[.agg #[.int .i64 (a), .int .i64 (b), .int .i64 (c3), .bool (p), .bool (q), .bool (r), .int .i64 (x), .int .i64 (y), .int .i64 (z)], .agg #[.int .i64 (a2), .int .i64 (b2), .int .i64 (c4), .bool (p2), .bool (q2), .bool (r2), .int .i64 (x2), .int .i64 (y2), .int .i64 (z2)]] w fun e w' => e = .returned (.agg #[.int .i64 (0), .int .i64 (0), .int .i64 (0), .bool (false), .bool (false), .bool (false), .int .i64 (0), .int .i64 (0), .int .i64 (0)]) ∧ Below w.heap.size w w' := fun w => by
        by_cases hb : Mok a2 b2 c4 x2 y2 z2
        · exact pick_no' (iTogether_any a b c3 p q r x y z a2 b2 c4 p2 q2 r2 x2 y2 z2 _ _ _ _ _ _ _ _ _ w ha hb ⟨rfl, rfl, rfl⟩ ⟨⟨rfl, rfl, rfl⟩, rfl, rfl, rfl⟩) (fun k => hbo ⟨hb, k⟩)
        · exact iTogether_no _ _ _ _ _ _ _ _ _ _ _ _ _ _ _ _ _ _ w (fun k => hb k.2)
      have T2 : ∀ w, Calls Try.prog 23 #[.agg #[.int .i64 (a), .int .i64 (b), .int .i64 (c3), .bool (p), .bool (q), .bool (r), .int .i64 (x), .int .i64 (y), .int .i64 (z)], .agg #[.int .i64 (a2), .int .i64 (b2), .int .i64 (c4), .bool (p2), .bool (q2), .bool (r2), .int .i64 (x2), .int .i64 (y2), .int .i64 (z2)]] w fun e w' => e = .returned (.agg #[.int .i64 (0), .int .i64 (0), .int .i64 (0), .bool (false), .bool (false), .bool (false), .int .i64 (0), .int .i64 (0), .int .i64 (0)]) ∧ Below w.heap.size w w' := fun w => by
        by_cases hb : Mok a2 b2 c4 x2 y2 z2
        · exact pick_no' (sTogether_any a b c3 p q r x y z a2 b2 c4 p2 q2 r2 x2 y2 z2 _ _ _ _ _ _ _ _ _ w ha hb ⟨rfl, rfl, rfl⟩ ⟨⟨rfl, rfl, rfl⟩, rfl, rfl, rfl⟩) (fun k => hbo ⟨hb, k⟩)
        · exact sTogether_no _ _ _ _ _ _ _ _ _ _ _ _ _ _ _ _ _ _ w (fun k => hb k.2)
      refine ⟨0, 0, 0, false, false, false, 0, 0, 0, _, _, _, _, _, _, _, _, _, true, T1, T2, U1, U2, M1, M2, fun _ => ⟨false, fun w => imotOk_no _ _ _ _ _ _ _ _ _ w zero_no, fun i j k h => ?_, undone_back ha hi, fun h => by cases h⟩⟩
      obtain ⟨e1, e2⟩ := moved_back ha hi i j k h
      exact ⟨_, _, _, e1, e2, fun h => by cases h⟩
  · exact ⟨0, 0, 0, false, false, false, 0, 0, 0, 0, 0, 0, false, false, false, 0, 0, 0, false, fun w => iTogether_no _ _ _ _ _ _ _ _ _ _ _ _ _ _ _ _ _ _ w (fun k => ha k.1), fun w => sTogether_no _ _ _ _ _ _ _ _ _ _ _ _ _ _ _ _ _ _ w (fun k => ha k.1),
      fun w => iUndone_no _ _ _ _ _ _ _ _ _ w ha, fun w => sUndone_no _ _ _ _ _ _ _ _ _ w ha, fun w => imotOk_no _ _ _ _ _ _ _ _ _ w ha, fun w => smotOk_no _ _ _ _ _ _ _ _ _ w ha, fun h => by cases h⟩
end Go.Proofs.Ytbgcbolalbjepab
