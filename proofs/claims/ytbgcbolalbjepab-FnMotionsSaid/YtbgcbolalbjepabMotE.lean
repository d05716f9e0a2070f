
import Derived.Test.YtbgcbolalbjepabMotG
import Derived.Test.YtbgcbolalbjepabMotN
namespace Go.Proofs.Ytbgcbolalbjepab
open Go.ChangeShapes Go.WideShapes Go.ChangeAt Go.RowKit

theorem neg_vok {x y z m : Int} (h : Vok x y z m) : Vok (-x) (-y) (-z) m := by unfold Vok at *; omega
theorem zero_no : ¬ Mok 0 0 0 0 0 0 := by intro h; have := h.1; unfold Perm at this; omega
theorem pick_no' {P : Program} {f : FuncId} {args : Array Value} {w : World} {p : Prop} {u v : Value} (h : Calls P f args w fun e w' => ((p ∧ e = .returned u) ∨ (¬ p ∧ e = .returned v)) ∧ Below w.heap.size w w') (hp : ¬ p) :
    Calls P f args w fun e w' => e = .returned v ∧ Below w.heap.size w w' := h.mono fun _ _ ⟨h1, h2⟩ => ⟨h1.elim (fun k => absurd k.1 hp) (fun k => k.2), h2⟩
section
variable {a b c A B C : Int} {k l n K L N : Bool} {x y z : Int}
theorem moved_back (ha : Mok a b c x y z) (hi : InvE a b c k l n A B C K L N) (i j m : Int) (hv : Vok i j m 11) :
    (∀ w, Calls Try.prog 16 #[.agg #[.int .i64 (a), .int .i64 (b), .int .i64 (c), .bool (k), .bool (l), .bool (n), .int .i64 (x), .int .i64 (y), .int .i64 (z)], .agg #[.int .i64 (i), .int .i64 (j), .int .i64 (m)]] w fun e w' => e = .returned (.agg #[.int .i64 (tu a k i j m + x), .int .i64 (tu b l i j m + y), .int .i64 (tu c n i j m + z)]) ∧ Below w.heap.size w w') ∧
    (∀ w, Calls Try.prog 16 #[.agg #[.int .i64 (A), .int .i64 (B), .int .i64 (C), .bool (K), .bool (L), .bool (N), .int .i64 (-(tu A K x y z)), .int .i64 (-(tu B L x y z)), .int .i64 (-(tu C N x y z))], .agg #[.int .i64 (tu a k i j m + x), .int .i64 (tu b l i j m + y), .int .i64 (tu c n i j m + z)]] w fun e w' => e = .returned (.agg #[.int .i64 (i), .int .i64 (j), .int .i64 (m)]) ∧ Below w.heap.size w w') := by
  have hv1 : Vok i j m 1048576 := by unfold Vok at *; omega
  have t1 : Vok (tu a k i j m) (tu b l i j m) (tu c n i j m) 11 := tu3_vok hv
  have hv2 : Vok (tu a k i j m + x) (tu b l i j m + y) (tu c n i j m + z) 1048576 := by have := ha.2; unfold Vok at *; omega
  refine ⟨fun w => iMoved_yes a b c k l n x y z i j m _ _ _ w ha hv1 ⟨rfl, rfl, rfl⟩, fun w => ?_⟩
  have hb : Mok A B C (-(tu A K x y z)) (-(tu B L x y z)) (-(tu C N x y z)) := ⟨hi.perm.2, neg_vok (tu3_vok ha.2)⟩
  obtain ⟨e1, e2, e3⟩ := undo_back hi i j m x y z
  have h := iMoved_yes A B C K L N _ _ _ _ _ _ _ _ _ w hb hv2 ⟨rfl, rfl, rfl⟩
  rw [e1, e2, e3] at h
  exact h
theorem undone_back (ha : Mok a b c x y z) (hi : InvE a b c k l n A B C K L N) :
    ∀ w, Calls Try.prog 21 #[.agg #[.int .i64 (A), .int .i64 (B), .int .i64 (C), .bool (K), .bool (L), .bool (N), .int .i64 (-(tu A K x y z)), .int .i64 (-(tu B L x y z)), .int .i64 (-(tu C N x y z))]] w fun e w' => e = .returned (.agg #[.int .i64 (a), .int .i64 (b), .int .i64 (c), .bool (k), .bool (l), .bool (n), .int .i64 (x), .int .i64 (y), .int .i64 (z)]) ∧ Below w.heap.size w w' := by
  intro w
  obtain ⟨e1, e2, e3⟩ := undo_move hi x y z
  have h := iUndone_yes A B C K L N (-(tu A K x y z)) (-(tu B L x y z)) (-(tu C N x y z)) a b c k l n _ _ _ w hi.symm (neg_vok (tu3_vok ha.2)) ⟨rfl, rfl, rfl⟩
  rw [e1, e2, e3] at h
  exact h
theorem moved_both {d e1 f s t u : Int} {g h i1 : Bool} (ha : Mok a b c x y z) (hb : Mok d e1 f s t u) (hm : Vok (tu d g x y z + s) (tu e1 h x y z + t) (tu f i1 x y z + u) 400) (i j m : Int) (hv : Vok i j m 11) :
    ∃ U V W, (∀ w, Calls Try.prog 16 #[.agg #[.int .i64 (pk d a b c), .int .i64 (pk e1 a b c), .int .i64 (pk f a b c), .bool ((g != pkb d k l n)), .bool ((h != pkb e1 k l n)), .bool ((i1 != pkb f k l n)), .int .i64 (tu d g x y z + s), .int .i64 (tu e1 h x y z + t), .int .i64 (tu f i1 x y z + u)], .agg #[.int .i64 (i), .int .i64 (j), .int .i64 (m)]] w fun e w' => e = .returned (.agg #[.int .i64 (U), .int .i64 (V), .int .i64 (W)]) ∧ Below w.heap.size w w') ∧
      (∀ w, Calls Try.prog 16 #[.agg #[.int .i64 (d), .int .i64 (e1), .int .i64 (f), .bool (g), .bool (h), .bool (i1), .int .i64 (s), .int .i64 (t), .int .i64 (u)], .agg #[.int .i64 (tu a k i j m + x), .int .i64 (tu b l i j m + y), .int .i64 (tu c n i j m + z)]] w fun e w' => e = .returned (.agg #[.int .i64 (U), .int .i64 (V), .int .i64 (W)]) ∧ Below w.heap.size w w') := by
  have hv1 : Vok i j m 1048576 := by unfold Vok at *; omega
  have t1 : Vok (tu a k i j m) (tu b l i j m) (tu c n i j m) 11 := tu3_vok hv
  have hv2 : Vok (tu a k i j m + x) (tu b l i j m + y) (tu c n i j m + z) 1048576 := by have := ha.2; unfold Vok at *; omega
  have tg : TogE a b c k l n d e1 f g h i1 (pk d a b c) (pk e1 a b c) (pk f a b c) (g != pkb d k l n) (h != pkb e1 k l n) (i1 != pkb f k l n) := ⟨⟨rfl, rfl, rfl⟩, rfl, rfl, rfl⟩
  obtain ⟨i0, i2, i3⟩ := perm_in hb.1
  have q1 := tog_one (a := a) (b := b) (c := c) (k := k) (l := l) (n := n) i0 rfl rfl i j m x y z s (g := g)
  have q2 := tog_one (a := a) (b := b) (c := c) (k := k) (l := l) (n := n) i2 rfl rfl i j m x y z t (g := h)
  have q3 := tog_one (a := a) (b := b) (c := c) (k := k) (l := l) (n := n) i3 rfl rfl i j m x y z u (g := i1)
  refine ⟨_, _, _, fun w => iMoved_yes _ _ _ _ _ _ _ _ _ i j m _ _ _ w ⟨tg.perm ha.1 hb.1, hm⟩ hv1 ⟨rfl, rfl, rfl⟩, fun w => ?_⟩
  rw [q1, q2, q3]
  exact iMoved_yes d e1 f g h i1 s t u _ _ _ _ _ _ w hb hv2 ⟨rfl, rfl, rfl⟩
end
end Go.Proofs.Ytbgcbolalbjepab
