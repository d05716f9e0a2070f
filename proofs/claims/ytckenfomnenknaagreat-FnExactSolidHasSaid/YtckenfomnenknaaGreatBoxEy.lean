import Derived.Laws.StructEq
import Derived.Test.YtckenfomnenknaaGreatVecy
section
set_option linter.unusedSimpArgs false
namespace Go.Proofs.YtckenfomnenknaaGreat
open Go.ChangeShapes Go.WideShapes Go.ChangeAt Go.RowKit

/- '==' of two arrays of three -/
theorem equalIn_arr3 {P : Program} (w : World) (d : Nat) (t e : TypeId) (xs ys : Array Value) (ht : P.underlying t = some (.array 3 e)) (n : Nat) (hn : (sizeOf e).run P w = .ok n w)
    (x0 x1 x2 y0 y1 y2 : Value) (b0 b1 b2 : Bool) (p0 : (part e xs (0 * n)).run P w = .ok x0 w) (p1 : (part e xs n).run P w = .ok x1 w) (p2 : (part e xs (2 * n)).run P w = .ok x2 w)
    (q0 : (part e ys (0 * n)).run P w = .ok y0 w) (q1 : (part e ys n).run P w = .ok y1 w) (q2 : (part e ys (2 * n)).run P w = .ok y2 w)
    (e0 : (Op.equalIn d e x0 y0).run P w = .ok b0 w) (e1 : (Op.equalIn d e x1 y1).run P w = .ok b1 w) (e2 : (Op.equalIn d e x2 y2).run P w = .ok b2 w) :
    (Op.equalIn (d + 1) t (.agg xs) (.agg ys)).run P w = .ok (b0 && (b1 && b2)) w := by
  simp only [Op.equalIn, Sem.run_bind, run_underlying ht, Result.andThen_ok, hn]
  rw [Std.Legacy.Range.forIn_eq_forIn_range']
  simp only [Std.Legacy.Range.size, Nat.reduceAdd, Nat.reduceSub, Nat.reduceDiv, Nat.reduceMul, List.range', List.forIn_cons, List.forIn_nil, Sem.run_bind, p0, q0, e0, p1, q1, e1, p2, q2, e2, Result.andThen_ok, Sem.run_ite, Sem.run_pure]
  cases b0 <;> cases b1 <;> cases b2 <;> simp [p1, q1, e1, p2, q2, e2]
theorem eq3i (d : Nat) (a b c x y z : Int) (w : World) : (Op.equalIn (d + 2) 49 (.agg #[.int .i64 (a), .int .i64 (b), .int .i64 (c)]) (.agg #[.int .i64 (x), .int .i64 (y), .int .i64 (z)])).run Tryz.prog w = .ok (a == x && (b == y && c == z)) w :=
  equalIn_arr3 w (d + 1) _ 3 _ _ Tryz.underlying49 1 (by kernel_rfl) (.int .i64 a) (.int .i64 b) (.int .i64 c) (.int .i64 x) (.int .i64 y) (.int .i64 z) _ _ _ (by kernel_rfl) (by kernel_rfl) (by kernel_rfl) (by kernel_rfl) (by kernel_rfl) (by kernel_rfl)
    (run_equalIn_int w d _ .i64 .i64 _ _ Tryz.underlying3) (run_equalIn_int w d _ .i64 .i64 _ _ Tryz.underlying3) (run_equalIn_int w d _ .i64 .i64 _ _ Tryz.underlying3)
theorem eq3b (d : Nat) (a b c x y z : Bool) (w : World) : (Op.equalIn (d + 2) 50 (.agg #[.bool a, .bool b, .bool c]) (.agg #[.bool x, .bool y, .bool z])).run Tryz.prog w = .ok (a == x && (b == y && c == z)) w :=
  equalIn_arr3 w (d + 1) _ 4 _ _ Tryz.underlying50 1 (by kernel_rfl) (.bool a) (.bool b) (.bool c) (.bool x) (.bool y) (.bool z) _ _ _ (by kernel_rfl) (by kernel_rfl) (by kernel_rfl) (by kernel_rfl) (by kernel_rfl) (by kernel_rfl)
    (run_equalIn_bool' w d _ _ _ Tryz.underlying4) (run_equalIn_bool' w d _ _ _ Tryz.underlying4) (run_equalIn_bool' w d _ _ _ Tryz.underlying4)
/- '==' of two structs of three fields -/
theorem eqFields3 {P : Program} (w : World) (d : Nat) (xs ys : Array Value) (f0 f1 f2 : Field) (n0 : f0.name ≠ "_") (n1 : f1.name ≠ "_") (n2 : f2.name ≠ "_") (x0 x1 x2 y0 y1 y2 : Value) (b0 b1 b2 : Bool)
    (p0 : (part f0.type xs f0.offset).run P w = .ok x0 w) (p1 : (part f1.type xs f1.offset).run P w = .ok x1 w) (p2 : (part f2.type xs f2.offset).run P w = .ok x2 w)
    (q0 : (part f0.type ys f0.offset).run P w = .ok y0 w) (q1 : (part f1.type ys f1.offset).run P w = .ok y1 w) (q2 : (part f2.type ys f2.offset).run P w = .ok y2 w)
    (e0 : (Op.equalIn d f0.type x0 y0).run P w = .ok b0 w) (e1 : (Op.equalIn d f1.type x1 y1).run P w = .ok b1 w) (e2 : (Op.equalIn d f2.type x2 y2).run P w = .ok b2 w) :
    (Op.eqFields d xs ys [f0, f1, f2]).run P w = .ok (b0 && (b1 && b2)) w := by
  simp only [Op.eqFields, if_pos n0, if_pos n1, if_pos n2, Sem.run_bind, p0, q0, e0, Result.andThen_ok, Sem.run_ite, Sem.run_pure, p1, q1, e1, p2, q2, e2]
  cases b0 <;> cases b1 <;> cases b2 <;> simp [p1, q1, e1, p2, q2, e2]
theorem eqVecV (d : Nat) (a b c x y z : Int) (w : World) : (Op.equalIn (d + 2) 25 (.agg #[.int .i64 (a), .int .i64 (b), .int .i64 (c)]) (.agg #[.int .i64 (x), .int .i64 (y), .int .i64 (z)])).run Tryz.prog w = .ok (a == x && (b == y && c == z)) w := by
  rw [run_equalIn_struct w (d + 1) _ _ _ (by kernel_rfl) (by kernel_rfl)]
  have hf : ∃ f0 f1 f2 : Field, (Tryz.prog.fieldsOf 25).toList = [f0, f1, f2] ∧ (f0.name = "X" ∧ f0.type = 3 ∧ f0.offset = 0) ∧ (f1.name = "Y" ∧ f1.type = 3 ∧ f1.offset = 1) ∧ (f2.name = "Z" ∧ f2.type = 3 ∧ f2.offset = 2) := by
    unfold Program.fieldsOf
    rw [Tryz.underlying25]
    exact ⟨_, _, _, rfl, ⟨rfl, rfl, rfl⟩, ⟨rfl, rfl, rfl⟩, ⟨rfl, rfl, rfl⟩⟩
  obtain ⟨f0, f1, f2, hf, ⟨n0, t0, o0⟩, ⟨n1, t1, o1⟩, ⟨n2, t2, o2⟩⟩ := hf
  rw [hf]
  refine eqFields3 w (d + 1) _ _ f0 f1 f2 (by rw [n0]; decide) (by rw [n1]; decide) (by rw [n2]; decide) (.int .i64 a) (.int .i64 b) (.int .i64 c) (.int .i64 x) (.int .i64 y) (.int .i64 z) _ _ _ ?_ ?_ ?_ ?_ ?_ ?_ ?_ ?_ ?_
  · rw [t0, o0]; kernel_rfl
  · rw [t1, o1]; kernel_rfl
  · rw [t2, o2]; kernel_rfl
  · rw [t0, o0]; kernel_rfl
  · rw [t1, o1]; kernel_rfl
  · rw [t2, o2]; kernel_rfl
  · rw [t0]; exact run_equalIn_int w d _ .i64 .i64 _ _ Tryz.underlying3
  · rw [t1]; exact run_equalIn_int w d _ .i64 .i64 _ _ Tryz.underlying3
  · rw [t2]; exact run_equalIn_int w d _ .i64 .i64 _ _ Tryz.underlying3
/- whether two motions are the same, cell by cell -/
def meq (a b c : Int) (k l n : Bool) (x y z : Int) (a' b' c' : Int) (k' l' n' : Bool) (x' y' z' : Int) : Bool :=
  (a == a' && (b == b' && c == c')) && ((k == k' && (l == l' && n == n')) && (x == x' && (y == y' && z == z')))
theorem eqMotV (d : Nat) (a b c : Int) (k l n : Bool) (x y z : Int) (a' b' c' : Int) (k' l' n' : Bool) (x' y' z' : Int) (w : World) :
    (Op.equalIn (d + 3) 52 (.agg #[.int .i64 (a), .int .i64 (b), .int .i64 (c), .bool (k), .bool (l), .bool (n), .int .i64 (x), .int .i64 (y), .int .i64 (z)]) (.agg #[.int .i64 (a'), .int .i64 (b'), .int .i64 (c'), .bool (k'), .bool (l'), .bool (n'), .int .i64 (x'), .int .i64 (y'), .int .i64 (z')])).run Tryz.prog w = .ok (meq a b c k l n x y z a' b' c' k' l' n' x' y' z') w := by
  rw [run_equalIn_struct w (d + 2) _ _ _ (by kernel_rfl) (by kernel_rfl)]
  have hf : ∃ f0 f1 f2 : Field, (Tryz.prog.fieldsOf 52).toList = [f0, f1, f2] ∧ (f0.name = "Axis" ∧ f0.type = 49 ∧ f0.offset = 0) ∧ (f1.name = "Back" ∧ f1.type = 50 ∧ f1.offset = 3) ∧ (f2.name = "Move" ∧ f2.type = 25 ∧ f2.offset = 6) := by
    unfold Program.fieldsOf
    rw [Tryz.underlying52]
    exact ⟨_, _, _, rfl, ⟨rfl, rfl, rfl⟩, ⟨rfl, rfl, rfl⟩, ⟨rfl, rfl, rfl⟩⟩
  obtain ⟨f0, f1, f2, hf, ⟨n0, t0, o0⟩, ⟨n1, t1, o1⟩, ⟨n2, t2, o2⟩⟩ := hf
  rw [hf]
  refine eqFields3 w (d + 2) _ _ f0 f1 f2 (by rw [n0]; decide) (by rw [n1]; decide) (by rw [n2]; decide) (.agg #[.int .i64 (a), .int .i64 (b), .int .i64 (c)]) (.agg #[.bool k, .bool l, .bool n]) (.agg #[.int .i64 (x), .int .i64 (y), .int .i64 (z)]) (.agg #[.int .i64 (a'), .int .i64 (b'), .int .i64 (c')]) (.agg #[.bool k', .bool l', .bool n']) (.agg #[.int .i64 (x'), .int .i64 (y'), .int .i64 (z')]) _ _ _ ?_ ?_ ?_ ?_ ?_ ?_ ?_ ?_ ?_
  · rw [t0, o0]; kernel_rfl
  · rw [t1, o1]; kernel_rfl
  · rw [t2, o2]; kernel_rfl
  · rw [t0, o0]; kernel_rfl
  · rw [t1, o1]; kernel_rfl
  · rw [t2, o2]; kernel_rfl
  · rw [t0]; exact eq3i d a b c a' b' c' w
  · rw [t1]; exact eq3b d k l n k' l' n' w
  · rw [t2]; exact eqVecV d x y z x' y' z' w
theorem neqMot (a b c : Int) (k l n : Bool) (x y z : Int) (a' b' c' : Int) (k' l' n' : Bool) (x' y' z' : Int) (w : World) :
    (binOp .neq 52 (.agg #[.int .i64 (a), .int .i64 (b), .int .i64 (c), .bool (k), .bool (l), .bool (n), .int .i64 (x), .int .i64 (y), .int .i64 (z)]) (.agg #[.int .i64 (a'), .int .i64 (b'), .int .i64 (c'), .bool (k'), .bool (l'), .bool (n'), .int .i64 (x'), .int .i64 (y'), .int .i64 (z')])).run Tryz.prog w = .ok (.bool (!meq a b c k l n x y z a' b' c' k' l' n' x' y' z')) w := by
  rw [run_neq_struct, eqMotV 9997]; rfl
theorem meq_self (a b c : Int) (k l n : Bool) (x y z : Int) : meq a b c k l n x y z a b c k l n x y z = true := by simp [meq]
end Go.Proofs.YtckenfomnenknaaGreat
end
section
namespace Go.Proofs.YtckenfomnenknaaGreat
open Go.ChangeShapes Go.WideShapes Go.ChangeAt Go.RowKit
set_option linter.unusedSimpArgs false

/- '==' of two structs of two fields, and of two boxes -/
theorem eqFields2V {P : Program} (w : World) (d : Nat) (xs ys : Array Value) (f0 f1 : Field) (n0 : f0.name ≠ "_") (n1 : f1.name ≠ "_") (x0 x1 y0 y1 : Value) (b0 b1 : Bool)
    (p0 : (part f0.type xs f0.offset).run P w = .ok x0 w) (p1 : (part f1.type xs f1.offset).run P w = .ok x1 w)
    (q0 : (part f0.type ys f0.offset).run P w = .ok y0 w) (q1 : (part f1.type ys f1.offset).run P w = .ok y1 w)
    (e0 : (Op.equalIn d f0.type x0 y0).run P w = .ok b0 w) (e1 : (Op.equalIn d f1.type x1 y1).run P w = .ok b1 w) :
    (Op.eqFields d xs ys [f0, f1]).run P w = .ok (b0 && b1) w := by
  simp only [Op.eqFields, if_pos n0, if_pos n1, Sem.run_bind, p0, q0, e0, Result.andThen_ok, Sem.run_ite, Sem.run_pure, p1, q1, e1]
  cases b0 <;> cases b1 <;> simp [p1, q1, e1]
def xeq (a b c x y z a' b' c' x' y' z' : Int) : Bool := (a == a' && (b == b' && c == c')) && (x == x' && (y == y' && z == z'))
theorem xeq_self (a b c x y z : Int) : xeq a b c x y z a b c x y z = true := by simp [xeq]
theorem eqBoxV (d : Nat) (a b c x y z a' b' c' x' y' z' : Int) (w : World) : (Op.equalIn (d + 3) 36 (.agg #[.int .i64 (a), .int .i64 (b), .int .i64 (c), .int .i64 (x), .int .i64 (y), .int .i64 (z)]) (.agg #[.int .i64 (a'), .int .i64 (b'), .int .i64 (c'), .int .i64 (x'), .int .i64 (y'), .int .i64 (z')])).run Tryz.prog w = .ok (xeq a b c x y z a' b' c' x' y' z') w := by
  rw [run_equalIn_struct w (d + 2) _ _ _ (by kernel_rfl) (by kernel_rfl)]
  have hf : ∃ f0 f1 : Field, (Tryz.prog.fieldsOf 36).toList = [f0, f1] ∧ (f0.name = "Low" ∧ f0.type = 25 ∧ f0.offset = 0) ∧ (f1.name = "High" ∧ f1.type = 25 ∧ f1.offset = 3) := by
    unfold Program.fieldsOf
    rw [Tryz.underlying36]
    exact ⟨_, _, rfl, ⟨rfl, rfl, rfl⟩, ⟨rfl, rfl, rfl⟩⟩
  obtain ⟨f0, f1, hf, ⟨n0, t0, o0⟩, ⟨n1, t1, o1⟩⟩ := hf
  rw [hf]
  refine eqFields2V w (d + 2) _ _ f0 f1 (by rw [n0]; decide) (by rw [n1]; decide) (.agg #[.int .i64 (a), .int .i64 (b), .int .i64 (c)]) (.agg #[.int .i64 (x), .int .i64 (y), .int .i64 (z)]) (.agg #[.int .i64 (a'), .int .i64 (b'), .int .i64 (c')]) (.agg #[.int .i64 (x'), .int .i64 (y'), .int .i64 (z')]) _ _ ?_ ?_ ?_ ?_ ?_ ?_
  · rw [t0, o0]; kernel_rfl
  · rw [t1, o1]; kernel_rfl
  · rw [t0, o0]; kernel_rfl
  · rw [t1, o1]; kernel_rfl
  · rw [t0]; exact eqVecV d _ _ _ _ _ _ w
  · rw [t1]; exact eqVecV d _ _ _ _ _ _ w
theorem neqBox (a b c x y z a' b' c' x' y' z' : Int) (w : World) : (binOp .neq 36 (.agg #[.int .i64 (a), .int .i64 (b), .int .i64 (c), .int .i64 (x), .int .i64 (y), .int .i64 (z)]) (.agg #[.int .i64 (a'), .int .i64 (b'), .int .i64 (c'), .int .i64 (x'), .int .i64 (y'), .int .i64 (z')])).run Tryz.prog w = .ok (.bool (!xeq a b c x y z a' b' c' x' y' z')) w := by
  rw [run_neq_struct, eqBoxV 9997]; rfl
end Go.Proofs.YtckenfomnenknaaGreat
end
