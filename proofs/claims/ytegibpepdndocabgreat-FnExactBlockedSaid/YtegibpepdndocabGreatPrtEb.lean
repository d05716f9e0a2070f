import Derived.Laws.StructEq
import Derived.Test.YtegibpepdndocabGreatPrtb
import Derived.Test.YtegibpepdndocabGreatVec2b
section
set_option linter.unusedSimpArgs false
namespace Go.Proofs.YtegibpepdndocabGreat
open Go.ChangeShapes Go.WideShapes Go.ChangeAt Go.RowKit

/- '==' of two arrays of three -/
theorem equalIn_arr3 {P : Program} (w : World) (d : Nat) (t e : TypeId) (xs ys : Array Value) (ht : P.underlying t = some (.array 3 e)) (n : Nat) (hn : (sizeOf e).run P w = .ok n w)
    (x0 x1 x2 y0 y1 y2 : Value) (b0 b1 b2 : Bool) (p0 : (part e xs (0 * n)).run P w = .ok x0 w) (p1 : (part e xs n).run P w = .ok x1 w) (p2 : (part e xs (2 * n)).run P w = .ok x2 w)
    (q0 : (part e ys (0 * n)).run P w = .ok y0 w) (q1 : (part e ys n).run P w = .ok y1 w) (q2 : (part e ys (2 * n)).run P w = .ok y2 w)
    (e0 : (Op.equalIn d e x0 y0).run P w = .ok b0 w) (e1 : (Op.equalIn d e x1 y1).run P w = .ok b1 w) (e2 : (Op.equalIn d e x2 y2).run P w = .ok b2 w) :
    (Op.equalIn (d + 1) t (.agg xs) (.agg ys)).run P w = .ok (b0 && (b1 && b2)) w := by
  simp only [Op.equalIn, Sem.run_bind, run_underlying ht, Result.andThen_ok, hn]
  rw [Std.Legacy.Range.forIn_eq_forIn_range']
  simp only [Std.Legacy.Range.size, Nat.reduceAdd, Nat.reduceSub, Nat.reduceDiv, Nat.reduceMul, List.range', List.forIn_cons, List.forIn_nil, Sem.run_bind, p0, q0, e0, p1, q1, e1, p2, q2, e2, Result.andThen_ok, Sem.run_ite, Sem.run_pure]
  cases b0 <;> cases b1 <;> cases b2 <;> simp [p1, q1, e1, p2, q2, e2]
theorem eq3i (d : Nat) (a b c x y z : Int) (w : World) : (Op.equalIn (d + 2) 30 (.agg #[.int .i64 (a), .int .i64 (b), .int .i64 (c)]) (.agg #[.int .i64 (x), .int .i64 (y), .int .i64 (z)])).run Tryz.prog w = .ok (a == x && (b == y && c == z)) w :=
  equalIn_arr3 w (d + 1) _ 3 _ _ Tryz.underlying30 1 (by kernel_rfl) (.int .i64 a) (.int .i64 b) (.int .i64 c) (.int .i64 x) (.int .i64 y) (.int .i64 z) _ _ _ (by kernel_rfl) (by kernel_rfl) (by kernel_rfl) (by kernel_rfl) (by kernel_rfl) (by kernel_rfl)
    (run_equalIn_int w d _ .i64 .i64 _ _ Tryz.underlying3) (run_equalIn_int w d _ .i64 .i64 _ _ Tryz.underlying3) (run_equalIn_int w d _ .i64 .i64 _ _ Tryz.underlying3)
theorem eq3b (d : Nat) (a b c x y z : Bool) (w : World) : (Op.equalIn (d + 2) 31 (.agg #[.bool a, .bool b, .bool c]) (.agg #[.bool x, .bool y, .bool z])).run Tryz.prog w = .ok (a == x && (b == y && c == z)) w :=
  equalIn_arr3 w (d + 1) _ 4 _ _ Tryz.underlying31 1 (by kernel_rfl) (.bool a) (.bool b) (.bool c) (.bool x) (.bool y) (.bool z) _ _ _ (by kernel_rfl) (by kernel_rfl) (by kernel_rfl) (by kernel_rfl) (by kernel_rfl) (by kernel_rfl)
    (run_equalIn_bool' w d _ _ _ Tryz.underlying4) (run_equalIn_bool' w d _ _ _ Tryz.underlying4) (run_equalIn_bool' w d _ _ _ Tryz.underlying4)
/- '==' of two structs of three fields -/
theorem eqFields3 {P : Program} (w : World) (d : Nat) (xs ys : Array Value) (f0 f1 f2 : Field) (n0 : f0.name ≠ "_") (n1 : f1.name ≠ "_") (n2 : f2.name ≠ "_") (x0 x1 x2 y0 y1 y2 : Value) (b0 b1 b2 : Bool)
    (p0 : (part f0.type xs f0.offset).run P w = .ok x0 w) (p1 : (part f1.type xs f1.offset).run P w = .ok x1 w) (p2 : (part f2.type xs f2.offset).run P w = .ok x2 w)
    (q0 : (part f0.type ys f0.offset).run P w = .ok y0 w) (q1 : (part f1.type ys f1.offset).run P w = .ok y1 w) (q2 : (part f2.type ys f2.offset).run P w = .ok y2 w)
    (e0 : (Op.equalIn d f0.type x0 y0).run P w = .ok b0 w) (e1 : (Op.equalIn d f1.type x1 y1).run P w = .ok b1 w) (e2 : (Op.equalIn d f2.type x2 y2).run P w = .ok b2 w) :
    (Op.eqFields d xs ys [f0, f1, f2]).run P w = .ok (b0 && (b1 && b2)) w := by
  simp only [Op.eqFields, if_pos n0, if_pos n1, if_pos n2, Sem.run_bind, p0, q0, e0, Result.andThen_ok, Sem.run_ite, Sem.run_pure, p1, q1, e1, p2, q2, e2]
  cases b0 <;> cases b1 <;> cases b2 <;> simp [p1, q1, e1, p2, q2, e2]
theorem eqVecV (d : Nat) (a b c x y z : Int) (w : World) : (Op.equalIn (d + 2) 38 (.agg #[.int .i64 (a), .int .i64 (b), .int .i64 (c)]) (.agg #[.int .i64 (x), .int .i64 (y), .int .i64 (z)])).run Tryz.prog w = .ok (a == x && (b == y && c == z)) w := by
  rw [run_equalIn_struct w (d + 1) _ _ _ (by kernel_rfl) (by kernel_rfl)]
  have hf : ∃ f0 f1 f2 : Field, (Tryz.prog.fieldsOf 38).toList = [f0, f1, f2] ∧ (f0.name = "X" ∧ f0.type = 3 ∧ f0.offset = 0) ∧ (f1.name = "Y" ∧ f1.type = 3 ∧ f1.offset = 1) ∧ (f2.name = "Z" ∧ f2.type = 3 ∧ f2.offset = 2) := by
    unfold Program.fieldsOf
    rw [Tryz.underlying38]
    exact ⟨_, _, _, rfl, ⟨rfl, rfl, rfl⟩, ⟨rfl, rfl, rfl⟩, ⟨rfl, rfl, rfl⟩⟩
  obtain ⟨f0, f1, f2, hf, ⟨n0, t0, o0⟩, ⟨n1, t1, o1⟩, ⟨n2, t2, o2⟩⟩ := hf
  rw [hf]
  refine eqFields3 w (d + 1) _ _ f0 f1 f2 (by rw [n0]; decide) (by rw [n1]; decide) (by rw [n2]; decide) (.int .i64 a) (.int .i64 b) (.int .i64 c) (.int .i64 x) (.int .i64 y) (.int .i64 z) _ _ _ ?_ ?_ ?_ ?_ ?_ ?_ ?_ ?_ ?_
  · rw [t0, o0]; kernel_rfl
  · rw [t1, o1]; kernel_rfl
  · rw [t2, o2]; kernel_rfl
  · rw [t0, o0]; kernel_rfl
  · rw [t1, o1]; kernel_rfl
  · rw [t2, o2]; kernel_rfl
  · rw [t0]; exact run_equalIn_int w d _ .i64 .i64 _ _ Tryz.underlying3
  · rw [t1]; exact run_equalIn_int w d _ .i64 .i64 _ _ Tryz.underlying3
  · rw [t2]; exact run_equalIn_int w d _ .i64 .i64 _ _ Tryz.underlying3
/- whether two motions are the same, cell by cell -/
def meq (a b c : Int) (k l n : Bool) (x y z : Int) (a' b' c' : Int) (k' l' n' : Bool) (x' y' z' : Int) : Bool :=
  (a == a' && (b == b' && c == c')) && ((k == k' && (l == l' && n == n')) && (x == x' && (y == y' && z == z')))
theorem eqMotV (d : Nat) (a b c : Int) (k l n : Bool) (x y z : Int) (a' b' c' : Int) (k' l' n' : Bool) (x' y' z' : Int) (w : World) :
    (Op.equalIn (d + 3) 47 (.agg #[.int .i64 (a), .int .i64 (b), .int .i64 (c), .bool (k), .bool (l), .bool (n), .int .i64 (x), .int .i64 (y), .int .i64 (z)]) (.agg #[.int .i64 (a'), .int .i64 (b'), .int .i64 (c'), .bool (k'), .bool (l'), .bool (n'), .int .i64 (x'), .int .i64 (y'), .int .i64 (z')])).run Tryz.prog w = .ok (meq a b c k l n x y z a' b' c' k' l' n' x' y' z') w := by
  rw [run_equalIn_struct w (d + 2) _ _ _ (by kernel_rfl) (by kernel_rfl)]
  have hf : ∃ f0 f1 f2 : Field, (Tryz.prog.fieldsOf 47).toList = [f0, f1, f2] ∧ (f0.name = "Axis" ∧ f0.type = 30 ∧ f0.offset = 0) ∧ (f1.name = "Back" ∧ f1.type = 31 ∧ f1.offset = 3) ∧ (f2.name = "Move" ∧ f2.type = 38 ∧ f2.offset = 6) := by
    unfold Program.fieldsOf
    rw [Tryz.underlying47]
    exact ⟨_, _, _, rfl, ⟨rfl, rfl, rfl⟩, ⟨rfl, rfl, rfl⟩, ⟨rfl, rfl, rfl⟩⟩
  obtain ⟨f0, f1, f2, hf, ⟨n0, t0, o0⟩, ⟨n1, t1, o1⟩, ⟨n2, t2, o2⟩⟩ := hf
  rw [hf]
  refine eqFields3 w (d + 2) _ _ f0 f1 f2 (by rw [n0]; decide) (by rw [n1]; decide) (by rw [n2]; decide) (.agg #[.int .i64 (a), .int .i64 (b), .int .i64 (c)]) (.agg #[.bool k, .bool l, .bool n]) (.agg #[.int .i64 (x), .int .i64 (y), .int .i64 (z)]) (.agg #[.int .i64 (a'), .int .i64 (b'), .int .i64 (c')]) (.agg #[.bool k', .bool l', .bool n']) (.agg #[.int .i64 (x'), .int .i64 (y'), .int .i64 (z')]) _ _ _ ?_ ?_ ?_ ?_ ?_ ?_ ?_ ?_ ?_
  · rw [t0, o0]; kernel_rfl
  · rw [t1, o1]; kernel_rfl
  · rw [t2, o2]; kernel_rfl
  · rw [t0, o0]; kernel_rfl
  · rw [t1, o1]; kernel_rfl
  · rw [t2, o2]; kernel_rfl
  · rw [t0]; exact eq3i d a b c a' b' c' w
  · rw [t1]; exact eq3b d k l n k' l' n' w
  · rw [t2]; exact eqVecV d x y z x' y' z' w
theorem neqMot (a b c : Int) (k l n : Bool) (x y z : Int) (a' b' c' : Int) (k' l' n' : Bool) (x' y' z' : Int) (w : World) :
    (binOp .neq 47 (.agg #[.int .i64 (a), .int .i64 (b), .int .i64 (c), .bool (k), .bool (l), .bool (n), .int .i64 (x), .int .i64 (y), .int .i64 (z)]) (.agg #[.int .i64 (a'), .int .i64 (b'), .int .i64 (c'), .bool (k'), .bool (l'), .bool (n'), .int .i64 (x'), .int .i64 (y'), .int .i64 (z')])).run Tryz.prog w = .ok (.bool (!meq a b c k l n x y z a' b' c' k' l' n' x' y' z')) w := by
  rw [run_neq_struct, eqMotV 9997]; rfl
theorem meq_self (a b c : Int) (k l n : Bool) (x y z : Int) : meq a b c k l n x y z a b c k l n x y z = true := by simp [meq]
end Go.Proofs.YtegibpepdndocabGreat
end
section
namespace Go.Proofs.YtegibpepdndocabGreat
open Go.ChangeShapes Go.WideShapes Go.ChangeAt Go.RowKit
set_option linter.unusedSimpArgs false

/- '==' of two structs of two fields, and of two boxes -/
theorem eqFields2V {P : Program} (w : World) (d : Nat) (xs ys : Array Value) (f0 f1 : Field) (n0 : f0.name ≠ "_") (n1 : f1.name ≠ "_") (x0 x1 y0 y1 : Value) (b0 b1 : Bool)
    (p0 : (part f0.type xs f0.offset).run P w = .ok x0 w) (p1 : (part f1.type xs f1.offset).run P w = .ok x1 w)
    (q0 : (part f0.type ys f0.offset).run P w = .ok y0 w) (q1 : (part f1.type ys f1.offset).run P w = .ok y1 w)
    (e0 : (Op.equalIn d f0.type x0 y0).run P w = .ok b0 w) (e1 : (Op.equalIn d f1.type x1 y1).run P w = .ok b1 w) :
    (Op.eqFields d xs ys [f0, f1]).run P w = .ok (b0 && b1) w := by
  simp only [Op.eqFields, if_pos n0, if_pos n1, Sem.run_bind, p0, q0, e0, Result.andThen_ok, Sem.run_ite, Sem.run_pure, p1, q1, e1]
  cases b0 <;> cases b1 <;> simp [p1, q1, e1]
def xeq (a b c x y z a' b' c' x' y' z' : Int) : Bool := (a == a' && (b == b' && c == c')) && (x == x' && (y == y' && z == z'))
theorem xeq_self (a b c x y z : Int) : xeq a b c x y z a b c x y z = true := by simp [xeq]
theorem eqBoxV (d : Nat) (a b c x y z a' b' c' x' y' z' : Int) (w : World) : (Op.equalIn (d + 3) 45 (.agg #[.int .i64 (a), .int .i64 (b), .int .i64 (c), .int .i64 (x), .int .i64 (y), .int .i64 (z)]) (.agg #[.int .i64 (a'), .int .i64 (b'), .int .i64 (c'), .int .i64 (x'), .int .i64 (y'), .int .i64 (z')])).run Tryz.prog w = .ok (xeq a b c x y z a' b' c' x' y' z') w := by
  rw [run_equalIn_struct w (d + 2) _ _ _ (by kernel_rfl) (by kernel_rfl)]
  have hf : ∃ f0 f1 : Field, (Tryz.prog.fieldsOf 45).toList = [f0, f1] ∧ (f0.name = "Low" ∧ f0.type = 38 ∧ f0.offset = 0) ∧ (f1.name = "High" ∧ f1.type = 38 ∧ f1.offset = 3) := by
    unfold Program.fieldsOf
    rw [Tryz.underlying45]
    exact ⟨_, _, rfl, ⟨rfl, rfl, rfl⟩, ⟨rfl, rfl, rfl⟩⟩
  obtain ⟨f0, f1, hf, ⟨n0, t0, o0⟩, ⟨n1, t1, o1⟩⟩ := hf
  rw [hf]
  refine eqFields2V w (d + 2) _ _ f0 f1 (by rw [n0]; decide) (by rw [n1]; decide) (.agg #[.int .i64 (a), .int .i64 (b), .int .i64 (c)]) (.agg #[.int .i64 (x), .int .i64 (y), .int .i64 (z)]) (.agg #[.int .i64 (a'), .int .i64 (b'), .int .i64 (c')]) (.agg #[.int .i64 (x'), .int .i64 (y'), .int .i64 (z')]) _ _ ?_ ?_ ?_ ?_ ?_ ?_
  · rw [t0, o0]; kernel_rfl
  · rw [t1, o1]; kernel_rfl
  · rw [t0, o0]; kernel_rfl
  · rw [t1, o1]; kernel_rfl
  · rw [t0]; exact eqVecV d _ _ _ _ _ _ w
  · rw [t1]; exact eqVecV d _ _ _ _ _ _ w
theorem neqBox (a b c x y z a' b' c' x' y' z' : Int) (w : World) : (binOp .neq 45 (.agg #[.int .i64 (a), .int .i64 (b), .int .i64 (c), .int .i64 (x), .int .i64 (y), .int .i64 (z)]) (.agg #[.int .i64 (a'), .int .i64 (b'), .int .i64 (c'), .int .i64 (x'), .int .i64 (y'), .int .i64 (z')])).run Tryz.prog w = .ok (.bool (!xeq a b c x y z a' b' c' x' y' z')) w := by
  rw [run_neq_struct, eqBoxV 9997]; rfl
end Go.Proofs.YtegibpepdndocabGreat
end
section
namespace Go.Proofs.YtegibpepdndocabGreat
open Go.ChangeShapes Go.WideShapes Go.ChangeAt Go.RowKit
set_option linter.unusedSimpArgs false

/- '==' of structs, field by field: a list of fields with what stands in them -/
structure FEq where
  f : Field
  x : Value
  y : Value
  b : Bool
def FEq.Ok (P : Program) (w : World) (d : Nat) (xs ys : Array Value) (z : FEq) : Prop :=
  z.f.name ≠ "_" ∧ (part z.f.type xs z.f.offset).run P w = .ok z.x w ∧ (part z.f.type ys z.f.offset).run P w = .ok z.y w ∧ (Op.equalIn d z.f.type z.x z.y).run P w = .ok z.b w
theorem eqFieldsL {P : Program} (w : World) (d : Nat) (xs ys : Array Value) : ∀ (l : List FEq), (∀ z ∈ l, z.Ok P w d xs ys) → (Op.eqFields d xs ys (l.map (·.f))).run P w = .ok (l.all (·.b)) w
  | [], _ => by simp [Op.eqFields]
  | z :: l, h => by
    obtain ⟨n, p, q, e⟩ := h z (by simp)
    have ih := eqFieldsL w d xs ys l (fun y hy => h y (by simp [hy]))
    simp only [List.map_cons, Op.eqFields, if_pos n, Sem.run_bind, p, q, e, Result.andThen_ok, Sem.run_ite, Sem.run_pure, ih, List.all_cons]
    cases z.b <;> simp [ih]
/- fields of a struct by name, type and place -/
def FIs (f : Field) (n : String) (t : TypeId) (o : Nat) : Prop := f.name = n ∧ f.type = t ∧ f.offset = o
def qeq (s t : Qd) : Bool := (s.f == t.f && (s.t == t.t && s.i == t.i)) && s.o == t.o
theorem eqHalfV (d : Nat) (s t : Qd) (w : World) : (Op.equalIn (d + 3) 41 (s.val) (t.val)).run Tryz.prog w = .ok (qeq s t) w := by
  rw [run_equalIn_struct w (d + 2) _ _ _ (by kernel_rfl) (by kernel_rfl)]
  have hf : ∃ f0 f1 : Field, (Tryz.prog.fieldsOf 41).toList = [f0, f1] ∧ FIs f0 "Out" 38 0 ∧ FIs f1 "At" 3 3 := by
    unfold Program.fieldsOf
    rw [Tryz.underlying41]
    exact ⟨_, _, rfl, ⟨rfl, rfl, rfl⟩, ⟨rfl, rfl, rfl⟩⟩
  obtain ⟨f0, f1, hf, ⟨n0, t0, o0⟩, ⟨n1, t1, o1⟩⟩ := hf
  rw [hf]
  refine eqFields2V w (d + 2) _ _ f0 f1 (by rw [n0]; decide) (by rw [n1]; decide) (.agg #[.int .i64 (s.f), .int .i64 (s.t), .int .i64 (s.i)]) (.int .i64 s.o) (.agg #[.int .i64 (t.f), .int .i64 (t.t), .int .i64 (t.i)]) (.int .i64 t.o) _ _ ?_ ?_ ?_ ?_ ?_ ?_
  · rw [t0, o0]; kernel_rfl
  · rw [t1, o1]; kernel_rfl
  · rw [t0, o0]; kernel_rfl
  · rw [t1, o1]; kernel_rfl
  · rw [t0]; exact eqVecV d _ _ _ _ _ _ w
  · rw [t1]; exact run_equalIn_int w (d + 1) _ .i64 .i64 _ _ Tryz.underlying3
theorem eqBallV (d : Nat) (s t : Qd) (w : World) : (Op.equalIn (d + 3) 43 (s.val) (t.val)).run Tryz.prog w = .ok (qeq s t) w := by
  rw [run_equalIn_struct w (d + 2) _ _ _ (by kernel_rfl) (by kernel_rfl)]
  have hf : ∃ f0 f1 : Field, (Tryz.prog.fieldsOf 43).toList = [f0, f1] ∧ FIs f0 "At" 38 0 ∧ FIs f1 "Round" 3 3 := by
    unfold Program.fieldsOf
    rw [Tryz.underlying43]
    exact ⟨_, _, rfl, ⟨rfl, rfl, rfl⟩, ⟨rfl, rfl, rfl⟩⟩
  obtain ⟨f0, f1, hf, ⟨n0, t0, o0⟩, ⟨n1, t1, o1⟩⟩ := hf
  rw [hf]
  refine eqFields2V w (d + 2) _ _ f0 f1 (by rw [n0]; decide) (by rw [n1]; decide) (.agg #[.int .i64 (s.f), .int .i64 (s.t), .int .i64 (s.i)]) (.int .i64 s.o) (.agg #[.int .i64 (t.f), .int .i64 (t.t), .int .i64 (t.i)]) (.int .i64 t.o) _ _ ?_ ?_ ?_ ?_ ?_ ?_
  · rw [t0, o0]; kernel_rfl
  · rw [t1, o1]; kernel_rfl
  · rw [t0, o0]; kernel_rfl
  · rw [t1, o1]; kernel_rfl
  · rw [t0]; exact eqVecV d _ _ _ _ _ _ w
  · rw [t1]; exact run_equalIn_int w (d + 1) _ .i64 .i64 _ _ Tryz.underlying3
abbrev Sx.val (s : Sx) : Value := .agg #[.int .i64 (s.a), .int .i64 (s.b), .int .i64 (s.c), .int .i64 (s.d), .int .i64 (s.e), .int .i64 (s.f)]
abbrev Mo.val (m : Mo) : Value := .agg #[.int .i64 (m.a), .int .i64 (m.b), .int .i64 (m.c), .bool (m.k), .bool (m.l), .bool (m.n), .int .i64 (m.p), .int .i64 (m.q), .int .i64 (m.r)]
def xeqs (s t : Sx) : Bool := xeq s.a s.b s.c s.d s.e s.f t.a t.b t.c t.d t.e t.f
def meqs (s t : Mo) : Bool := meq s.a s.b s.c s.k s.l s.n s.p s.q s.r t.a t.b t.c t.k t.l t.n t.p t.q t.r
def peq (p q : Pt) : Bool := [p.k == q.k, qeq p.h q.h, qeq p.b q.b, xeqs p.x q.x, meqs p.m q.m, p.A == q.A, p.B == q.B, p.S == q.S].all id
theorem eqPartV (d : Nat) (p q : Pt) (w : World) : (Op.equalIn (d + 4) 49 p.val q.val).run Tryz.prog w = .ok (peq p q) w := by
  rw [run_equalIn_struct w (d + 3) _ _ _ (by kernel_rfl) (by kernel_rfl)]
  have hf : ∃ f0 f1 f2 f3 f4 f5 f6 f7 : Field, (Tryz.prog.fieldsOf 49).toList = [f0, f1, f2, f3, f4, f5, f6, f7] ∧ FIs f0 "Kind" 3 0 ∧ FIs f1 "Half" 41 1 ∧ FIs f2 "Ball" 43 5 ∧ FIs f3 "Box" 45 9 ∧ FIs f4 "Move" 47 15 ∧ FIs f5 "A" 3 24 ∧ FIs f6 "B" 3 25 ∧ FIs f7 "Stuff" 3 26 := by
    unfold Program.fieldsOf
    rw [Tryz.underlying49]
    exact ⟨_, _, _, _, _, _, _, _, rfl, ⟨rfl, rfl, rfl⟩, ⟨rfl, rfl, rfl⟩, ⟨rfl, rfl, rfl⟩, ⟨rfl, rfl, rfl⟩, ⟨rfl, rfl, rfl⟩, ⟨rfl, rfl, rfl⟩, ⟨rfl, rfl, rfl⟩, ⟨rfl, rfl, rfl⟩⟩
  obtain ⟨f0, f1, f2, f3, f4, f5, f6, f7, hf, ⟨n0, t0, o0⟩, ⟨n1, t1, o1⟩, ⟨n2, t2, o2⟩, ⟨n3, t3, o3⟩, ⟨n4, t4, o4⟩, ⟨n5, t5, o5⟩, ⟨n6, t6, o6⟩, ⟨n7, t7, o7⟩⟩ := hf
  rw [hf]
  have key := eqFieldsL (P := Tryz.prog) w (d + 3) p.arr q.arr [⟨f0, .int .i64 p.k, .int .i64 q.k, p.k == q.k⟩, ⟨f1, p.h.val, q.h.val, qeq p.h q.h⟩, ⟨f2, p.b.val, q.b.val, qeq p.b q.b⟩, ⟨f3, p.x.val, q.x.val, xeqs p.x q.x⟩, ⟨f4, p.m.val, q.m.val, meqs p.m q.m⟩, ⟨f5, .int .i64 p.A, .int .i64 q.A, p.A == q.A⟩, ⟨f6, .int .i64 p.B, .int .i64 q.B, p.B == q.B⟩, ⟨f7, .int .i64 p.S, .int .i64 q.S, p.S == q.S⟩] ?_
  · exact key
  · intro z hz
    simp only [List.mem_cons, List.not_mem_nil, or_false] at hz
    rcases hz with rfl | rfl | rfl | rfl | rfl | rfl | rfl | rfl
    · exact ⟨by show f0.name ≠ _; rw [n0]; decide, by show (part f0.type _ f0.offset).run _ _ = _; rw [t0, o0]; kernel_rfl, by show (part f0.type _ f0.offset).run _ _ = _; rw [t0, o0]; kernel_rfl, by show (Op.equalIn _ f0.type _ _).run _ _ = _; rw [t0]; exact run_equalIn_int w (d + 2) _ .i64 .i64 _ _ Tryz.underlying3⟩
    · exact ⟨by show f1.name ≠ _; rw [n1]; decide, by show (part f1.type _ f1.offset).run _ _ = _; rw [t1, o1]; kernel_rfl, by show (part f1.type _ f1.offset).run _ _ = _; rw [t1, o1]; kernel_rfl, by show (Op.equalIn _ f1.type _ _).run _ _ = _; rw [t1]; exact eqHalfV d _ _ w⟩
    · exact ⟨by show f2.name ≠ _; rw [n2]; decide, by show (part f2.type _ f2.offset).run _ _ = _; rw [t2, o2]; kernel_rfl, by show (part f2.type _ f2.offset).run _ _ = _; rw [t2, o2]; kernel_rfl, by show (Op.equalIn _ f2.type _ _).run _ _ = _; rw [t2]; exact eqBallV d _ _ w⟩
    · exact ⟨by show f3.name ≠ _; rw [n3]; decide, by show (part f3.type _ f3.offset).run _ _ = _; rw [t3, o3]; kernel_rfl, by show (part f3.type _ f3.offset).run _ _ = _; rw [t3, o3]; kernel_rfl, by show (Op.equalIn _ f3.type _ _).run _ _ = _; rw [t3]; exact eqBoxV d _ _ _ _ _ _ _ _ _ _ _ _ w⟩
    · exact ⟨by show f4.name ≠ _; rw [n4]; decide, by show (part f4.type _ f4.offset).run _ _ = _; rw [t4, o4]; kernel_rfl, by show (part f4.type _ f4.offset).run _ _ = _; rw [t4, o4]; kernel_rfl, by show (Op.equalIn _ f4.type _ _).run _ _ = _; rw [t4]; exact eqMotV d _ _ _ _ _ _ _ _ _ _ _ _ _ _ _ _ _ _ w⟩
    · exact ⟨by show f5.name ≠ _; rw [n5]; decide, by show (part f5.type _ f5.offset).run _ _ = _; rw [t5, o5]; kernel_rfl, by show (part f5.type _ f5.offset).run _ _ = _; rw [t5, o5]; kernel_rfl, by show (Op.equalIn _ f5.type _ _).run _ _ = _; rw [t5]; exact run_equalIn_int w (d + 2) _ .i64 .i64 _ _ Tryz.underlying3⟩
    · exact ⟨by show f6.name ≠ _; rw [n6]; decide, by show (part f6.type _ f6.offset).run _ _ = _; rw [t6, o6]; kernel_rfl, by show (part f6.type _ f6.offset).run _ _ = _; rw [t6, o6]; kernel_rfl, by show (Op.equalIn _ f6.type _ _).run _ _ = _; rw [t6]; exact run_equalIn_int w (d + 2) _ .i64 .i64 _ _ Tryz.underlying3⟩
    · exact ⟨by show f7.name ≠ _; rw [n7]; decide, by show (part f7.type _ f7.offset).run _ _ = _; rw [t7, o7]; kernel_rfl, by show (part f7.type _ f7.offset).run _ _ = _; rw [t7, o7]; kernel_rfl, by show (Op.equalIn _ f7.type _ _).run _ _ = _; rw [t7]; exact run_equalIn_int w (d + 2) _ .i64 .i64 _ _ Tryz.underlying3⟩
theorem eqlPart (p q : Pt) (w : World) : (binOp .eql 49 p.val q.val).run Tryz.prog w = .ok (.bool (peq p q)) w := by
  rw [run_eql_struct, eqPartV 9996]; rfl
theorem neqHalf (s t : Qd) (w : World) : (binOp .neq 41 s.val t.val).run Tryz.prog w = .ok (.bool (!qeq s t)) w := by
  rw [run_neq_struct, eqHalfV 9997]; rfl
theorem neqBall (s t : Qd) (w : World) : (binOp .neq 43 s.val t.val).run Tryz.prog w = .ok (.bool (!qeq s t)) w := by
  rw [run_neq_struct, eqBallV 9997]; rfl
/- parts that are built of some of their fields -/
theorem bHalf (s : Qd) (n : Int) (w : World) : (Instr.build 49 #[(0, .int .i64 0), (1, s.val), (7, .int .i64 n)]).run Tryz.prog w = .ok (Pt.val ⟨0, s, ⟨0, 0, 0, 0⟩, ⟨0, 0, 0, 0, 0, 0⟩, ⟨0, 0, 0, false, false, false, 0, 0, 0⟩, 0, 0, n⟩) w := run_build w _ _ _ (by kernel_rfl)
theorem bBall (s : Qd) (n : Int) (w : World) : (Instr.build 49 #[(0, .int .i64 1), (2, s.val), (7, .int .i64 n)]).run Tryz.prog w = .ok (Pt.val ⟨1, ⟨0, 0, 0, 0⟩, s, ⟨0, 0, 0, 0, 0, 0⟩, ⟨0, 0, 0, false, false, false, 0, 0, 0⟩, 0, 0, n⟩) w := run_build w _ _ _ (by kernel_rfl)
theorem bBox (s : Sx) (n : Int) (w : World) : (Instr.build 49 #[(0, .int .i64 2), (3, s.val), (7, .int .i64 n)]).run Tryz.prog w = .ok (Pt.val ⟨2, ⟨0, 0, 0, 0⟩, ⟨0, 0, 0, 0⟩, s, ⟨0, 0, 0, false, false, false, 0, 0, 0⟩, 0, 0, n⟩) w := run_build w _ _ _ (by kernel_rfl)
theorem bTwo (k a b : Int) (w : World) : (Instr.build 49 #[(0, .int .i64 k), (5, .int .i64 a), (6, .int .i64 b)]).run Tryz.prog w = .ok (Pt.val ⟨k, ⟨0, 0, 0, 0⟩, ⟨0, 0, 0, 0⟩, ⟨0, 0, 0, 0, 0, 0⟩, ⟨0, 0, 0, false, false, false, 0, 0, 0⟩, a, b, 0⟩) w := run_build w _ _ _ (by kernel_rfl)
theorem bMov (m : Mo) (a : Int) (w : World) : (Instr.build 49 #[(0, .int .i64 6), (4, m.val), (5, .int .i64 a)]).run Tryz.prog w = .ok (Pt.val ⟨6, ⟨0, 0, 0, 0⟩, ⟨0, 0, 0, 0⟩, ⟨0, 0, 0, 0, 0, 0⟩, m, a, 0, 0⟩) w := run_build w _ _ _ (by kernel_rfl)
end Go.Proofs.YtegibpepdndocabGreat
end
