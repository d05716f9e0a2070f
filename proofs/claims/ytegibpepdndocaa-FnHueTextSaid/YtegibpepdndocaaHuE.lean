
import Derived.Test.YtegibpepdndocaaHueA
import Derived.Laws.StructEq
set_option linter.unusedSimpArgs false
namespace Go.Proofs.Ytegibpepdndocaa
open Go.ChangeShapes Go.WideShapes Go.ChangeAt Go.RowKit

/- '==' of two structs of three fields -/
theorem heqFields3 {P : Program} (w : World) (d : Nat) (xs ys : Array Value) (f0 f1 f2 : Field) (n0 : f0.name ≠ "_") (n1 : f1.name ≠ "_") (n2 : f2.name ≠ "_") (x0 x1 x2 y0 y1 y2 : Value) (b0 b1 b2 : Bool)
    (p0 : (part f0.type xs f0.offset).run P w = .ok x0 w) (p1 : (part f1.type xs f1.offset).run P w = .ok x1 w) (p2 : (part f2.type xs f2.offset).run P w = .ok x2 w)
    (q0 : (part f0.type ys f0.offset).run P w = .ok y0 w) (q1 : (part f1.type ys f1.offset).run P w = .ok y1 w) (q2 : (part f2.type ys f2.offset).run P w = .ok y2 w)
    (e0 : (Op.equalIn d f0.type x0 y0).run P w = .ok b0 w) (e1 : (Op.equalIn d f1.type x1 y1).run P w = .ok b1 w) (e2 : (Op.equalIn d f2.type x2 y2).run P w = .ok b2 w) :
    (Op.eqFields d xs ys [f0, f1, f2]).run P w = .ok (b0 && (b1 && b2)) w := by
  simp only [Op.eqFields, if_pos n0, if_pos n1, if_pos n2, Sem.run_bind, p0, q0, e0, Result.andThen_ok, Sem.run_ite, Sem.run_pure, p1, q1, e1, p2, q2, e2]
  cases b0 <;> cases b1 <;> cases b2 <;> simp [p1, q1, e1, p2, q2, e2]
theorem eqHueV (d : Nat) (a b c x y z : Int) (w : World) : (Op.equalIn (d + 2) 25 (.agg #[.int .i64 (a), .int .i64 (b), .int .i64 (c)]) (.agg #[.int .i64 (x), .int .i64 (y), .int .i64 (z)])).run Try.prog w = .ok (a == x && (b == y && c == z)) w := by
  rw [run_equalIn_struct w (d + 1) _ _ _ (by kernel_rfl) (by kernel_rfl)]
  have hf : ∃ f0 f1 f2 : Field, (Try.prog.fieldsOf 25).toList = [f0, f1, f2] ∧ (f0.name = "R" ∧ f0.type = 3 ∧ f0.offset = 0) ∧ (f1.name = "G" ∧ f1.type = 3 ∧ f1.offset = 1) ∧ (f2.name = "B" ∧ f2.type = 3 ∧ f2.offset = 2) := by
    unfold Program.fieldsOf
    rw [Try.underlying25]
    exact ⟨_, _, _, rfl, ⟨rfl, rfl, rfl⟩, ⟨rfl, rfl, rfl⟩, ⟨rfl, rfl, rfl⟩⟩
  obtain ⟨f0, f1, f2, hf, ⟨n0, t0, o0⟩, ⟨n1, t1, o1⟩, ⟨n2, t2, o2⟩⟩ := hf
  rw [hf]
  refine heqFields3 w (d + 1) _ _ f0 f1 f2 (by rw [n0]; decide) (by rw [n1]; decide) (by rw [n2]; decide) (.int .i64 a) (.int .i64 b) (.int .i64 c) (.int .i64 x) (.int .i64 y) (.int .i64 z) _ _ _ ?_ ?_ ?_ ?_ ?_ ?_ ?_ ?_ ?_
  · rw [t0, o0]; kernel_rfl
  · rw [t1, o1]; kernel_rfl
  · rw [t2, o2]; kernel_rfl
  · rw [t0, o0]; kernel_rfl
  · rw [t1, o1]; kernel_rfl
  · rw [t2, o2]; kernel_rfl
  · rw [t0]; exact run_equalIn_int w d _ .i64 .i64 _ _ Try.underlying3
  · rw [t1]; exact run_equalIn_int w d _ .i64 .i64 _ _ Try.underlying3
  · rw [t2]; exact run_equalIn_int w d _ .i64 .i64 _ _ Try.underlying3
theorem eqlHue (a b c x y z : Int) (w : World) : (binOp .eql 25 (.agg #[.int .i64 (a), .int .i64 (b), .int .i64 (c)]) (.agg #[.int .i64 (x), .int .i64 (y), .int .i64 (z)])).run Try.prog w = .ok (.bool (a == x && (b == y && c == z))) w := by
  rw [run_eql_struct, eqHueV 9998]; rfl
theorem neqHue (a b c x y z : Int) (w : World) : (binOp .neq 25 (.agg #[.int .i64 (a), .int .i64 (b), .int .i64 (c)]) (.agg #[.int .i64 (x), .int .i64 (y), .int .i64 (z)])).run Try.prog w = .ok (.bool (!(a == x && (b == y && c == z)))) w := by
  rw [run_neq_struct, eqHueV 9998]; rfl
end Go.Proofs.Ytegibpepdndocaa
