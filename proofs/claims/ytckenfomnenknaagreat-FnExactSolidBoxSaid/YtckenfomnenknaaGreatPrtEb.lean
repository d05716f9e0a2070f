import Derived.Test.YtckenfomnenknaaGreatBoxEb
import Derived.Test.YtckenfomnenknaaGreatPrtb
namespace Go.Proofs.YtckenfomnenknaaGreat
open Go.ChangeShapes Go.WideShapes Go.ChangeAt Go.RowKit
set_option linter.unusedSimpArgs false

/- '==' of structs, field by field: a list of fields with what stands in them -/
structure FEq where
  f : Field
  x : Value
  y : Value
  b : Bool
def FEq.Ok (P : Program) (w : World) (d : Nat) (xs ys : Array Value) (z : FEq) : Prop :=
  z.f.name ≠ "_" ∧ (part z.f.type xs z.f.offset).run P w = .ok z.x w ∧ (part z.f.type ys z.f.offset).run P w = .ok z.y w ∧ (Op.equalIn d z.f.type z.x z.y).run P w = .ok z.b w
theorem eqFieldsL {P : Program} (w : World) (d : Nat) (xs ys : Array Value) : ∀ (l : List FEq), (∀ z ∈ l, z.Ok P w d xs ys) → (Op.eqFields d xs ys (l.map (·.f))).run P w = .ok (l.all (·.b)) w
  | [], _ => by simp [Op.eqFields]
  | z :: l, h => by
    obtain ⟨n, p, q, e⟩ := h z (by simp)
    have ih := eqFieldsL w d xs ys l (fun y hy => h y (by simp [hy]))
    simp only [List.map_cons, Op.eqFields, if_pos n, Sem.run_bind, p, q, e, Result.andThen_ok, Sem.run_ite, Sem.run_pure, ih, List.all_cons]
    cases z.b <;> simp [ih]
/- fields of a struct by name, type and place -/
def FIs (f : Field) (n : String) (t : TypeId) (o : Nat) : Prop := f.name = n ∧ f.type = t ∧ f.offset = o
def qeq (s t : Qd) : Bool := (s.f == t.f && (s.t == t.t && s.i == t.i)) && s.o == t.o
theorem eqHalfV (d : Nat) (s t : Qd) (w : World) : (Op.equalIn (d + 3) 91 (s.val) (t.val)).run Tryz.prog w = .ok (qeq s t) w := by
  rw [run_equalIn_struct w (d + 2) _ _ _ (by kernel_rfl) (by kernel_rfl)]
  have hf : ∃ f0 f1 : Field, (Tryz.prog.fieldsOf 91).toList = [f0, f1] ∧ FIs f0 "Out" 25 0 ∧ FIs f1 "At" 3 3 := by
    unfold Program.fieldsOf
    rw [Tryz.underlying91]
    exact ⟨_, _, rfl, ⟨rfl, rfl, rfl⟩, ⟨rfl, rfl, rfl⟩⟩
  obtain ⟨f0, f1, hf, ⟨n0, t0, o0⟩, ⟨n1, t1, o1⟩⟩ := hf
  rw [hf]
  refine eqFields2V w (d + 2) _ _ f0 f1 (by rw [n0]; decide) (by rw [n1]; decide) (.agg #[.int .i64 (s.f), .int .i64 (s.t), .int .i64 (s.i)]) (.int .i64 s.o) (.agg #[.int .i64 (t.f), .int .i64 (t.t), .int .i64 (t.i)]) (.int .i64 t.o) _ _ ?_ ?_ ?_ ?_ ?_ ?_
  · rw [t0, o0]; kernel_rfl
  · rw [t1, o1]; kernel_rfl
  · rw [t0, o0]; kernel_rfl
  · rw [t1, o1]; kernel_rfl
  · rw [t0]; exact eqVecV d _ _ _ _ _ _ w
  · rw [t1]; exact run_equalIn_int w (d + 1) _ .i64 .i64 _ _ Tryz.underlying3
theorem eqBallV (d : Nat) (s t : Qd) (w : World) : (Op.equalIn (d + 3) 93 (s.val) (t.val)).run Tryz.prog w = .ok (qeq s t) w := by
  rw [run_equalIn_struct w (d + 2) _ _ _ (by kernel_rfl) (by kernel_rfl)]
  have hf : ∃ f0 f1 : Field, (Tryz.prog.fieldsOf 93).toList = [f0, f1] ∧ FIs f0 "At" 25 0 ∧ FIs f1 "Round" 3 3 := by
    unfold Program.fieldsOf
    rw [Tryz.underlying93]
    exact ⟨_, _, rfl, ⟨rfl, rfl, rfl⟩, ⟨rfl, rfl, rfl⟩⟩
  obtain ⟨f0, f1, hf, ⟨n0, t0, o0⟩, ⟨n1, t1, o1⟩⟩ := hf
  rw [hf]
  refine eqFields2V w (d + 2) _ _ f0 f1 (by rw [n0]; decide) (by rw [n1]; decide) (.agg #[.int .i64 (s.f), .int .i64 (s.t), .int .i64 (s.i)]) (.int .i64 s.o) (.agg #[.int .i64 (t.f), .int .i64 (t.t), .int .i64 (t.i)]) (.int .i64 t.o) _ _ ?_ ?_ ?_ ?_ ?_ ?_
  · rw [t0, o0]; kernel_rfl
  · rw [t1, o1]; kernel_rfl
  · rw [t0, o0]; kernel_rfl
  · rw [t1, o1]; kernel_rfl
  · rw [t0]; exact eqVecV d _ _ _ _ _ _ w
  · rw [t1]; exact run_equalIn_int w (d + 1) _ .i64 .i64 _ _ Tryz.underlying3
abbrev Sx.val (s : Sx) : Value := .agg #[.int .i64 (s.a), .int .i64 (s.b), .int .i64 (s.c), .int .i64 (s.d), .int .i64 (s.e), .int .i64 (s.f)]
abbrev Mo.val (m : Mo) : Value := .agg #[.int .i64 (m.a), .int .i64 (m.b), .int .i64 (m.c), .bool (m.k), .bool (m.l), .bool (m.n), .int .i64 (m.p), .int .i64 (m.q), .int .i64 (m.r)]
def xeqs (s t : Sx) : Bool := xeq s.a s.b s.c s.d s.e s.f t.a t.b t.c t.d t.e t.f
def meqs (s t : Mo) : Bool := meq s.a s.b s.c s.k s.l s.n s.p s.q s.r t.a t.b t.c t.k t.l t.n t.p t.q t.r
def peq (p q : Pt) : Bool := [p.k == q.k, qeq p.h q.h, qeq p.b q.b, xeqs p.x q.x, meqs p.m q.m, p.A == q.A, p.B == q.B, p.S == q.S].all id
theorem eqPartV (d : Nat) (p q : Pt) (w : World) : (Op.equalIn (d + 4) 95 p.val q.val).run Tryz.prog w = .ok (peq p q) w := by
  rw [run_equalIn_struct w (d + 3) _ _ _ (by kernel_rfl) (by kernel_rfl)]
  have hf : ∃ f0 f1 f2 f3 f4 f5 f6 f7 : Field, (Tryz.prog.fieldsOf 95).toList = [f0, f1, f2, f3, f4, f5, f6, f7] ∧ FIs f0 "Kind" 3 0 ∧ FIs f1 "Half" 91 1 ∧ FIs f2 "Ball" 93 5 ∧ FIs f3 "Box" 36 9 ∧ FIs f4 "Move" 52 15 ∧ FIs f5 "A" 3 24 ∧ FIs f6 "B" 3 25 ∧ FIs f7 "Stuff" 3 26 := by
    unfold Program.fieldsOf
    rw [Tryz.underlying95]
    exact ⟨_, _, _, _, _, _, _, _, rfl, ⟨rfl, rfl, rfl⟩, ⟨rfl, rfl, rfl⟩, ⟨rfl, rfl, rfl⟩, ⟨rfl, rfl, rfl⟩, ⟨rfl, rfl, rfl⟩, ⟨rfl, rfl, rfl⟩, ⟨rfl, rfl, rfl⟩, ⟨rfl, rfl, rfl⟩⟩
  obtain ⟨f0, f1, f2, f3, f4, f5, f6, f7, hf, ⟨n0, t0, o0⟩, ⟨n1, t1, o1⟩, ⟨n2, t2, o2⟩, ⟨n3, t3, o3⟩, ⟨n4, t4, o4⟩, ⟨n5, t5, o5⟩, ⟨n6, t6, o6⟩, ⟨n7, t7, o7⟩⟩ := hf
  rw [hf]
  have key := eqFieldsL (P := Tryz.prog) w (d + 3) p.arr q.arr [⟨f0, .int .i64 p.k, .int .i64 q.k, p.k == q.k⟩, ⟨f1, p.h.val, q.h.val, qeq p.h q.h⟩, ⟨f2, p.b.val, q.b.val, qeq p.b q.b⟩, ⟨f3, p.x.val, q.x.val, xeqs p.x q.x⟩, ⟨f4, p.m.val, q.m.val, meqs p.m q.m⟩, ⟨f5, .int .i64 p.A, .int .i64 q.A, p.A == q.A⟩, ⟨f6, .int .i64 p.B, .int .i64 q.B, p.B == q.B⟩, ⟨f7, .int .i64 p.S, .int .i64 q.S, p.S == q.S⟩] ?_
  · exact key
  · intro z hz
    simp only [List.mem_cons, List.not_mem_nil, or_false] at hz
    rcases hz with rfl | rfl | rfl | rfl | rfl | rfl | rfl | rfl
    · exact ⟨by show f0.name ≠ _; rw [n0]; decide, by show (part f0.type _ f0.offset).run _ _ = _; rw [t0, o0]; kernel_rfl, by show (part f0.type _ f0.offset).run _ _ = _; rw [t0, o0]; kernel_rfl, by show (Op.equalIn _ f0.type _ _).run _ _ = _; rw [t0]; exact run_equalIn_int w (d + 2) _ .i64 .i64 _ _ Tryz.underlying3⟩
    · exact ⟨by show f1.name ≠ _; rw [n1]; decide, by show (part f1.type _ f1.offset).run _ _ = _; rw [t1, o1]; kernel_rfl, by show (part f1.type _ f1.offset).run _ _ = _; rw [t1, o1]; kernel_rfl, by show (Op.equalIn _ f1.type _ _).run _ _ = _; rw [t1]; exact eqHalfV d _ _ w⟩
    · exact ⟨by show f2.name ≠ _; rw [n2]; decide, by show (part f2.type _ f2.offset).run _ _ = _; rw [t2, o2]; kernel_rfl, by show (part f2.type _ f2.offset).run _ _ = _; rw [t2, o2]; kernel_rfl, by show (Op.equalIn _ f2.type _ _).run _ _ = _; rw [t2]; exact eqBallV d _ _ w⟩
    · exact ⟨by show f3.name ≠ _; rw [n3]; decide, by show (part f3.type _ f3.offset).run _ _ = _; rw [t3, o3]; kernel_rfl, by show (part f3.type _ f3.offset).run _ _ = _; rw [t3, o3]; kernel_rfl, by show (Op.equalIn _ f3.type _ _).run _ _ = _; rw [t3]; exact eqBoxV d _ _ _ _ _ _ _ _ _ _ _ _ w⟩
    · exact ⟨by show f4.name ≠ _; rw [n4]; decide, by show (part f4.type _ f4.offset).run _ _ = _; rw [t4, o4]; kernel_rfl, by show (part f4.type _ f4.offset).run _ _ = _; rw [t4, o4]; kernel_rfl, by show (Op.equalIn _ f4.type _ _).run _ _ = _; rw [t4]; exact eqMotV d _ _ _ _ _ _ _ _ _ _ _ _ _ _ _ _ _ _ w⟩
    · exact ⟨by show f5.name ≠ _; rw [n5]; decide, by show (part f5.type _ f5.offset).run _ _ = _; rw [t5, o5]; kernel_rfl, by show (part f5.type _ f5.offset).run _ _ = _; rw [t5, o5]; kernel_rfl, by show (Op.equalIn _ f5.type _ _).run _ _ = _; rw [t5]; exact run_equalIn_int w (d + 2) _ .i64 .i64 _ _ Tryz.underlying3⟩
    · exact ⟨by show f6.name ≠ _; rw [n6]; decide, by show (part f6.type _ f6.offset).run _ _ = _; rw [t6, o6]; kernel_rfl, by show (part f6.type _ f6.offset).run _ _ = _; rw [t6, o6]; kernel_rfl, by show (Op.equalIn _ f6.type _ _).run _ _ = _; rw [t6]; exact run_equalIn_int w (d + 2) _ .i64 .i64 _ _ Tryz.underlying3⟩
    · exact ⟨by show f7.name ≠ _; rw [n7]; decide, by show (part f7.type _ f7.offset).run _ _ = _; rw [t7, o7]; kernel_rfl, by show (part f7.type _ f7.offset).run _ _ = _; rw [t7, o7]; kernel_rfl, by show (Op.equalIn _ f7.type _ _).run _ _ = _; rw [t7]; exact run_equalIn_int w (d + 2) _ .i64 .i64 _ _ Tryz.underlying3⟩
theorem eqlPart (p q : Pt) (w : World) : (binOp .eql 95 p.val q.val).run Tryz.prog w = .ok (.bool (peq p q)) w := by
  rw [run_eql_struct, eqPartV 9996]; rfl
theorem neqHalf (s t : Qd) (w : World) : (binOp .neq 91 s.val t.val).run Tryz.prog w = .ok (.bool (!qeq s t)) w := by
  rw [run_neq_struct, eqHalfV 9997]; rfl
theorem neqBall (s t : Qd) (w : World) : (binOp .neq 93 s.val t.val).run Tryz.prog w = .ok (.bool (!qeq s t)) w := by
  rw [run_neq_struct, eqBallV 9997]; rfl
/- parts that are built of some of their fields -/
theorem bHalf (s : Qd) (n : Int) (w : World) : (Instr.build 95 #[(0, .int .i64 0), (1, s.val), (7, .int .i64 n)]).run Tryz.prog w = .ok (Pt.val ⟨0, s, ⟨0, 0, 0, 0⟩, ⟨0, 0, 0, 0, 0, 0⟩, ⟨0, 0, 0, false, false, false, 0, 0, 0⟩, 0, 0, n⟩) w := run_build w _ _ _ (by kernel_rfl)
theorem bBall (s : Qd) (n : Int) (w : World) : (Instr.build 95 #[(0, .int .i64 1), (2, s.val), (7, .int .i64 n)]).run Tryz.prog w = .ok (Pt.val ⟨1, ⟨0, 0, 0, 0⟩, s, ⟨0, 0, 0, 0, 0, 0⟩, ⟨0, 0, 0, false, false, false, 0, 0, 0⟩, 0, 0, n⟩) w := run_build w _ _ _ (by kernel_rfl)
theorem bBox (s : Sx) (n : Int) (w : World) : (Instr.build 95 #[(0, .int .i64 2), (3, s.val), (7, .int .i64 n)]).run Tryz.prog w = .ok (Pt.val ⟨2, ⟨0, 0, 0, 0⟩, ⟨0, 0, 0, 0⟩, s, ⟨0, 0, 0, false, false, false, 0, 0, 0⟩, 0, 0, n⟩) w := run_build w _ _ _ (by kernel_rfl)
theorem bTwo (k a b : Int) (w : World) : (Instr.build 95 #[(0, .int .i64 k), (5, .int .i64 a), (6, .int .i64 b)]).run Tryz.prog w = .ok (Pt.val ⟨k, ⟨0, 0, 0, 0⟩, ⟨0, 0, 0, 0⟩, ⟨0, 0, 0, 0, 0, 0⟩, ⟨0, 0, 0, false, false, false, 0, 0, 0⟩, a, b, 0⟩) w := run_build w _ _ _ (by kernel_rfl)
theorem bMov (m : Mo) (a : Int) (w : World) : (Instr.build 95 #[(0, .int .i64 6), (4, m.val), (5, .int .i64 a)]).run Tryz.prog w = .ok (Pt.val ⟨6, ⟨0, 0, 0, 0⟩, ⟨0, 0, 0, 0⟩, ⟨0, 0, 0, 0, 0, 0⟩, m, a, 0, 0⟩) w := run_build w _ _ _ (by kernel_rfl)
end Go.Proofs.YtckenfomnenknaaGreat
