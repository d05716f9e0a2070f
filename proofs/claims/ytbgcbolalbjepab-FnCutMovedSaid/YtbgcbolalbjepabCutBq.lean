import Derived.Deep.Cut
import Derived.Test.YtbgcbolalbjepabCutAq
import Derived.Test.YtbgcbolalbjepabDrawMq
import Derived.Test.YtbgcbolalbjepabDrawYq
import Derived.Test.YtbgcbolalbjepabEqsq
import Derived.Test.YtbgcbolalbjepabHeld6q
import Derived.Test.YtbgcbolalbjepabRayC2q
import Derived.Test.YtbgcbolalbjepabRayMq
import Derived.Test.YtbgcbolalbjepabRayNq
import Derived.Test.YtbgcbolalbjepabRayOq
import Derived.Test.YtbgcbolalbjepabRayq
set_option linter.unusedSimpArgs false
namespace Go.Proofs.Ytbgcbolalbjepab
open Go.ChangeShapes Go.WideShapes Go.ChangeAt Go.RowKit

/- a struct of two fields is itself -/
theorem eqFields2 {P : Program} (w : World) (d : Nat) (xs : Array Value) (f0 f1 : Field) (n0 : f0.name ≠ "_") (n1 : f1.name ≠ "_") (x0 x1 : Value)
    (p0 : (part f0.type xs f0.offset).run P w = .ok x0 w) (p1 : (part f1.type xs f1.offset).run P w = .ok x1 w)
    (e0 : (Op.equalIn d f0.type x0 x0).run P w = .ok true w) (e1 : (Op.equalIn d f1.type x1 x1).run P w = .ok true w) :
    (Op.eqFields d xs xs [f0, f1]).run P w = .ok true w := by
  simp only [Op.eqFields, if_pos n0, if_pos n1, Sem.run_bind, p0, e0, Result.andThen_ok, Sem.run_ite, Sem.run_pure, p1, e1]
  simp [p1, e1]
theorem vecSelf (d : Nat) (a b c : Int) (w : World) : (Op.equalIn (d + 2) 28 (.agg #[.int .i64 (a), .int .i64 (b), .int .i64 (c)]) (.agg #[.int .i64 (a), .int .i64 (b), .int .i64 (c)])).run Try.prog w = .ok true w := by
  rw [eqVecV]; simp
theorem intSelf (d : Nat) (a : Int) (w : World) : (Op.equalIn (d + 1) 3 (.int .i64 a) (.int .i64 a)).run Try.prog w = .ok true w := by
  rw [run_equalIn_int w d _ .i64 .i64 _ _ Try.underlying3]; simp
theorem halfSelf (d : Nat) (a b c e : Int) (w : World) : (Op.equalIn (d + 3) 52 (.agg #[.int .i64 (a), .int .i64 (b), .int .i64 (c), .int .i64 (e)]) (.agg #[.int .i64 (a), .int .i64 (b), .int .i64 (c), .int .i64 (e)])).run Try.prog w = .ok true w := by
  rw [run_equalIn_struct w (d + 2) _ _ _ (by kernel_rfl) (by kernel_rfl)]
  have hf : ∃ f0 f1 : Field, (Try.prog.fieldsOf 52).toList = [f0, f1] ∧ (f0.name = "Out" ∧ f0.type = 28 ∧ f0.offset = 0) ∧ (f1.name = "At" ∧ f1.type = 3 ∧ f1.offset = 3) := by
    unfold Program.fieldsOf
    rw [Try.underlying52]
    exact ⟨_, _, rfl, ⟨rfl, rfl, rfl⟩, ⟨rfl, rfl, rfl⟩⟩
  obtain ⟨f0, f1, hf, ⟨n0, t0, o0⟩, ⟨n1, t1, o1⟩⟩ := hf
  rw [hf]
  refine eqFields2 w (d + 2) _ f0 f1 (by rw [n0]; decide) (by rw [n1]; decide) (.agg #[.int .i64 (a), .int .i64 (b), .int .i64 (c)]) (.int .i64 e) ?_ ?_ ?_ ?_
  · rw [t0, o0]; kernel_rfl
  · rw [t1, o1]; kernel_rfl
  · rw [t0]; exact vecSelf d _ _ _ w
  · rw [t1]; exact intSelf (d + 1) _ w
theorem ballSelf (d : Nat) (a b c e : Int) (w : World) : (Op.equalIn (d + 3) 60 (.agg #[.int .i64 (a), .int .i64 (b), .int .i64 (c), .int .i64 (e)]) (.agg #[.int .i64 (a), .int .i64 (b), .int .i64 (c), .int .i64 (e)])).run Try.prog w = .ok true w := by
  rw [run_equalIn_struct w (d + 2) _ _ _ (by kernel_rfl) (by kernel_rfl)]
  have hf : ∃ f0 f1 : Field, (Try.prog.fieldsOf 60).toList = [f0, f1] ∧ (f0.name = "At" ∧ f0.type = 28 ∧ f0.offset = 0) ∧ (f1.name = "Round" ∧ f1.type = 3 ∧ f1.offset = 3) := by
    unfold Program.fieldsOf
    rw [Try.underlying60]
    exact ⟨_, _, rfl, ⟨rfl, rfl, rfl⟩, ⟨rfl, rfl, rfl⟩⟩
  obtain ⟨f0, f1, hf, ⟨n0, t0, o0⟩, ⟨n1, t1, o1⟩⟩ := hf
  rw [hf]
  refine eqFields2 w (d + 2) _ f0 f1 (by rw [n0]; decide) (by rw [n1]; decide) (.agg #[.int .i64 (a), .int .i64 (b), .int .i64 (c)]) (.int .i64 e) ?_ ?_ ?_ ?_
  · rw [t0, o0]; kernel_rfl
  · rw [t1, o1]; kernel_rfl
  · rw [t0]; exact vecSelf d _ _ _ w
  · rw [t1]; exact intSelf (d + 1) _ w
theorem raySelf (d : Nat) (a b c x y z : Int) (w : World) : (Op.equalIn (d + 3) 44 (.agg #[.int .i64 (a), .int .i64 (b), .int .i64 (c), .int .i64 (x), .int .i64 (y), .int .i64 (z)]) (.agg #[.int .i64 (a), .int .i64 (b), .int .i64 (c), .int .i64 (x), .int .i64 (y), .int .i64 (z)])).run Try.prog w = .ok true w := by
  rw [run_equalIn_struct w (d + 2) _ _ _ (by kernel_rfl) (by kernel_rfl)]
  have hf : ∃ f0 f1 : Field, (Try.prog.fieldsOf 44).toList = [f0, f1] ∧ (f0.name = "From" ∧ f0.type = 28 ∧ f0.offset = 0) ∧ (f1.name = "To" ∧ f1.type = 28 ∧ f1.offset = 3) := by
    unfold Program.fieldsOf
    rw [Try.underlying44]
    exact ⟨_, _, rfl, ⟨rfl, rfl, rfl⟩, ⟨rfl, rfl, rfl⟩⟩
  obtain ⟨f0, f1, hf, ⟨n0, t0, o0⟩, ⟨n1, t1, o1⟩⟩ := hf
  rw [hf]
  refine eqFields2 w (d + 2) _ f0 f1 (by rw [n0]; decide) (by rw [n1]; decide) (.agg #[.int .i64 (a), .int .i64 (b), .int .i64 (c)]) (.agg #[.int .i64 (x), .int .i64 (y), .int .i64 (z)]) ?_ ?_ ?_ ?_
  · rw [t0, o0]; kernel_rfl
  · rw [t1, o1]; kernel_rfl
  · rw [t0]; exact vecSelf d _ _ _ w
  · rw [t1]; exact vecSelf d _ _ _ w
theorem eqlHalf (a b c e : Int) (w : World) : (binOp .eql 52 (.agg #[.int .i64 (a), .int .i64 (b), .int .i64 (c), .int .i64 (e)]) (.agg #[.int .i64 (a), .int .i64 (b), .int .i64 (c), .int .i64 (e)])).run Try.prog w = .ok (.bool true) w := by rw [run_eql_struct, halfSelf 9997]; rfl
theorem neqHalf (a b c e : Int) (w : World) : (binOp .neq 52 (.agg #[.int .i64 (a), .int .i64 (b), .int .i64 (c), .int .i64 (e)]) (.agg #[.int .i64 (a), .int .i64 (b), .int .i64 (c), .int .i64 (e)])).run Try.prog w = .ok (.bool false) w := by rw [run_neq_struct, halfSelf 9997]; rfl
theorem eqlBall (a b c e : Int) (w : World) : (binOp .eql 60 (.agg #[.int .i64 (a), .int .i64 (b), .int .i64 (c), .int .i64 (e)]) (.agg #[.int .i64 (a), .int .i64 (b), .int .i64 (c), .int .i64 (e)])).run Try.prog w = .ok (.bool true) w := by rw [run_eql_struct, ballSelf 9997]; rfl
theorem neqBall (a b c e : Int) (w : World) : (binOp .neq 60 (.agg #[.int .i64 (a), .int .i64 (b), .int .i64 (c), .int .i64 (e)]) (.agg #[.int .i64 (a), .int .i64 (b), .int .i64 (c), .int .i64 (e)])).run Try.prog w = .ok (.bool false) w := by rw [run_neq_struct, ballSelf 9997]; rfl
theorem eqlRay (a b c x y z : Int) (w : World) : (binOp .eql 44 (.agg #[.int .i64 (a), .int .i64 (b), .int .i64 (c), .int .i64 (x), .int .i64 (y), .int .i64 (z)]) (.agg #[.int .i64 (a), .int .i64 (b), .int .i64 (c), .int .i64 (x), .int .i64 (y), .int .i64 (z)])).run Try.prog w = .ok (.bool true) w := by rw [run_eql_struct, raySelf 9997]; rfl
theorem neqRay (a b c x y z : Int) (w : World) : (binOp .neq 44 (.agg #[.int .i64 (a), .int .i64 (b), .int .i64 (c), .int .i64 (x), .int .i64 (y), .int .i64 (z)]) (.agg #[.int .i64 (a), .int .i64 (b), .int .i64 (c), .int .i64 (x), .int .i64 (y), .int .i64 (z)])).run Try.prog w = .ok (.bool false) w := by rw [run_neq_struct, raySelf 9997]; rfl
theorem codeBelow {w w' : World} {n : Nat} {A : Option Addr} (h : Code w w.heap.size A n) (hb : Below w.heap.size w w') : Code w' w'.heap.size A n := fun hn => by
  obtain ⟨b, off, rfl, hlt, hc⟩ := h hn
  refine ⟨b, off, rfl, Nat.lt_of_lt_of_le hlt hb.size, fun j hj => ?_⟩
  obtain ⟨x, h0, h1, h2⟩ := hc j hj
  exact ⟨x, h0, h1, by rw [hb.cell (p := ⟨b, off + j, none⟩) hlt]; exact h2⟩
end Go.Proofs.Ytbgcbolalbjepab
namespace Go.Proofs.Ytbgcbolalbjepab
open Go.ChangeShapes Go.WideShapes Go.ChangeAt Go.RowKit
set_option linter.unusedSimpArgs false
set_option linter.unusedVariables false
set_option maxHeartbeats 4000000

/- what a motion keeps of half-spaces, balls and rays: where they are cut -/
theorem dot3_tu {a b c : Int} (h : Perm a b c) (k l n : Bool) (x y z u v t : Int) :
    dot3 (tu a k x y z) (tu b l x y z) (tu c n x y z) (tu a k u v t) (tu b l u v t) (tu c n u v t) = dot3 x y z u v t := by
  rcases h with ⟨rfl, rfl, rfl⟩ | ⟨rfl, rfl, rfl⟩ | ⟨rfl, rfl, rfl⟩ | ⟨rfl, rfl, rfl⟩ | ⟨rfl, rfl, rfl⟩ | ⟨rfl, rfl, rfl⟩ <;> cases k <;> cases l <;> cases n <;> simp [dot3, tu, sg, pk] <;> grind
theorem dotE {a b c : Int} {k l n : Bool} {x y z u v t X Y Z U V T : Int} (h : Perm a b c) (e1 : TuE a b c k l n x y z X Y Z) (e2 : TuE a b c k l n u v t U V T) : dot3 X Y Z U V T = dot3 x y z u v t := by
  obtain ⟨rfl, rfl, rfl⟩ := e1
  obtain ⟨rfl, rfl, rfl⟩ := e2
  exact dot3_tu h k l n x y z u v t
theorem halfKeeps {a b c : Int} {k l o : Bool} {p q r f1 f2 f3 f4 x y z u v t X Y Z g D P Q R U V T : Int} (hm : Mok a b c p q r) (hf : Hok f1 f2 f3 f4) (hr : Rok x y z u v t) (e1 : HmE a b c k l o p q r f1 f2 f3 f4 X Y Z g D)
    (e2 : TuE a b c k l o x y z P Q R) (e3 : TuE a b c k l o u v t U V T) (hF : Hok X Y Z D) (hR : Rok (P + p) (Q + q) (R + r) U V T) : ∃ A B : Int,
    (∀ w, Calls Try.prog 54 #[.agg #[.int .i64 (f1), .int .i64 (f2), .int .i64 (f3), .int .i64 (f4)], .agg #[.int .i64 (x), .int .i64 (y), .int .i64 (z), .int .i64 (u), .int .i64 (v), .int .i64 (t)]] w fun e w' => e = .returned (.tuple #[.int .i64 (A), .int .i64 (B)]) ∧ Below w.heap.size w w') ∧ (∀ w, Calls Try.prog 54 #[.agg #[.int .i64 (X), .int .i64 (Y), .int .i64 (Z), .int .i64 (D)], .agg #[.int .i64 (P + p), .int .i64 (Q + q), .int .i64 (R + r), .int .i64 (U), .int .i64 (V), .int .i64 (T)]] w fun e w' => e = .returned (.tuple #[.int .i64 (A), .int .i64 (B)]) ∧ Below w.heap.size w w') := by
  obtain ⟨e1, hg, hD, -, -⟩ := e1
  have d1 := dotE hm.1 e1 e2
  have d2 := dotE hm.1 e1 e3
  have d3 : dot3 X Y Z (P + p) (Q + q) (R + r) = dot3 f1 f2 f3 x y z + g := by rw [← d1, ← hg]; unfold dot3; grind
  have d4 : D - dot3 X Y Z (P + p) (Q + q) (R + r) = f4 - dot3 f1 f2 f3 x y z := by omega
  obtain ⟨A, B, hc⟩ := cutE f4 (dot3 f1 f2 f3 x y z) (dot3 f1 f2 f3 u v t) (((f4 - dot3 f1 f2 f3 x y z) * 4096).fdiv (dot3 f1 f2 f3 u v t))
  refine ⟨A, B, fun w => ihalfCut_yes _ _ _ _ _ _ _ _ _ _ _ _ _ _ _ w hf hr rfl rfl rfl hc, fun w => ihalfCut_yes _ _ _ _ _ _ _ _ _ _ _ (dot3 f1 f2 f3 u v t) (((f4 - dot3 f1 f2 f3 x y z) * 4096).fdiv (dot3 f1 f2 f3 u v t)) _ _ w hF hR rfl d2 (by rw [d4]) ?_⟩
  unfold CutE at *
  rw [d4]
  exact hc
theorem ballKeeps {a b c : Int} {k l o : Bool} {p q r g1 g2 g3 g4 x y z u v t X Y Z P Q R U V T : Int} (hm : Mok a b c p q r) (hb : Bok g1 g2 g3 g4) (hr : Rok x y z u v t) (e1 : TuE a b c k l o g1 g2 g3 X Y Z)
    (e2 : TuE a b c k l o x y z P Q R) (e3 : TuE a b c k l o u v t U V T) (hB : Bok (X + p) (Y + q) (Z + r) g4) (hR : Rok (P + p) (Q + q) (R + r) U V T) : ∃ A B : Int,
    (∀ w, Calls Try.prog 56 #[.agg #[.int .i64 (g1), .int .i64 (g2), .int .i64 (g3), .int .i64 (g4)], .agg #[.int .i64 (x), .int .i64 (y), .int .i64 (z), .int .i64 (u), .int .i64 (v), .int .i64 (t)]] w fun e w' => e = .returned (.tuple #[.int .i64 (A), .int .i64 (B)]) ∧ Below w.heap.size w w') ∧ (∀ w, Calls Try.prog 56 #[.agg #[.int .i64 (X + p), .int .i64 (Y + q), .int .i64 (Z + r), .int .i64 (g4)], .agg #[.int .i64 (P + p), .int .i64 (Q + q), .int .i64 (R + r), .int .i64 (U), .int .i64 (V), .int .i64 (T)]] w fun e w' => e = .returned (.tuple #[.int .i64 (A), .int .i64 (B)]) ∧ Below w.heap.size w w') := by
  obtain ⟨a1, a2, a3, D, E, G, s, P1, P2, W, h1⟩ := bcE hb hr
  obtain ⟨b1, b2, b3, D', E', G', s', P1', P2', W', h2⟩ := bcE hB hR
  have eD : D' = D := by rw [← h1.2.1.1, ← h2.2.1.1]; exact dotE hm.1 e3 e3
  have x1 := dotE hm.1 e3 e2
  have x2 := dotE hm.1 e3 e1
  have x3 := dotE hm.1 e2 e2
  have x4 := dotE hm.1 e2 e1
  have x5 := dotE hm.1 e1 e1
  have eE : E' = E := by
    rw [← h1.2.1.2.1, ← h2.2.1.2.1]
    obtain ⟨⟨rfl, rfl, rfl⟩, -⟩ := h1
    obtain ⟨⟨rfl, rfl, rfl⟩, -⟩ := h2
    have y1 : dot3 U V T (P + p - (X + p)) (Q + q - (Y + q)) (R + r - (Z + r)) = dot3 U V T P Q R - dot3 U V T X Y Z := by unfold dot3; grind
    have y2 : dot3 u v t (x - g1) (y - g2) (z - g3) = dot3 u v t x y z - dot3 u v t g1 g2 g3 := by unfold dot3; grind
    rw [y1, y2, x1, x2]
  have eG : G' = G := by
    rw [← h1.2.1.2.2, ← h2.2.1.2.2]
    obtain ⟨⟨rfl, rfl, rfl⟩, -⟩ := h1
    obtain ⟨⟨rfl, rfl, rfl⟩, -⟩ := h2
    have y1 : dot3 (P + p - (X + p)) (Q + q - (Y + q)) (R + r - (Z + r)) (P + p - (X + p)) (Q + q - (Y + q)) (R + r - (Z + r)) = dot3 P Q R P Q R - 2 * dot3 P Q R X Y Z + dot3 X Y Z X Y Z := by unfold dot3; grind
    have y2 : dot3 (x - g1) (y - g2) (z - g3) (x - g1) (y - g2) (z - g3) = dot3 x y z x y z - 2 * dot3 x y z g1 g2 g3 + dot3 g1 g2 g3 g1 g2 g3 := by unfold dot3; grind
    rw [y1, y2, x3, x4, x5]
  have es : s' = s := by rw [← h1.2.2.1.1, ← h2.2.2.1.1]
  subst eD eE eG es
  have eP : P1' = P1 := by rw [← h1.2.2.1.2.1, ← h2.2.2.1.2.1]
  have eQ : P2' = P2 := by rw [← h1.2.2.1.2.2.1, ← h2.2.2.1.2.2.1]
  subst eP eQ
  have eW : W' = W := by rw [← h1.2.2.1.2.2.2, ← h2.2.2.1.2.2.2]
  subst eW
  have u2 : W' ≤ 4800000000 := h1.2.2.2.2.2.2.2.2.2
  by_cases h0 : 0 ≤ W'
  · obtain ⟨RR, R1, QQ, hq⟩ := rtE h0 u2
    obtain ⟨A, B, hf⟩ := flE D' E' RR R1
    exact ⟨A, B, fun w => iballCut_yes _ _ _ _ _ _ _ _ _ _ _ _ _ _ _ _ _ _ _ _ _ _ _ _ _ w hb hr h1 h0 hq hf, fun w => iballCut_yes _ _ _ _ _ _ _ _ _ _ _ _ _ _ _ _ _ _ _ _ _ _ _ _ _ w hB hR h2 h0 hq hf⟩
  · exact ⟨0, 0, fun w => iballCut_neg _ _ _ _ _ _ _ _ _ _ _ _ _ _ _ _ _ _ _ _ w hb hr h1 (by omega), fun w => iballCut_neg _ _ _ _ _ _ _ _ _ _ _ _ _ _ _ _ _ _ _ _ w hB hR h2 (by omega)⟩
theorem halfMv (a b c : Int) (k l o : Bool) (p q r f1 f2 f3 f4 : Int) : ∃ H1 H2 H3 H4 : Int,
    (∀ w, Calls Try.prog 31 #[.agg #[.int .i64 (a), .int .i64 (b), .int .i64 (c), .bool (k), .bool (l), .bool (o), .int .i64 (p), .int .i64 (q), .int .i64 (r)], .agg #[.int .i64 (f1), .int .i64 (f2), .int .i64 (f3), .int .i64 (f4)]] w fun e w' => e = .returned (.agg #[.int .i64 (H1), .int .i64 (H2), .int .i64 (H3), .int .i64 (H4)]) ∧ Below w.heap.size w w') ∧ (∀ w, Calls Try.prog 29 #[.agg #[.int .i64 (a), .int .i64 (b), .int .i64 (c), .bool (k), .bool (l), .bool (o), .int .i64 (p), .int .i64 (q), .int .i64 (r)], .agg #[.int .i64 (f1), .int .i64 (f2), .int .i64 (f3), .int .i64 (f4)]] w fun e w' => e = .returned (.agg #[.int .i64 (H1), .int .i64 (H2), .int .i64 (H3), .int .i64 (H4)]) ∧ Below w.heap.size w w') ∧
    (¬ Hok H1 H2 H3 H4 ∨ (Mok a b c p q r ∧ Hok f1 f2 f3 f4 ∧ Hok H1 H2 H3 H4 ∧ ∃ g, HmE a b c k l o p q r f1 f2 f3 f4 H1 H2 H3 g H4)) := by
  by_cases h : Mok a b c p q r ∧ Hok f1 f2 f3 f4
  · obtain ⟨X, Y, Z, g, D, e⟩ := hmE a b c k l o p q r f1 f2 f3 f4 h.1 h.2
    by_cases ho : Hok X Y Z D
    · exact ⟨X, Y, Z, D, fun w => iHalfMoved_yes _ _ _ _ _ _ _ _ _ _ _ _ _ _ _ _ _ _ w h.1 h.2 e ho, fun w => sHalfMoved_yes _ _ _ _ _ _ _ _ _ _ _ _ _ _ _ _ _ _ w h.1 h.2 e ho, .inr ⟨h.1, h.2, ho, g, e⟩⟩
    · exact ⟨0, 0, 0, 0, fun w => iHalfMoved_far _ _ _ _ _ _ _ _ _ _ _ _ _ _ _ _ _ _ w h.1 h.2 e ho, fun w => sHalfMoved_far _ _ _ _ _ _ _ _ _ _ _ _ _ _ _ _ _ _ w h.1 h.2 e ho, .inl (by unfold Hok; omega)⟩
  · exact ⟨0, 0, 0, 0, fun w => iHalfMoved_no _ _ _ _ _ _ _ _ _ _ _ _ _ w h, fun w => sHalfMoved_no _ _ _ _ _ _ _ _ _ _ _ _ _ w h, .inl (by unfold Hok; omega)⟩
theorem ballMv (a b c : Int) (k l o : Bool) (p q r g1 g2 g3 g4 : Int) : ∃ H1 H2 H3 H4 : Int,
    (∀ w, Calls Try.prog 35 #[.agg #[.int .i64 (a), .int .i64 (b), .int .i64 (c), .bool (k), .bool (l), .bool (o), .int .i64 (p), .int .i64 (q), .int .i64 (r)], .agg #[.int .i64 (g1), .int .i64 (g2), .int .i64 (g3), .int .i64 (g4)]] w fun e w' => e = .returned (.agg #[.int .i64 (H1), .int .i64 (H2), .int .i64 (H3), .int .i64 (H4)]) ∧ Below w.heap.size w w') ∧ (∀ w, Calls Try.prog 33 #[.agg #[.int .i64 (a), .int .i64 (b), .int .i64 (c), .bool (k), .bool (l), .bool (o), .int .i64 (p), .int .i64 (q), .int .i64 (r)], .agg #[.int .i64 (g1), .int .i64 (g2), .int .i64 (g3), .int .i64 (g4)]] w fun e w' => e = .returned (.agg #[.int .i64 (H1), .int .i64 (H2), .int .i64 (H3), .int .i64 (H4)]) ∧ Below w.heap.size w w') ∧
    (¬ Bok H1 H2 H3 H4 ∨ (Mok a b c p q r ∧ Bok g1 g2 g3 g4 ∧ Bok H1 H2 H3 H4 ∧ ∃ X Y Z, TuE a b c k l o g1 g2 g3 X Y Z ∧ H1 = X + p ∧ H2 = Y + q ∧ H3 = Z + r ∧ H4 = g4)) := by
  by_cases h : Mok a b c p q r ∧ Bok g1 g2 g3 g4
  · obtain ⟨X, Y, Z, e⟩ := tuE_ex a b c k l o g1 g2 g3
    by_cases ho : Bok (X + p) (Y + q) (Z + r) g4
    · exact ⟨_, _, _, _, fun w => iBallMoved_yes _ _ _ _ _ _ _ _ _ _ _ _ _ _ _ _ w h.1 h.2 e ho, fun w => sBallMoved_yes _ _ _ _ _ _ _ _ _ _ _ _ _ _ _ _ w h.1 h.2 e ho, .inr ⟨h.1, h.2, ho, X, Y, Z, e, rfl, rfl, rfl, rfl⟩⟩
    · exact ⟨0, 0, 0, 0, fun w => iBallMoved_far _ _ _ _ _ _ _ _ _ _ _ _ _ _ _ _ w h.1 h.2 e ho, fun w => sBallMoved_far _ _ _ _ _ _ _ _ _ _ _ _ _ _ _ _ w h.1 h.2 e ho, .inl (by unfold Bok; omega)⟩
  · exact ⟨0, 0, 0, 0, fun w => iBallMoved_no _ _ _ _ _ _ _ _ _ _ _ _ _ w h, fun w => sBallMoved_no _ _ _ _ _ _ _ _ _ _ _ _ _ w h, .inl (by unfold Bok; omega)⟩
theorem rayMv (a b c : Int) (k l o : Bool) (p q r x y z u v t : Int) : ∃ R1 R2 R3 R4 R5 R6 : Int,
    (∀ w, Calls Try.prog 27 #[.agg #[.int .i64 (a), .int .i64 (b), .int .i64 (c), .bool (k), .bool (l), .bool (o), .int .i64 (p), .int .i64 (q), .int .i64 (r)], .agg #[.int .i64 (x), .int .i64 (y), .int .i64 (z), .int .i64 (u), .int .i64 (v), .int .i64 (t)]] w fun e w' => e = .returned (.agg #[.int .i64 (R1), .int .i64 (R2), .int .i64 (R3), .int .i64 (R4), .int .i64 (R5), .int .i64 (R6)]) ∧ Below w.heap.size w w') ∧ (∀ w, Calls Try.prog 25 #[.agg #[.int .i64 (a), .int .i64 (b), .int .i64 (c), .bool (k), .bool (l), .bool (o), .int .i64 (p), .int .i64 (q), .int .i64 (r)], .agg #[.int .i64 (x), .int .i64 (y), .int .i64 (z), .int .i64 (u), .int .i64 (v), .int .i64 (t)]] w fun e w' => e = .returned (.agg #[.int .i64 (R1), .int .i64 (R2), .int .i64 (R3), .int .i64 (R4), .int .i64 (R5), .int .i64 (R6)]) ∧ Below w.heap.size w w') ∧
    (¬ Rok R1 R2 R3 R4 R5 R6 ∨ (Mok a b c p q r ∧ Rok x y z u v t ∧ Rok R1 R2 R3 R4 R5 R6 ∧ ∃ X Y Z, TuE a b c k l o x y z X Y Z ∧ TuE a b c k l o u v t R4 R5 R6 ∧ R1 = X + p ∧ R2 = Y + q ∧ R3 = Z + r)) := by
  by_cases h : Mok a b c p q r ∧ Rok x y z u v t
  · obtain ⟨X, Y, Z, e⟩ := tuE_ex a b c k l o x y z
    obtain ⟨U, V, T, e2⟩ := tuE_ex a b c k l o u v t
    by_cases ho : Rok (X + p) (Y + q) (Z + r) U V T
    · exact ⟨_, _, _, _, _, _, fun w => iRayMoved_yes _ _ _ _ _ _ _ _ _ _ _ _ _ _ _ _ _ _ _ _ _ w h.1 h.2 e e2 ho, fun w => sRayMoved_yes _ _ _ _ _ _ _ _ _ _ _ _ _ _ _ _ _ _ _ _ _ w h.1 h.2 e e2 ho, .inr ⟨h.1, h.2, ho, X, Y, Z, e, e2, rfl, rfl, rfl⟩⟩
    · exact ⟨0, 0, 0, 0, 0, 0, fun w => iRayMoved_far _ _ _ _ _ _ _ _ _ _ _ _ _ _ _ _ _ _ _ _ _ w h.1 h.2 e e2 ho, fun w => sRayMoved_far _ _ _ _ _ _ _ _ _ _ _ _ _ _ _ _ _ _ _ _ _ w h.1 h.2 e e2 ho, .inl (by unfold Rok Dir; omega)⟩
  · exact ⟨0, 0, 0, 0, 0, 0, fun w => iRayMoved_no _ _ _ _ _ _ _ _ _ _ _ _ _ _ _ w h, fun w => sRayMoved_no _ _ _ _ _ _ _ _ _ _ _ _ _ _ _ w h, .inl (by unfold Rok Dir; omega)⟩
end Go.Proofs.Ytbgcbolalbjepab
namespace Go.Proofs.Ytbgcbolalbjepab
open Go.ChangeShapes Go.WideShapes Go.ChangeAt Go.RowKit
set_option linter.unusedSimpArgs false
set_option linter.unusedVariables false
set_option maxHeartbeats 4000000
set_option maxRecDepth 8000
attribute [-go_sem] run_eql_struct run_neq_struct
attribute [local go_sem] VGo_value VGo_skip VGo_enter eqlVec neqVec

theorem drawHalfMoved_any (A : Option Addr) (n c : Nat) (w : World) (hnc : n ≤ c) (hcap : c ≤ 9223372036854775807) (hcode : Code w w.heap.size A n) :
    Calls Try.prog 49 #[.slice A n c] w fun e w' => ∃ (a b c3 : Int) (k l o : Bool) (p q r f1 f2 f3 f4 : Int), e = .returned (.tuple #[.agg #[.int .i64 (a), .int .i64 (b), .int .i64 (c3), .bool (k), .bool (l), .bool (o), .int .i64 (p), .int .i64 (q), .int .i64 (r)], .agg #[.int .i64 (f1), .int .i64 (f2), .int .i64 (f3), .int .i64 (f4)]]) ∧ Below w.heap.size w w' := by
  go_enter Try.func49, Try.ntmps49
  go_upto_region 1 with fail
  have B0 : Has ((w.alloc (.cells #[.int .i64 0, .int .i64 0, .int .i64 0, .bool false, .bool false, .bool false, .int .i64 0, .int .i64 0, .int .i64 0] 31)).alloc (.cells #[.int .i64 0, .int .i64 0, .int .i64 0, .int .i64 0] 52)) w.heap.size #[.int .i64 0, .int .i64 0, .int .i64 0, .bool false, .bool false, .bool false, .int .i64 0, .int .i64 0, .int .i64 0] 31 := by (refine Has.as (by repeat' (first | with_reducible assumption | with_reducible apply Has.new | with_reducible apply Has.new1 | with_reducible apply Has.new2 | with_reducible apply Has.new3 | with_reducible apply Has.new4 | with_reducible apply Has.drew | with_reducible apply Has.drewN | with_reducible apply Has.alloc | with_reducible apply Has.same | with_reducible apply Has.other | (with_reducible show _ ≠ _; first | omega | (simp; done)))) ?_; first | (with_reducible rfl) | (simp only [List.setIfInBounds_toArray, List.set_cons_zero, List.set_cons_succ]; done) | (simp only [List.setIfInBounds_toArray, List.set_cons_zero, List.set_cons_succ]; rfl) | rfl | (simp; done))
  have B1 : Has ((w.alloc (.cells #[.int .i64 0, .int .i64 0, .int .i64 0, .bool false, .bool false, .bool false, .int .i64 0, .int .i64 0, .int .i64 0] 31)).alloc (.cells #[.int .i64 0, .int .i64 0, .int .i64 0, .int .i64 0] 52)) (w.heap.size + 1) #[.int .i64 0, .int .i64 0, .int .i64 0, .int .i64 0] 52 := by (refine Has.as (by repeat' (first | with_reducible assumption | with_reducible apply Has.new | with_reducible apply Has.new1 | with_reducible apply Has.new2 | with_reducible apply Has.new3 | with_reducible apply Has.new4 | with_reducible apply Has.drew | with_reducible apply Has.drewN | with_reducible apply Has.alloc | with_reducible apply Has.same | with_reducible apply Has.other | (with_reducible show _ ≠ _; first | omega | (simp; done)))) ?_; first | (with_reducible rfl) | (simp only [List.setIfInBounds_toArray, List.set_cons_zero, List.set_cons_succ]; done) | (simp only [List.setIfInBounds_toArray, List.set_cons_zero, List.set_cons_succ]; rfl) | rfl | (simp; done))
  have hcode2 := CodeK.alloc (CodeK.alloc hcode (.cells #[.int .i64 0, .int .i64 0, .int .i64 0, .bool false, .bool false, .bool false, .int .i64 0, .int .i64 0, .int .i64 0] 31)) (.cells #[.int .i64 0, .int .i64 0, .int .i64 0, .int .i64 0] 52)
  have hS : ((w.alloc (.cells #[.int .i64 0, .int .i64 0, .int .i64 0, .bool false, .bool false, .bool false, .int .i64 0, .int .i64 0, .int .i64 0] 31)).alloc (.cells #[.int .i64 0, .int .i64 0, .int .i64 0, .int .i64 0] 52)).heap.size = w.heap.size + 1 + 1 := by simp
  have hL : Below w.heap.size w ((w.alloc (.cells #[.int .i64 0, .int .i64 0, .int .i64 0, .bool false, .bool false, .bool false, .int .i64 0, .int .i64 0, .int .i64 0] 31)).alloc (.cells #[.int .i64 0, .int .i64 0, .int .i64 0, .int .i64 0] 52)) := by repeat' (first | with_reducible exact lowRefl _ | with_reducible apply lowSet | with_reducible apply lowDrew | with_reducible apply lowDrewN | with_reducible apply lowAlloc | (with_reducible refine lowCall ?_ (by assumption)) | (show (_ : Nat) ≤ _; first | (simp; done) | (simp; omega) | omega))
  clear hcode
  generalize hW : (w.alloc (.cells #[.int .i64 0, .int .i64 0, .int .i64 0, .bool false, .bool false, .bool false, .int .i64 0, .int .i64 0, .int .i64 0] 31)).alloc (.cells #[.int .i64 0, .int .i64 0, .int .i64 0, .int .i64 0] 52) = w0 at *
  clear hW
  go_upto_region 2 with (go_at_call 78; refine (open_any _ _ _ _ hnc hcap hcode2).mono ?_; rintro e w1 ⟨g, n', rfl, hrd, hlow⟩)
  have hlo := hrd.lo
  have B01 := B0.below hlow
  have B11 := B1.below hlow
  have hL1 := lowCall hL hlow
  clear hcode2 hL hlow B0 B1
  go_wp2_with (first | (go_at_call 79; (with_reducible refine (l3Motion_any w0.heap.size g n' c _ A _ hrd (by omega)).mono ?_); rintro e w2 ⟨a, b, c3, k, l, o, p, q, r, rfl, hrd2, hby⟩; have B02 := B01.by_ hby (by omega); have B12 := B11.by_ hby (by omega); have hL2 := lowBy hL1 hby hL1.size (by omega)) | (go_at_call 81; (with_reducible refine (l4HalfOf_any w0.heap.size g n' c _ A _ hrd2 (by omega)).mono ?_); rintro e w3 ⟨f1, f2, f3, f4, rfl, hrd3, hby3⟩; have B03 := B02.by_ hby3 (by omega); have B13 := B12.by_ hby3 (by omega); have hL3 := lowBy hL2 hby3 hL2.size (by omega); have C0 := Has.cell B03; have F0 := Has.frozen B03; have C1 := Has.cell B13; have F1 := Has.frozen B13))
  refine bodyPost_hasP (b := w.heap.size) (b' := w.heap.size + 1) (T := 31) (T' := 52) (cs := #[.int .i64 _, .int .i64 _, .int .i64 _, .bool _, .bool _, .bool _, .int .i64 _, .int .i64 _, .int .i64 _]) (cs' := #[.int .i64 _, .int .i64 _, .int .i64 _, .int .i64 _]) (by (refine Has.as (by repeat' (first | with_reducible assumption | with_reducible apply Has.new | with_reducible apply Has.new1 | with_reducible apply Has.new2 | with_reducible apply Has.new3 | with_reducible apply Has.new4 | with_reducible apply Has.drew | with_reducible apply Has.drewN | with_reducible apply Has.alloc | with_reducible apply Has.same | with_reducible apply Has.other | (with_reducible show _ ≠ _; first | omega | (simp; done)))) ?_; first | (with_reducible rfl) | (simp only [List.setIfInBounds_toArray, List.set_cons_zero, List.set_cons_succ]; done) | (simp only [List.setIfInBounds_toArray, List.set_cons_zero, List.set_cons_succ]; rfl) | rfl | (simp; done))) (by (refine Has.as (by repeat' (first | with_reducible assumption | with_reducible apply Has.new | with_reducible apply Has.new1 | with_reducible apply Has.new2 | with_reducible apply Has.new3 | with_reducible apply Has.new4 | with_reducible apply Has.drew | with_reducible apply Has.drewN | with_reducible apply Has.alloc | with_reducible apply Has.same | with_reducible apply Has.other | (with_reducible show _ ≠ _; first | omega | (simp; done)))) ?_; first | (with_reducible rfl) | (simp only [List.setIfInBounds_toArray, List.set_cons_zero, List.set_cons_succ]; done) | (simp only [List.setIfInBounds_toArray, List.set_cons_zero, List.set_cons_succ]; rfl) | rfl | (simp; done))) (fun wE hE hE2 => ?_) rfl ⟨_, _, _, _, _, _, _, _, _, _, _, _, _, rfl, ?_⟩
  · have cE := Has.cell hE
    have cE2 := Has.cell hE2
    simp only [results, Try.results49, go_sem]
    (try simp [go_sem, cE, cE2])
    done
  · repeat' (first | with_reducible exact lowRefl _ | with_reducible apply lowSet | with_reducible apply lowDrew | with_reducible apply lowDrewN | with_reducible apply lowAlloc | (with_reducible refine lowCall ?_ (by assumption)) | (show (_ : Nat) ≤ _; first | (simp; done) | (simp; omega) | omega))
end Go.Proofs.Ytbgcbolalbjepab
namespace Go.Proofs.Ytbgcbolalbjepab
open Go.ChangeShapes Go.WideShapes Go.ChangeAt Go.RowKit
set_option linter.unusedSimpArgs false
set_option linter.unusedVariables false
set_option maxHeartbeats 16000000
set_option maxRecDepth 8000

attribute [-go_sem] run_eql_struct run_neq_struct
attribute [local go_sem] VGo_value VGo_skip VGo_enter eqlHalf neqHalf eqlBall neqBall eqlRay neqRay
theorem lowSetU4 {a w : World} {b : Nat} {v0 v1 v2 v3 : Value} (h : Below a.heap.size a w) (hb : a.heap.size ≤ b) : Below a.heap.size a ((((w.setCell ⟨b, 0, none⟩ v0).setCell ⟨b, 1, none⟩ v1).setCell ⟨b, 2, none⟩ v2).setCell ⟨b, 3, none⟩ v3) := by
  repeat' (first | with_reducible exact h | with_reducible apply lowSet | exact hb)
/- what the law needs to know of what the functions answer -/
def CutFacts (a b c3 : Int) (k l o : Bool) (p q r f1 f2 f3 f4 g1 g2 g3 g4 x y z u v t : Int) : Prop := ∃ (H1 H2 H3 H4 K1 K2 K3 K4 R1 R2 R3 R4 R5 R6 : Int) (rv : Bool),
  (∀ w, Calls Try.prog 31 #[.agg #[.int .i64 (a), .int .i64 (b), .int .i64 (c3), .bool (k), .bool (l), .bool (o), .int .i64 (p), .int .i64 (q), .int .i64 (r)], .agg #[.int .i64 (f1), .int .i64 (f2), .int .i64 (f3), .int .i64 (f4)]] w fun e w' => e = .returned (.agg #[.int .i64 (H1), .int .i64 (H2), .int .i64 (H3), .int .i64 (H4)]) ∧ Below w.heap.size w w') ∧
  (∀ w, Calls Try.prog 29 #[.agg #[.int .i64 (a), .int .i64 (b), .int .i64 (c3), .bool (k), .bool (l), .bool (o), .int .i64 (p), .int .i64 (q), .int .i64 (r)], .agg #[.int .i64 (f1), .int .i64 (f2), .int .i64 (f3), .int .i64 (f4)]] w fun e w' => e = .returned (.agg #[.int .i64 (H1), .int .i64 (H2), .int .i64 (H3), .int .i64 (H4)]) ∧ Below w.heap.size w w') ∧
  (∀ w, Calls Try.prog 35 #[.agg #[.int .i64 (a), .int .i64 (b), .int .i64 (c3), .bool (k), .bool (l), .bool (o), .int .i64 (p), .int .i64 (q), .int .i64 (r)], .agg #[.int .i64 (g1), .int .i64 (g2), .int .i64 (g3), .int .i64 (g4)]] w fun e w' => e = .returned (.agg #[.int .i64 (K1), .int .i64 (K2), .int .i64 (K3), .int .i64 (K4)]) ∧ Below w.heap.size w w') ∧
  (∀ w, Calls Try.prog 33 #[.agg #[.int .i64 (a), .int .i64 (b), .int .i64 (c3), .bool (k), .bool (l), .bool (o), .int .i64 (p), .int .i64 (q), .int .i64 (r)], .agg #[.int .i64 (g1), .int .i64 (g2), .int .i64 (g3), .int .i64 (g4)]] w fun e w' => e = .returned (.agg #[.int .i64 (K1), .int .i64 (K2), .int .i64 (K3), .int .i64 (K4)]) ∧ Below w.heap.size w w') ∧
  (∀ w, Calls Try.prog 27 #[.agg #[.int .i64 (a), .int .i64 (b), .int .i64 (c3), .bool (k), .bool (l), .bool (o), .int .i64 (p), .int .i64 (q), .int .i64 (r)], .agg #[.int .i64 (x), .int .i64 (y), .int .i64 (z), .int .i64 (u), .int .i64 (v), .int .i64 (t)]] w fun e w' => e = .returned (.agg #[.int .i64 (R1), .int .i64 (R2), .int .i64 (R3), .int .i64 (R4), .int .i64 (R5), .int .i64 (R6)]) ∧ Below w.heap.size w w') ∧
  (∀ w, Calls Try.prog 25 #[.agg #[.int .i64 (a), .int .i64 (b), .int .i64 (c3), .bool (k), .bool (l), .bool (o), .int .i64 (p), .int .i64 (q), .int .i64 (r)], .agg #[.int .i64 (x), .int .i64 (y), .int .i64 (z), .int .i64 (u), .int .i64 (v), .int .i64 (t)]] w fun e w' => e = .returned (.agg #[.int .i64 (R1), .int .i64 (R2), .int .i64 (R3), .int .i64 (R4), .int .i64 (R5), .int .i64 (R6)]) ∧ Below w.heap.size w w') ∧
  (∀ w, Calls Try.prog 51 #[.agg #[.int .i64 (R1), .int .i64 (R2), .int .i64 (R3), .int .i64 (R4), .int .i64 (R5), .int .i64 (R6)]] w fun e w' => e = .returned (.bool rv) ∧ Below w.heap.size w w') ∧
  ((rv = false ∧ ∃ ok : Bool, (∀ w, Calls Try.prog 51 #[.agg #[.int .i64 (x), .int .i64 (y), .int .i64 (z), .int .i64 (u), .int .i64 (v), .int .i64 (t)]] w fun e w' => e = .returned (.bool ok) ∧ Below w.heap.size w w') ∧ (∀ w, Calls Try.prog 52 #[.agg #[.int .i64 (x), .int .i64 (y), .int .i64 (z), .int .i64 (u), .int .i64 (v), .int .i64 (t)]] w fun e w' => e = .returned (.bool ok) ∧ Below w.heap.size w w')) ∨ (rv = true ∧ ∃ hv bv : Bool, (∀ w, Calls Try.prog 53 #[.agg #[.int .i64 (H1), .int .i64 (H2), .int .i64 (H3), .int .i64 (H4)]] w fun e w' => e = .returned (.bool hv) ∧ Below w.heap.size w w') ∧ (∀ w, Calls Try.prog 55 #[.agg #[.int .i64 (K1), .int .i64 (K2), .int .i64 (K3), .int .i64 (K4)]] w fun e w' => e = .returned (.bool bv) ∧ Below w.heap.size w w') ∧ (hv = true → ∃ X Y : Int, (∀ w, Calls Try.prog 54 #[.agg #[.int .i64 (f1), .int .i64 (f2), .int .i64 (f3), .int .i64 (f4)], .agg #[.int .i64 (x), .int .i64 (y), .int .i64 (z), .int .i64 (u), .int .i64 (v), .int .i64 (t)]] w fun e w' => e = .returned (.tuple #[.int .i64 (X), .int .i64 (Y)]) ∧ Below w.heap.size w w') ∧ (∀ w, Calls Try.prog 54 #[.agg #[.int .i64 (H1), .int .i64 (H2), .int .i64 (H3), .int .i64 (H4)], .agg #[.int .i64 (R1), .int .i64 (R2), .int .i64 (R3), .int .i64 (R4), .int .i64 (R5), .int .i64 (R6)]] w fun e w' => e = .returned (.tuple #[.int .i64 (X), .int .i64 (Y)]) ∧ Below w.heap.size w w')) ∧ (bv = true → ∃ X Y : Int, (∀ w, Calls Try.prog 56 #[.agg #[.int .i64 (g1), .int .i64 (g2), .int .i64 (g3), .int .i64 (g4)], .agg #[.int .i64 (x), .int .i64 (y), .int .i64 (z), .int .i64 (u), .int .i64 (v), .int .i64 (t)]] w fun e w' => e = .returned (.tuple #[.int .i64 (X), .int .i64 (Y)]) ∧ Below w.heap.size w w') ∧ (∀ w, Calls Try.prog 56 #[.agg #[.int .i64 (K1), .int .i64 (K2), .int .i64 (K3), .int .i64 (K4)], .agg #[.int .i64 (R1), .int .i64 (R2), .int .i64 (R3), .int .i64 (R4), .int .i64 (R5), .int .i64 (R6)]] w fun e w' => e = .returned (.tuple #[.int .i64 (X), .int .i64 (Y)]) ∧ Below w.heap.size w w'))))
theorem lawCutMoved {A : Option Addr} {n c : Nat} {w : World} (hnc : n ≤ c) (hcap : c ≤ 9223372036854775807) (hcode : Code w w.heap.size A n)
    (hdr : ∀ w, Code w w.heap.size A n → Calls Try.prog 49 #[.slice A n c] w fun e w' => ∃ (a b c3 : Int) (k l o : Bool) (p q r f1 f2 f3 f4 : Int), e = .returned (.tuple #[.agg #[.int .i64 (a), .int .i64 (b), .int .i64 (c3), .bool (k), .bool (l), .bool (o), .int .i64 (p), .int .i64 (q), .int .i64 (r)], .agg #[.int .i64 (f1), .int .i64 (f2), .int .i64 (f3), .int .i64 (f4)]]) ∧ Below w.heap.size w w')
    (hall : ∀ (a b c3 : Int) (k l o : Bool) (p q r f1 f2 f3 f4 g1 g2 g3 g4 x y z u v t : Int), CutFacts a b c3 k l o p q r f1 f2 f3 f4 g1 g2 g3 g4 x y z u v t) :
    Calls Try.prog 12 #[.slice A n c] w fun e w' => e = .returned (.bool true) ∧ Below w.heap.size w w' := by
  have HALL := Lib.hid hall
  have HDR := Lib.hid hdr
  clear hall hdr
  by_cases hn : n ≤ 1048576
  · go_enter Try.func12, Try.ntmps12
    go_upto_region 4 with (go_at_call 49; refine (HDR.out _ hcode).mono ?_; rintro e w' ⟨a, b, c3, k, l, o, p, q, r, f1, f2, f3, f4, rfl, hL⟩)
    clear HDR
    refine (fun (kk : ∀ wm, Has wm w'.heap.size #[.int .i64 (a), .int .i64 (b), .int .i64 (c3), .bool (k), .bool (l), .bool (o), .int .i64 (p), .int .i64 (q), .int .i64 (r)] 31 → Has wm (w'.heap.size + 1) #[.int .i64 (f1), .int .i64 (f2), .int .i64 (f3), .int .i64 (f4)] 52 → Below w.heap.size w wm → Code wm wm.heap.size A n → w.heap.size ≤ w'.heap.size → Code.wp _ _ _ _ wm) => kk _ ?_ ?_ ?_ ?_ ?_) ?_
    · (refine Has.as (by repeat' (first | with_reducible assumption | with_reducible apply Has.new | with_reducible apply Has.new1 | with_reducible apply Has.new2 | with_reducible apply Has.new3 | with_reducible apply Has.new4 | with_reducible apply Has.drew | with_reducible apply Has.drewN | with_reducible apply Has.alloc | with_reducible apply Has.same | with_reducible apply Has.other | (with_reducible show _ ≠ _; first | omega | (simp; done)))) ?_; first | (with_reducible rfl) | (simp only [List.setIfInBounds_toArray, List.set_cons_zero, List.set_cons_succ]; done) | (simp only [List.setIfInBounds_toArray, List.set_cons_zero, List.set_cons_succ]; rfl) | rfl | (simp; done))
    · (refine Has.as (by repeat' (first | with_reducible assumption | with_reducible apply Has.new | with_reducible apply Has.new1 | with_reducible apply Has.new2 | with_reducible apply Has.new3 | with_reducible apply Has.new4 | with_reducible apply Has.drew | with_reducible apply Has.drewN | with_reducible apply Has.alloc | with_reducible apply Has.same | with_reducible apply Has.other | (with_reducible show _ ≠ _; first | omega | (simp; done)))) ?_; first | (with_reducible rfl) | (simp only [List.setIfInBounds_toArray, List.set_cons_zero, List.set_cons_succ]; done) | (simp only [List.setIfInBounds_toArray, List.set_cons_zero, List.set_cons_succ]; rfl) | rfl | (simp; done))
    · repeat' (first | with_reducible exact lowRefl _ | with_reducible apply lowSet | with_reducible apply lowDrew | with_reducible apply lowDrewN | with_reducible apply lowAlloc | (with_reducible refine lowCall ?_ (by assumption)) | (show (_ : Nat) ≤ _; first | (simp; done) | (simp; omega) | omega))
    · exact codeBelow hcode (by repeat' (first | with_reducible exact lowRefl _ | with_reducible apply lowSet | with_reducible apply lowDrew | with_reducible apply lowDrewN | with_reducible apply lowAlloc | (with_reducible refine lowCall ?_ (by assumption)) | (show (_ : Nat) ≤ _; first | (simp; done) | (simp; omega) | omega)))
    · exact hL.size
    clear hL hcode
    intro wm D1 D2 hL hcode hle
    obtain ⟨b2, hb2⟩ : ∃ b2, w'.heap.size + 1 = b2 := ⟨_, rfl⟩
    rw [hb2] at D2 ⊢
    generalize w'.heap.size = b1 at *
    clear w'
    go_upto_region 5 with (go_at_call 50; refine (drawBallCut_any A n c _ hnc hcap hcode).mono ?_; rintro e w' ⟨g1, g2, g3, g4, x, y, z, u, v, t, rfl, hM⟩)
    have T1 := D1.below hM
    have T2 := D2.below hM
    have hL2 := lowCall hL hM
    have l1 := Has.lt T1
    have l2 := Has.lt T2
    have hle2 := hL2.size
    refine (fun (kk : ∀ wm, Has wm b1 #[.int .i64 (a), .int .i64 (b), .int .i64 (c3), .bool (k), .bool (l), .bool (o), .int .i64 (p), .int .i64 (q), .int .i64 (r)] 31 → Has wm b2 #[.int .i64 (f1), .int .i64 (f2), .int .i64 (f3), .int .i64 (f4)] 52 → Has wm w'.heap.size #[.int .i64 (g1), .int .i64 (g2), .int .i64 (g3), .int .i64 (g4)] 60 → Has wm (w'.heap.size + 1) #[.int .i64 (x), .int .i64 (y), .int .i64 (z), .int .i64 (u), .int .i64 (v), .int .i64 (t)] 44 → Below w.heap.size w wm → Code.wp _ _ _ _ wm) => kk _ ?_ ?_ ?_ ?_ ?_) ?_
    · (refine Has.as (by repeat' (first | with_reducible assumption | with_reducible apply Has.new | with_reducible apply Has.new1 | with_reducible apply Has.new2 | with_reducible apply Has.new3 | with_reducible apply Has.new4 | with_reducible apply Has.drew | with_reducible apply Has.drewN | with_reducible apply Has.alloc | with_reducible apply Has.same | with_reducible apply Has.other | (with_reducible show _ ≠ _; first | omega | (simp; done)))) ?_; first | (with_reducible rfl) | (simp only [List.setIfInBounds_toArray, List.set_cons_zero, List.set_cons_succ]; done) | (simp only [List.setIfInBounds_toArray, List.set_cons_zero, List.set_cons_succ]; rfl) | rfl | (simp; done))
    · (refine Has.as (by repeat' (first | with_reducible assumption | with_reducible apply Has.new | with_reducible apply Has.new1 | with_reducible apply Has.new2 | with_reducible apply Has.new3 | with_reducible apply Has.new4 | with_reducible apply Has.drew | with_reducible apply Has.drewN | with_reducible apply Has.alloc | with_reducible apply Has.same | with_reducible apply Has.other | (with_reducible show _ ≠ _; first | omega | (simp; done)))) ?_; first | (with_reducible rfl) | (simp only [List.setIfInBounds_toArray, List.set_cons_zero, List.set_cons_succ]; done) | (simp only [List.setIfInBounds_toArray, List.set_cons_zero, List.set_cons_succ]; rfl) | rfl | (simp; done))
    · (refine Has.as (by repeat' (first | with_reducible assumption | with_reducible apply Has.new | with_reducible apply Has.new1 | with_reducible apply Has.new2 | with_reducible apply Has.new3 | with_reducible apply Has.new4 | with_reducible apply Has.drew | with_reducible apply Has.drewN | with_reducible apply Has.alloc | with_reducible apply Has.same | with_reducible apply Has.other | (with_reducible show _ ≠ _; first | omega | (simp; done)))) ?_; first | (with_reducible rfl) | (simp only [List.setIfInBounds_toArray, List.set_cons_zero, List.set_cons_succ]; done) | (simp only [List.setIfInBounds_toArray, List.set_cons_zero, List.set_cons_succ]; rfl) | rfl | (simp; done))
    · (refine Has.as (by repeat' (first | with_reducible assumption | with_reducible apply Has.new | with_reducible apply Has.new1 | with_reducible apply Has.new2 | with_reducible apply Has.new3 | with_reducible apply Has.new4 | with_reducible apply Has.drew | with_reducible apply Has.drewN | with_reducible apply Has.alloc | with_reducible apply Has.same | with_reducible apply Has.other | (with_reducible show _ ≠ _; first | omega | (simp; done)))) ?_; first | (with_reducible rfl) | (simp only [List.setIfInBounds_toArray, List.set_cons_zero, List.set_cons_succ]; done) | (simp only [List.setIfInBounds_toArray, List.set_cons_zero, List.set_cons_succ]; rfl) | rfl | (simp; done))
    · repeat' (first | with_reducible exact lowRefl _ | with_reducible apply lowSet | with_reducible apply lowDrew | with_reducible apply lowDrewN | with_reducible apply lowAlloc | (with_reducible refine lowCall ?_ (by assumption)) | (show (_ : Nat) ≤ _; first | (simp; done) | (simp; omega) | omega))
    clear hL hL2 hM hcode D1 D2 T1 T2 l1 l2 hle2
    generalize w'.heap.size + 1 = b4
    generalize w'.heap.size = b3
    clear wm w' hb2 hle hn hnc hcap
    intro wm D1 D2 D3 D4 hL
    obtain ⟨H1, H2, H3, H4, K1, K2, K3, K4, R1, R2, R3, R4, R5, R6, rv, t1, t2, t3, t4, t5, t6, t7, t8⟩ := HALL.out a b c3 k l o p q r f1 f2 f3 f4 g1 g2 g3 g4 x y z u v t
    have U1 := Lib.hid t1
    have U2 := Lib.hid t2
    have U3 := Lib.hid t3
    have U4 := Lib.hid t4
    have U5 := Lib.hid t5
    have U6 := Lib.hid t6
    have U7 := Lib.hid t7
    have U8 := Lib.hid t8
    clear t1 t2 t3 t4 t5 t6 t7 t8 HALL
    refine wp_region_held6 9 (by kernel_rfl) (by kernel_rfl) rfl rfl rfl rfl rfl rfl (fun _ _ _ d _ h => by cases d <;> exact h) (.cells #[.int .i64 0, .int .i64 0, .int .i64 0, .int .i64 0] 52 (0, 0)) (.cells #[.int .i64 0, .int .i64 0, .int .i64 0, .int .i64 0] 60 (0, 0)) (.cells #[.int .i64 0, .int .i64 0, .int .i64 0, .int .i64 0, .int .i64 0, .int .i64 0] 44 (0, 0)) (.cells #[.int .i64 (H1), .int .i64 (H2), .int .i64 (H3), .int .i64 (H4)] 52 (0, 0)) (.cells #[.int .i64 (K1), .int .i64 (K2), .int .i64 (K3), .int .i64 (K4)] 60 (0, 0))
      (fun a u v => Act.put_comm a u v (by decide)) (fun a u v => Act.put_comm a u v (by decide)) (fun a u v => Act.put_comm a u v (by decide)) (fun _ _ => rfl) (fun _ _ => rfl) (fun _ => rfl) (fun _ => rfl) (fun _ => rfl) (fun _ => rfl) (fun _ => rfl) ?_ ?_ ?_ ?_
    · intro a w K hK
      go_simp
      exact hK
    · intro a w K hK
      go_simp
      exact hK
    · intro a w K hK
      go_simp
      exact hK
    intro Fq hFq
    simp only [List.take_succ_cons, List.take_zero]
    repeat (first | (refine wpHeld_skip (by rfl) ?_; ((try simp only [Act.put, List.setIfInBounds_toArray, List.set_cons_zero, List.set_cons_succ]))) | (refine wpHeld_run ?_ rfl ?_ ?_; rotate_left; (focus (intro w' hbq Kq hKq; go_simp; (try (rw [IntWalk.i64_in]; rotate_left; focus (constructor <;> omega))); first | exact hKq _ (Below.refl _ _) | first | (go_at_call 31; ((with_reducible refine (U1.out _).mono ?_); rintro e w2 ⟨rfl, hbr⟩; refine back ?_; exact hKq _ hbr)) | (go_at_call 35; ((with_reducible refine (U3.out _).mono ?_); rintro e w2 ⟨rfl, hbr⟩; refine back ?_; exact hKq _ hbr)) | (go_at_call 27; ((with_reducible refine (U5.out _).mono ?_); rintro e w2 ⟨rfl, hbr⟩; refine back ?_; exact hKq _ hbr)) | ((have C1 := Has.cell (D1.below (undrew hbq))); (have C2 := Has.cell (D2.below (undrew hbq))); (have C3 := Has.cell (D3.below (undrew hbq))); (have C4 := Has.cell (D4.below (undrew hbq))); go_simp; exact hKq _ (Below.refl _ _)))); ((try simp only [Act.put, List.setIfInBounds_toArray, List.set_cons_zero, List.set_cons_succ]))))
    refine wpHeld_nil (hFq _ ?_ ?_ ?_)
    · intro b5 b6 b7 w1 hb n1 n2 n3 e1 e2 e3 h5 h6 h7
      have H5 : Has w1 b5 #[.int .i64 0, .int .i64 0, .int .i64 0, .int .i64 0] 52 := h5
      have H6 : Has w1 b6 #[.int .i64 0, .int .i64 0, .int .i64 0, .int .i64 0] 60 := h6
      have H7 : Has w1 b7 #[.int .i64 0, .int .i64 0, .int .i64 0, .int .i64 0, .int .i64 0, .int .i64 0] 44 := h7
      have c5 := Has.cell H5
      have f5 := Has.frozen H5
      go_simp
      exact ⟨lowSetU4 hb n1, by show Has _ _ _ _; (refine Has.as (by repeat' (first | with_reducible assumption | with_reducible apply Has.new | with_reducible apply Has.new1 | with_reducible apply Has.new2 | with_reducible apply Has.new3 | with_reducible apply Has.new4 | with_reducible apply Has.drew | with_reducible apply Has.drewN | with_reducible apply Has.alloc | with_reducible apply Has.same | with_reducible apply Has.other | (with_reducible show _ ≠ _; first | omega | (simp; done)))) ?_; first | (with_reducible rfl) | (simp only [List.setIfInBounds_toArray, List.set_cons_zero, List.set_cons_succ]; done) | (simp only [List.setIfInBounds_toArray, List.set_cons_zero, List.set_cons_succ]; rfl) | rfl | (simp; done)), by show Has _ _ _ _; (refine Has.as (by repeat' (first | with_reducible assumption | with_reducible apply Has.new | with_reducible apply Has.new1 | with_reducible apply Has.new2 | with_reducible apply Has.new3 | with_reducible apply Has.new4 | with_reducible apply Has.drew | with_reducible apply Has.drewN | with_reducible apply Has.alloc | with_reducible apply Has.same | with_reducible apply Has.other | (with_reducible show _ ≠ _; first | omega | (simp; done)))) ?_; first | (with_reducible rfl) | (simp only [List.setIfInBounds_toArray, List.set_cons_zero, List.set_cons_succ]; done) | (simp only [List.setIfInBounds_toArray, List.set_cons_zero, List.set_cons_succ]; rfl) | rfl | (simp; done)), by show Has _ _ _ _; (refine Has.as (by repeat' (first | with_reducible assumption | with_reducible apply Has.new | with_reducible apply Has.new1 | with_reducible apply Has.new2 | with_reducible apply Has.new3 | with_reducible apply Has.new4 | with_reducible apply Has.drew | with_reducible apply Has.drewN | with_reducible apply Has.alloc | with_reducible apply Has.same | with_reducible apply Has.other | (with_reducible show _ ≠ _; first | omega | (simp; done)))) ?_; first | (with_reducible rfl) | (simp only [List.setIfInBounds_toArray, List.set_cons_zero, List.set_cons_succ]; done) | (simp only [List.setIfInBounds_toArray, List.set_cons_zero, List.set_cons_succ]; rfl) | rfl | (simp; done))⟩
    · intro b5 b6 b7 w1 hb n1 n2 n3 e1 e2 e3 h5 h6 h7
      have H5 : Has w1 b5 #[.int .i64 (H1), .int .i64 (H2), .int .i64 (H3), .int .i64 (H4)] 52 := h5
      have H6 : Has w1 b6 #[.int .i64 0, .int .i64 0, .int .i64 0, .int .i64 0] 60 := h6
      have H7 : Has w1 b7 #[.int .i64 0, .int .i64 0, .int .i64 0, .int .i64 0, .int .i64 0, .int .i64 0] 44 := h7
      have c6 := Has.cell H6
      have f6 := Has.frozen H6
      have e4 := Ne.symm e1
      go_simp
      exact ⟨lowSetU4 hb n2, by show Has _ _ _ _; (refine Has.as (by repeat' (first | with_reducible assumption | with_reducible apply Has.new | with_reducible apply Has.new1 | with_reducible apply Has.new2 | with_reducible apply Has.new3 | with_reducible apply Has.new4 | with_reducible apply Has.drew | with_reducible apply Has.drewN | with_reducible apply Has.alloc | with_reducible apply Has.same | with_reducible apply Has.other | (with_reducible show _ ≠ _; first | omega | (simp; done)))) ?_; first | (with_reducible rfl) | (simp only [List.setIfInBounds_toArray, List.set_cons_zero, List.set_cons_succ]; done) | (simp only [List.setIfInBounds_toArray, List.set_cons_zero, List.set_cons_succ]; rfl) | rfl | (simp; done)), by show Has _ _ _ _; (refine Has.as (by repeat' (first | with_reducible assumption | with_reducible apply Has.new | with_reducible apply Has.new1 | with_reducible apply Has.new2 | with_reducible apply Has.new3 | with_reducible apply Has.new4 | with_reducible apply Has.drew | with_reducible apply Has.drewN | with_reducible apply Has.alloc | with_reducible apply Has.same | with_reducible apply Has.other | (with_reducible show _ ≠ _; first | omega | (simp; done)))) ?_; first | (with_reducible rfl) | (simp only [List.setIfInBounds_toArray, List.set_cons_zero, List.set_cons_succ]; done) | (simp only [List.setIfInBounds_toArray, List.set_cons_zero, List.set_cons_succ]; rfl) | rfl | (simp; done)), by show Has _ _ _ _; (refine Has.as (by repeat' (first | with_reducible assumption | with_reducible apply Has.new | with_reducible apply Has.new1 | with_reducible apply Has.new2 | with_reducible apply Has.new3 | with_reducible apply Has.new4 | with_reducible apply Has.drew | with_reducible apply Has.drewN | with_reducible apply Has.alloc | with_reducible apply Has.same | with_reducible apply Has.other | (with_reducible show _ ≠ _; first | omega | (simp; done)))) ?_; first | (with_reducible rfl) | (simp only [List.setIfInBounds_toArray, List.set_cons_zero, List.set_cons_succ]; done) | (simp only [List.setIfInBounds_toArray, List.set_cons_zero, List.set_cons_succ]; rfl) | rfl | (simp; done))⟩
    intro b5 b6 b7 w1 hb n1 n2 n3 e1 e2 e3 h5 h6 h7
    have hu := undrew hb
    have T1 := D1.below hu
    have T2 := D2.below hu
    have T3 := D3.below hu
    have T4 := D4.below hu
    have hL2 := lowCall hL hu
    have T5 : Has w1 b5 #[.int .i64 (H1), .int .i64 (H2), .int .i64 (H3), .int .i64 (H4)] 52 := h5
    have T6 : Has w1 b6 #[.int .i64 (K1), .int .i64 (K2), .int .i64 (K3), .int .i64 (K4)] 60 := h6
    have T7 : Has w1 b7 #[.int .i64 0, .int .i64 0, .int .i64 0, .int .i64 0, .int .i64 0, .int .i64 0] 44 := h7
    have c6 := Has.cell T7
    have f6 := Has.frozen T7
    have l1 := Has.lt D1
    have l2 := Has.lt D2
    have l3 := Has.lt D3
    have l4 := Has.lt D4
    have l5 := hL.size
    have m1 : b1 ≠ b7 := by omega
    have m2 : b2 ≠ b7 := by omega
    have m3 : b3 ≠ b7 := by omega
    have m4 : b4 ≠ b7 := by omega
    go_upto_region 6 with fail
    refine (fun (kk : ∀ wm, Has wm b1 #[.int .i64 (a), .int .i64 (b), .int .i64 (c3), .bool (k), .bool (l), .bool (o), .int .i64 (p), .int .i64 (q), .int .i64 (r)] 31 → Has wm b2 #[.int .i64 (f1), .int .i64 (f2), .int .i64 (f3), .int .i64 (f4)] 52 → Has wm b3 #[.int .i64 (g1), .int .i64 (g2), .int .i64 (g3), .int .i64 (g4)] 60 → Has wm b4 #[.int .i64 (x), .int .i64 (y), .int .i64 (z), .int .i64 (u), .int .i64 (v), .int .i64 (t)] 44 → Has wm b5 #[.int .i64 (H1), .int .i64 (H2), .int .i64 (H3), .int .i64 (H4)] 52 → Has wm b6 #[.int .i64 (K1), .int .i64 (K2), .int .i64 (K3), .int .i64 (K4)] 60 → Has wm b7 #[.int .i64 (R1), .int .i64 (R2), .int .i64 (R3), .int .i64 (R4), .int .i64 (R5), .int .i64 (R6)] 44 → Below w.heap.size w wm → Code.wp _ _ _ _ wm) => kk _ ?_ ?_ ?_ ?_ ?_ ?_ ?_ ?_) ?_
    · (refine Has.as (by repeat' (first | with_reducible assumption | with_reducible apply Has.new | with_reducible apply Has.new1 | with_reducible apply Has.new2 | with_reducible apply Has.new3 | with_reducible apply Has.new4 | with_reducible apply Has.drew | with_reducible apply Has.drewN | with_reducible apply Has.alloc | with_reducible apply Has.same | with_reducible apply Has.other | (with_reducible show _ ≠ _; first | omega | (simp; done)))) ?_; first | (with_reducible rfl) | (simp only [List.setIfInBounds_toArray, List.set_cons_zero, List.set_cons_succ]; done) | (simp only [List.setIfInBounds_toArray, List.set_cons_zero, List.set_cons_succ]; rfl) | rfl | (simp; done))
    · (refine Has.as (by repeat' (first | with_reducible assumption | with_reducible apply Has.new | with_reducible apply Has.new1 | with_reducible apply Has.new2 | with_reducible apply Has.new3 | with_reducible apply Has.new4 | with_reducible apply Has.drew | with_reducible apply Has.drewN | with_reducible apply Has.alloc | with_reducible apply Has.same | with_reducible apply Has.other | (with_reducible show _ ≠ _; first | omega | (simp; done)))) ?_; first | (with_reducible rfl) | (simp only [List.setIfInBounds_toArray, List.set_cons_zero, List.set_cons_succ]; done) | (simp only [List.setIfInBounds_toArray, List.set_cons_zero, List.set_cons_succ]; rfl) | rfl | (simp; done))
    · (refine Has.as (by repeat' (first | with_reducible assumption | with_reducible apply Has.new | with_reducible apply Has.new1 | with_reducible apply Has.new2 | with_reducible apply Has.new3 | with_reducible apply Has.new4 | with_reducible apply Has.drew | with_reducible apply Has.drewN | with_reducible apply Has.alloc | with_reducible apply Has.same | with_reducible apply Has.other | (with_reducible show _ ≠ _; first | omega | (simp; done)))) ?_; first | (with_reducible rfl) | (simp only [List.setIfInBounds_toArray, List.set_cons_zero, List.set_cons_succ]; done) | (simp only [List.setIfInBounds_toArray, List.set_cons_zero, List.set_cons_succ]; rfl) | rfl | (simp; done))
    · (refine Has.as (by repeat' (first | with_reducible assumption | with_reducible apply Has.new | with_reducible apply Has.new1 | with_reducible apply Has.new2 | with_reducible apply Has.new3 | with_reducible apply Has.new4 | with_reducible apply Has.drew | with_reducible apply Has.drewN | with_reducible apply Has.alloc | with_reducible apply Has.same | with_reducible apply Has.other | (with_reducible show _ ≠ _; first | omega | (simp; done)))) ?_; first | (with_reducible rfl) | (simp only [List.setIfInBounds_toArray, List.set_cons_zero, List.set_cons_succ]; done) | (simp only [List.setIfInBounds_toArray, List.set_cons_zero, List.set_cons_succ]; rfl) | rfl | (simp; done))
    · (refine Has.as (by repeat' (first | with_reducible assumption | with_reducible apply Has.new | with_reducible apply Has.new1 | with_reducible apply Has.new2 | with_reducible apply Has.new3 | with_reducible apply Has.new4 | with_reducible apply Has.drew | with_reducible apply Has.drewN | with_reducible apply Has.alloc | with_reducible apply Has.same | with_reducible apply Has.other | (with_reducible show _ ≠ _; first | omega | (simp; done)))) ?_; first | (with_reducible rfl) | (simp only [List.setIfInBounds_toArray, List.set_cons_zero, List.set_cons_succ]; done) | (simp only [List.setIfInBounds_toArray, List.set_cons_zero, List.set_cons_succ]; rfl) | rfl | (simp; done))
    · (refine Has.as (by repeat' (first | with_reducible assumption | with_reducible apply Has.new | with_reducible apply Has.new1 | with_reducible apply Has.new2 | with_reducible apply Has.new3 | with_reducible apply Has.new4 | with_reducible apply Has.drew | with_reducible apply Has.drewN | with_reducible apply Has.alloc | with_reducible apply Has.same | with_reducible apply Has.other | (with_reducible show _ ≠ _; first | omega | (simp; done)))) ?_; first | (with_reducible rfl) | (simp only [List.setIfInBounds_toArray, List.set_cons_zero, List.set_cons_succ]; done) | (simp only [List.setIfInBounds_toArray, List.set_cons_zero, List.set_cons_succ]; rfl) | rfl | (simp; done))
    · (refine Has.as (by repeat' (first | with_reducible assumption | with_reducible apply Has.new | with_reducible apply Has.new1 | with_reducible apply Has.new2 | with_reducible apply Has.new3 | with_reducible apply Has.new4 | with_reducible apply Has.drew | with_reducible apply Has.drewN | with_reducible apply Has.alloc | with_reducible apply Has.same | with_reducible apply Has.other | (with_reducible show _ ≠ _; first | omega | (simp; done)))) ?_; first | (with_reducible rfl) | (simp only [List.setIfInBounds_toArray, List.set_cons_zero, List.set_cons_succ]; done) | (simp only [List.setIfInBounds_toArray, List.set_cons_zero, List.set_cons_succ]; rfl) | rfl | (simp; done))
    · repeat' (first | with_reducible exact lowRefl _ | with_reducible apply lowSet | with_reducible apply lowDrew | with_reducible apply lowDrewN | with_reducible apply lowAlloc | (with_reducible refine lowCall ?_ (by assumption)) | (show (_ : Nat) ≤ _; first | (simp; done) | (simp; omega) | omega))
    clear D1 D2 D3 D4 T1 T2 T3 T4 T5 T6 T7 h5 h6 h7 c6 f6 l1 l2 l3 l4 l5 m1 m2 m3 m4 n1 n2 n3 e1 e2 e3 hL hL2 hu hb w1 hFq Fq
    clear wm
    intro wm D1 D2 D3 D4 D5 D6 D7 hL
    clear U1 U3 U5
    rcases U8.out with ⟨rfl, ok, t9, t10⟩ | ⟨rfl, hv, bv, t9, t10, t11, t12⟩
    · have U9 := Lib.hid t9
      have U10 := Lib.hid t10
      clear t9 t10 U8
      (refine wp_region_held0 (by kernel_rfl) (by kernel_rfl) (fun _ _ _ d _ h => by cases d <;> exact h) ?_; intro Fq hFq)
      repeat (first | (refine wpHeld_skip (by rfl) ?_; ((try simp only [Act.put, List.setIfInBounds_toArray, List.set_cons_zero, List.set_cons_succ]))) | (refine wpHeld_run ?_ rfl ?_ ?_; rotate_left; (focus (intro w' hbq Kq hKq; go_simp; (try (rw [IntWalk.i64_in]; rotate_left; focus (constructor <;> omega))); first | exact hKq _ (Below.refl _ _) | first | (go_at_call 29; ((with_reducible refine (U2.out _).mono ?_); rintro e w2 ⟨rfl, hbr⟩; refine back ?_; exact hKq _ hbr)) | (go_at_call 33; ((with_reducible refine (U4.out _).mono ?_); rintro e w2 ⟨rfl, hbr⟩; refine back ?_; exact hKq _ hbr)) | (go_at_call 25; ((with_reducible refine (U6.out _).mono ?_); rintro e w2 ⟨rfl, hbr⟩; refine back ?_; exact hKq _ hbr)) | (go_at_call 51; ((with_reducible refine (U7.out _).mono ?_); rintro e w2 ⟨rfl, hbr⟩; refine back ?_; exact hKq _ hbr)) | ((have C1 := Has.cell (D1.below (undrew hbq))); (have C2 := Has.cell (D2.below (undrew hbq))); (have C3 := Has.cell (D3.below (undrew hbq))); (have C4 := Has.cell (D4.below (undrew hbq))); (have C5 := Has.cell (D5.below (undrew hbq))); (have C6 := Has.cell (D6.below (undrew hbq))); (have C7 := Has.cell (D7.below (undrew hbq))); go_simp; exact hKq _ (Below.refl _ _)))); ((try simp only [Act.put, List.setIfInBounds_toArray, List.set_cons_zero, List.set_cons_succ]))))
      (refine wpHeld_nil (hFq _ ?_); clear hFq; intro w' hbq; ((try (have B0 := Has.below (b := w.heap.size) (by repeat' (first | with_reducible assumption | with_reducible apply Has.new | with_reducible apply Has.new1 | with_reducible apply Has.new2 | with_reducible apply Has.new3 | with_reducible apply Has.new4 | with_reducible apply Has.drew | with_reducible apply Has.drewN | with_reducible apply Has.alloc | with_reducible apply Has.same | with_reducible apply Has.other | (with_reducible show _ ≠ _; first | omega | (simp; done)))) hbq; have C0 := Has.cell B0; have F0 := Has.frozen B0)); (try (have B1 := Has.below (b := w.heap.size + 1) (by repeat' (first | with_reducible assumption | with_reducible apply Has.new | with_reducible apply Has.new1 | with_reducible apply Has.new2 | with_reducible apply Has.new3 | with_reducible apply Has.new4 | with_reducible apply Has.drew | with_reducible apply Has.drewN | with_reducible apply Has.alloc | with_reducible apply Has.same | with_reducible apply Has.other | (with_reducible show _ ≠ _; first | omega | (simp; done)))) hbq; have C1 := Has.cell B1; have F1 := Has.frozen B1)); (try (have B2 := Has.below (b := w.heap.size + 1 + 1) (by repeat' (first | with_reducible assumption | with_reducible apply Has.new | with_reducible apply Has.new1 | with_reducible apply Has.new2 | with_reducible apply Has.new3 | with_reducible apply Has.new4 | with_reducible apply Has.drew | with_reducible apply Has.drewN | with_reducible apply Has.alloc | with_reducible apply Has.same | with_reducible apply Has.other | (with_reducible show _ ≠ _; first | omega | (simp; done)))) hbq; have C2 := Has.cell B2; have F2 := Has.frozen B2)); (try (have B3 := Has.below (b := w.heap.size + 1 + 1 + 1) (by repeat' (first | with_reducible assumption | with_reducible apply Has.new | with_reducible apply Has.new1 | with_reducible apply Has.new2 | with_reducible apply Has.new3 | with_reducible apply Has.new4 | with_reducible apply Has.drew | with_reducible apply Has.drewN | with_reducible apply Has.alloc | with_reducible apply Has.same | with_reducible apply Has.other | (with_reducible show _ ≠ _; first | omega | (simp; done)))) hbq; have C3 := Has.cell B3; have F3 := Has.frozen B3)); (try (have BX := Has.below (b := bX) (by repeat' (first | with_reducible assumption | with_reducible apply Has.new | with_reducible apply Has.new1 | with_reducible apply Has.new2 | with_reducible apply Has.new3 | with_reducible apply Has.new4 | with_reducible apply Has.drew | with_reducible apply Has.drewN | with_reducible apply Has.alloc | with_reducible apply Has.same | with_reducible apply Has.other | (with_reducible show _ ≠ _; first | omega | (simp; done)))) hbq; have CX := Has.cell BX; have FX := Has.frozen BX)); (try (have BY := Has.below (b := bY) (by repeat' (first | with_reducible assumption | with_reducible apply Has.new | with_reducible apply Has.new1 | with_reducible apply Has.new2 | with_reducible apply Has.new3 | with_reducible apply Has.new4 | with_reducible apply Has.drew | with_reducible apply Has.drewN | with_reducible apply Has.alloc | with_reducible apply Has.same | with_reducible apply Has.other | (with_reducible show _ ≠ _; first | omega | (simp; done)))) hbq; have CY := Has.cell BY; have FY := Has.frozen BY))))
      have uu := undrew hbq
      have T1 := D1.below uu
      have T2 := D2.below uu
      have T3 := D3.below uu
      have T4 := D4.below uu
      have T5 := D5.below uu
      have T6 := D6.below uu
      have T7 := D7.below uu
      have hL2 := lowCall hL uu
      clear hL hbq uu D1 D2 D3 D4 D5 D6 D7
      have D1 := T1
      have D2 := T2
      have D3 := T3
      have D4 := T4
      have D5 := T5
      have D6 := T6
      have D7 := T7
      have hL := hL2
      clear hL2 T1 T2 T3 T4 T5 T6 T7
      have C1 := Has.cell D1
      have C2 := Has.cell D2
      have C3 := Has.cell D3
      have C4 := Has.cell D4
      have C5 := Has.cell D5
      have C6 := Has.cell D6
      have C7 := Has.cell D7
      go_upto_region 7 with fail
      cases ok
      all_goals
        (refine wp_region_held0 (by kernel_rfl) (by kernel_rfl) (fun _ _ _ d _ h => by cases d <;> exact h) ?_; intro Fq hFq)
        repeat (first | (refine wpHeld_skip (by rfl) ?_; ((try simp only [Act.put, List.setIfInBounds_toArray, List.set_cons_zero, List.set_cons_succ]))) | (refine wpHeld_run ?_ rfl ?_ ?_; rotate_left; (focus (intro w' hbq Kq hKq; go_simp; (try (rw [IntWalk.i64_in]; rotate_left; focus (constructor <;> omega))); first | exact hKq _ (Below.refl _ _) | first | (go_at_call 29; ((with_reducible refine (U2.out _).mono ?_); rintro e w2 ⟨rfl, hbr⟩; refine back ?_; exact hKq _ hbr)) | (go_at_call 33; ((with_reducible refine (U4.out _).mono ?_); rintro e w2 ⟨rfl, hbr⟩; refine back ?_; exact hKq _ hbr)) | (go_at_call 25; ((with_reducible refine (U6.out _).mono ?_); rintro e w2 ⟨rfl, hbr⟩; refine back ?_; exact hKq _ hbr)) | (go_at_call 51; ((with_reducible refine (U9.out _).mono ?_); rintro e w2 ⟨rfl, hbr⟩; refine back ?_; exact hKq _ hbr)) | (go_at_call 52; ((with_reducible refine (U10.out _).mono ?_); rintro e w2 ⟨rfl, hbr⟩; refine back ?_; exact hKq _ hbr)) | ((have C1 := Has.cell (D1.below (undrew hbq))); (have C2 := Has.cell (D2.below (undrew hbq))); (have C3 := Has.cell (D3.below (undrew hbq))); (have C4 := Has.cell (D4.below (undrew hbq))); (have C5 := Has.cell (D5.below (undrew hbq))); (have C6 := Has.cell (D6.below (undrew hbq))); (have C7 := Has.cell (D7.below (undrew hbq))); go_simp; exact hKq _ (Below.refl _ _)))); ((try simp only [Act.put, List.setIfInBounds_toArray, List.set_cons_zero, List.set_cons_succ]))))
        (refine wpHeld_nil (hFq _ ?_); clear hFq; intro w' hbq; ((try (have B0 := Has.below (b := w.heap.size) (by repeat' (first | with_reducible assumption | with_reducible apply Has.new | with_reducible apply Has.new1 | with_reducible apply Has.new2 | with_reducible apply Has.new3 | with_reducible apply Has.new4 | with_reducible apply Has.drew | with_reducible apply Has.drewN | with_reducible apply Has.alloc | with_reducible apply Has.same | with_reducible apply Has.other | (with_reducible show _ ≠ _; first | omega | (simp; done)))) hbq; have C0 := Has.cell B0; have F0 := Has.frozen B0)); (try (have B1 := Has.below (b := w.heap.size + 1) (by repeat' (first | with_reducible assumption | with_reducible apply Has.new | with_reducible apply Has.new1 | with_reducible apply Has.new2 | with_reducible apply Has.new3 | with_reducible apply Has.new4 | with_reducible apply Has.drew | with_reducible apply Has.drewN | with_reducible apply Has.alloc | with_reducible apply Has.same | with_reducible apply Has.other | (with_reducible show _ ≠ _; first | omega | (simp; done)))) hbq; have C1 := Has.cell B1; have F1 := Has.frozen B1)); (try (have B2 := Has.below (b := w.heap.size + 1 + 1) (by repeat' (first | with_reducible assumption | with_reducible apply Has.new | with_reducible apply Has.new1 | with_reducible apply Has.new2 | with_reducible apply Has.new3 | with_reducible apply Has.new4 | with_reducible apply Has.drew | with_reducible apply Has.drewN | with_reducible apply Has.alloc | with_reducible apply Has.same | with_reducible apply Has.other | (with_reducible show _ ≠ _; first | omega | (simp; done)))) hbq; have C2 := Has.cell B2; have F2 := Has.frozen B2)); (try (have B3 := Has.below (b := w.heap.size + 1 + 1 + 1) (by repeat' (first | with_reducible assumption | with_reducible apply Has.new | with_reducible apply Has.new1 | with_reducible apply Has.new2 | with_reducible apply Has.new3 | with_reducible apply Has.new4 | with_reducible apply Has.drew | with_reducible apply Has.drewN | with_reducible apply Has.alloc | with_reducible apply Has.same | with_reducible apply Has.other | (with_reducible show _ ≠ _; first | omega | (simp; done)))) hbq; have C3 := Has.cell B3; have F3 := Has.frozen B3)); (try (have BX := Has.below (b := bX) (by repeat' (first | with_reducible assumption | with_reducible apply Has.new | with_reducible apply Has.new1 | with_reducible apply Has.new2 | with_reducible apply Has.new3 | with_reducible apply Has.new4 | with_reducible apply Has.drew | with_reducible apply Has.drewN | with_reducible apply Has.alloc | with_reducible apply Has.same | with_reducible apply Has.other | (with_reducible show _ ≠ _; first | omega | (simp; done)))) hbq; have CX := Has.cell BX; have FX := Has.frozen BX)); (try (have BY := Has.below (b := bY) (by repeat' (first | with_reducible assumption | with_reducible apply Has.new | with_reducible apply Has.new1 | with_reducible apply Has.new2 | with_reducible apply Has.new3 | with_reducible apply Has.new4 | with_reducible apply Has.drew | with_reducible apply Has.drewN | with_reducible apply Has.alloc | with_reducible apply Has.same | with_reducible apply Has.other | (with_reducible show _ ≠ _; first | omega | (simp; done)))) hbq; have CY := Has.cell BY; have FY := Has.frozen BY))))
        have hL3 := lowCall hL (undrew hbq)
        go_wp2
        go_ret
        exact ⟨by first | rfl | (simp; done), hL3⟩
    · have U9 := Lib.hid t9
      have U10 := Lib.hid t10
      have U11 := Lib.hid t11
      have U12 := Lib.hid t12
      clear t9 t10 t11 t12 U8
      (refine wp_region_held0 (by kernel_rfl) (by kernel_rfl) (fun _ _ _ d _ h => by cases d <;> exact h) ?_; intro Fq hFq)
      repeat (first | (refine wpHeld_skip (by rfl) ?_; ((try simp only [Act.put, List.setIfInBounds_toArray, List.set_cons_zero, List.set_cons_succ]))) | (refine wpHeld_run ?_ rfl ?_ ?_; rotate_left; (focus (intro w' hbq Kq hKq; go_simp; (try (rw [IntWalk.i64_in]; rotate_left; focus (constructor <;> omega))); first | exact hKq _ (Below.refl _ _) | first | (go_at_call 29; ((with_reducible refine (U2.out _).mono ?_); rintro e w2 ⟨rfl, hbr⟩; refine back ?_; exact hKq _ hbr)) | (go_at_call 33; ((with_reducible refine (U4.out _).mono ?_); rintro e w2 ⟨rfl, hbr⟩; refine back ?_; exact hKq _ hbr)) | (go_at_call 25; ((with_reducible refine (U6.out _).mono ?_); rintro e w2 ⟨rfl, hbr⟩; refine back ?_; exact hKq _ hbr)) | (go_at_call 51; ((with_reducible refine (U7.out _).mono ?_); rintro e w2 ⟨rfl, hbr⟩; refine back ?_; exact hKq _ hbr)) | ((have C1 := Has.cell (D1.below (undrew hbq))); (have C2 := Has.cell (D2.below (undrew hbq))); (have C3 := Has.cell (D3.below (undrew hbq))); (have C4 := Has.cell (D4.below (undrew hbq))); (have C5 := Has.cell (D5.below (undrew hbq))); (have C6 := Has.cell (D6.below (undrew hbq))); (have C7 := Has.cell (D7.below (undrew hbq))); go_simp; exact hKq _ (Below.refl _ _)))); ((try simp only [Act.put, List.setIfInBounds_toArray, List.set_cons_zero, List.set_cons_succ]))))
      (refine wpHeld_nil (hFq _ ?_); clear hFq; intro w' hbq; ((try (have B0 := Has.below (b := w.heap.size) (by repeat' (first | with_reducible assumption | with_reducible apply Has.new | with_reducible apply Has.new1 | with_reducible apply Has.new2 | with_reducible apply Has.new3 | with_reducible apply Has.new4 | with_reducible apply Has.drew | with_reducible apply Has.drewN | with_reducible apply Has.alloc | with_reducible apply Has.same | with_reducible apply Has.other | (with_reducible show _ ≠ _; first | omega | (simp; done)))) hbq; have C0 := Has.cell B0; have F0 := Has.frozen B0)); (try (have B1 := Has.below (b := w.heap.size + 1) (by repeat' (first | with_reducible assumption | with_reducible apply Has.new | with_reducible apply Has.new1 | with_reducible apply Has.new2 | with_reducible apply Has.new3 | with_reducible apply Has.new4 | with_reducible apply Has.drew | with_reducible apply Has.drewN | with_reducible apply Has.alloc | with_reducible apply Has.same | with_reducible apply Has.other | (with_reducible show _ ≠ _; first | omega | (simp; done)))) hbq; have C1 := Has.cell B1; have F1 := Has.frozen B1)); (try (have B2 := Has.below (b := w.heap.size + 1 + 1) (by repeat' (first | with_reducible assumption | with_reducible apply Has.new | with_reducible apply Has.new1 | with_reducible apply Has.new2 | with_reducible apply Has.new3 | with_reducible apply Has.new4 | with_reducible apply Has.drew | with_reducible apply Has.drewN | with_reducible apply Has.alloc | with_reducible apply Has.same | with_reducible apply Has.other | (with_reducible show _ ≠ _; first | omega | (simp; done)))) hbq; have C2 := Has.cell B2; have F2 := Has.frozen B2)); (try (have B3 := Has.below (b := w.heap.size + 1 + 1 + 1) (by repeat' (first | with_reducible assumption | with_reducible apply Has.new | with_reducible apply Has.new1 | with_reducible apply Has.new2 | with_reducible apply Has.new3 | with_reducible apply Has.new4 | with_reducible apply Has.drew | with_reducible apply Has.drewN | with_reducible apply Has.alloc | with_reducible apply Has.same | with_reducible apply Has.other | (with_reducible show _ ≠ _; first | omega | (simp; done)))) hbq; have C3 := Has.cell B3; have F3 := Has.frozen B3)); (try (have BX := Has.below (b := bX) (by repeat' (first | with_reducible assumption | with_reducible apply Has.new | with_reducible apply Has.new1 | with_reducible apply Has.new2 | with_reducible apply Has.new3 | with_reducible apply Has.new4 | with_reducible apply Has.drew | with_reducible apply Has.drewN | with_reducible apply Has.alloc | with_reducible apply Has.same | with_reducible apply Has.other | (with_reducible show _ ≠ _; first | omega | (simp; done)))) hbq; have CX := Has.cell BX; have FX := Has.frozen BX)); (try (have BY := Has.below (b := bY) (by repeat' (first | with_reducible assumption | with_reducible apply Has.new | with_reducible apply Has.new1 | with_reducible apply Has.new2 | with_reducible apply Has.new3 | with_reducible apply Has.new4 | with_reducible apply Has.drew | with_reducible apply Has.drewN | with_reducible apply Has.alloc | with_reducible apply Has.same | with_reducible apply Has.other | (with_reducible show _ ≠ _; first | omega | (simp; done)))) hbq; have CY := Has.cell BY; have FY := Has.frozen BY))))
      have uu := undrew hbq
      have T1 := D1.below uu
      have T2 := D2.below uu
      have T3 := D3.below uu
      have T4 := D4.below uu
      have T5 := D5.below uu
      have T6 := D6.below uu
      have T7 := D7.below uu
      have hL2 := lowCall hL uu
      clear hL hbq uu D1 D2 D3 D4 D5 D6 D7
      have D1 := T1
      have D2 := T2
      have D3 := T3
      have D4 := T4
      have D5 := T5
      have D6 := T6
      have D7 := T7
      have hL := hL2
      clear hL2 T1 T2 T3 T4 T5 T6 T7
      have C1 := Has.cell D1
      have C2 := Has.cell D2
      have C3 := Has.cell D3
      have C4 := Has.cell D4
      have C5 := Has.cell D5
      have C6 := Has.cell D6
      have C7 := Has.cell D7
      clear U2 U4 U6 U7 D1 C1
      cases hv
      · cases bv
        · clear U11 U12
          go_wp2_with (first | (go_at_call 53; ((with_reducible refine (U9.out _).mono ?_); rintro e w' ⟨rfl, hbq⟩); have T2 := D2.below hbq; have T3 := D3.below hbq; have T4 := D4.below hbq; have T5 := D5.below hbq; have T6 := D6.below hbq; have T7 := D7.below hbq; have hL2 := lowCall hL hbq; clear hL hbq D2 D3 D4 D5 D6 D7 C2 C3 C4 C5 C6 C7; have D2 := T2; have D3 := T3; have D4 := T4; have D5 := T5; have D6 := T6; have D7 := T7; have hL := hL2; clear hL2 T2 T3 T4 T5 T6 T7; have C2 := Has.cell D2; have C3 := Has.cell D3; have C4 := Has.cell D4; have C5 := Has.cell D5; have C6 := Has.cell D6; have C7 := Has.cell D7) | (go_at_call 55; ((with_reducible refine (U10.out _).mono ?_); rintro e w' ⟨rfl, hbq⟩); have T2 := D2.below hbq; have T3 := D3.below hbq; have T4 := D4.below hbq; have T5 := D5.below hbq; have T6 := D6.below hbq; have T7 := D7.below hbq; have hL2 := lowCall hL hbq; clear hL hbq D2 D3 D4 D5 D6 D7 C2 C3 C4 C5 C6 C7; have D2 := T2; have D3 := T3; have D4 := T4; have D5 := T5; have D6 := T6; have D7 := T7; have hL := hL2; clear hL2 T2 T3 T4 T5 T6 T7; have C2 := Has.cell D2; have C3 := Has.cell D3; have C4 := Has.cell D4; have C5 := Has.cell D5; have C6 := Has.cell D6; have C7 := Has.cell D7))
          go_ret; refine ⟨by first | rfl | (simp; done) | (simp; omega), ?_⟩; (repeat' (first | with_reducible exact lowRefl _ | with_reducible apply lowSet | with_reducible apply lowDrew | with_reducible apply lowDrewN | with_reducible apply lowAlloc | (with_reducible refine lowCall ?_ (by assumption)) | (show (_ : Nat) ≤ _; first | (simp; done) | (simp; omega) | omega)))
        · obtain ⟨X2, Y2, t13, t14⟩ := U12.out rfl
          have U13 := Lib.hid t13
          have U14 := Lib.hid t14
          clear t13 t14 U11 U12
          go_wp2_with (first | (go_at_call 53; ((with_reducible refine (U9.out _).mono ?_); rintro e w' ⟨rfl, hbq⟩); have T2 := D2.below hbq; have T3 := D3.below hbq; have T4 := D4.below hbq; have T5 := D5.below hbq; have T6 := D6.below hbq; have T7 := D7.below hbq; have hL2 := lowCall hL hbq; clear hL hbq D2 D3 D4 D5 D6 D7 C2 C3 C4 C5 C6 C7; have D2 := T2; have D3 := T3; have D4 := T4; have D5 := T5; have D6 := T6; have D7 := T7; have hL := hL2; clear hL2 T2 T3 T4 T5 T6 T7; have C2 := Has.cell D2; have C3 := Has.cell D3; have C4 := Has.cell D4; have C5 := Has.cell D5; have C6 := Has.cell D6; have C7 := Has.cell D7) | (go_at_call 55; ((with_reducible refine (U10.out _).mono ?_); rintro e w' ⟨rfl, hbq⟩); have T2 := D2.below hbq; have T3 := D3.below hbq; have T4 := D4.below hbq; have T5 := D5.below hbq; have T6 := D6.below hbq; have T7 := D7.below hbq; have hL2 := lowCall hL hbq; clear hL hbq D2 D3 D4 D5 D6 D7 C2 C3 C4 C5 C6 C7; have D2 := T2; have D3 := T3; have D4 := T4; have D5 := T5; have D6 := T6; have D7 := T7; have hL := hL2; clear hL2 T2 T3 T4 T5 T6 T7; have C2 := Has.cell D2; have C3 := Has.cell D3; have C4 := Has.cell D4; have C5 := Has.cell D5; have C6 := Has.cell D6; have C7 := Has.cell D7) | (go_at_call 56; ((with_reducible refine (U13.out _).mono ?_); rintro e w' ⟨rfl, hbq⟩); have T2 := D2.below hbq; have T3 := D3.below hbq; have T4 := D4.below hbq; have T5 := D5.below hbq; have T6 := D6.below hbq; have T7 := D7.below hbq; have hL2 := lowCall hL hbq; clear hL hbq D2 D3 D4 D5 D6 D7 C2 C3 C4 C5 C6 C7; have D2 := T2; have D3 := T3; have D4 := T4; have D5 := T5; have D6 := T6; have D7 := T7; have hL := hL2; clear hL2 T2 T3 T4 T5 T6 T7; have C2 := Has.cell D2; have C3 := Has.cell D3; have C4 := Has.cell D4; have C5 := Has.cell D5; have C6 := Has.cell D6; have C7 := Has.cell D7) | (go_at_call 56; ((with_reducible refine (U14.out _).mono ?_); rintro e w' ⟨rfl, hbq⟩); have T2 := D2.below hbq; have T3 := D3.below hbq; have T4 := D4.below hbq; have T5 := D5.below hbq; have T6 := D6.below hbq; have T7 := D7.below hbq; have hL2 := lowCall hL hbq; clear hL hbq D2 D3 D4 D5 D6 D7 C2 C3 C4 C5 C6 C7; have D2 := T2; have D3 := T3; have D4 := T4; have D5 := T5; have D6 := T6; have D7 := T7; have hL := hL2; clear hL2 T2 T3 T4 T5 T6 T7; have C2 := Has.cell D2; have C3 := Has.cell D3; have C4 := Has.cell D4; have C5 := Has.cell D5; have C6 := Has.cell D6; have C7 := Has.cell D7))
          go_ret; refine ⟨by first | rfl | (simp; done) | (simp; omega), ?_⟩; (repeat' (first | with_reducible exact lowRefl _ | with_reducible apply lowSet | with_reducible apply lowDrew | with_reducible apply lowDrewN | with_reducible apply lowAlloc | (with_reducible refine lowCall ?_ (by assumption)) | (show (_ : Nat) ≤ _; first | (simp; done) | (simp; omega) | omega)))
      · obtain ⟨X1, Y1, t15, t16⟩ := U11.out rfl
        have U15 := Lib.hid t15
        have U16 := Lib.hid t16
        clear t15 t16 U11
        cases bv
        · clear U12
          go_wp2_with (first | (go_at_call 53; ((with_reducible refine (U9.out _).mono ?_); rintro e w' ⟨rfl, hbq⟩); have T2 := D2.below hbq; have T3 := D3.below hbq; have T4 := D4.below hbq; have T5 := D5.below hbq; have T6 := D6.below hbq; have T7 := D7.below hbq; have hL2 := lowCall hL hbq; clear hL hbq D2 D3 D4 D5 D6 D7 C2 C3 C4 C5 C6 C7; have D2 := T2; have D3 := T3; have D4 := T4; have D5 := T5; have D6 := T6; have D7 := T7; have hL := hL2; clear hL2 T2 T3 T4 T5 T6 T7; have C2 := Has.cell D2; have C3 := Has.cell D3; have C4 := Has.cell D4; have C5 := Has.cell D5; have C6 := Has.cell D6; have C7 := Has.cell D7) | (go_at_call 54; ((with_reducible refine (U15.out _).mono ?_); rintro e w' ⟨rfl, hbq⟩); have T2 := D2.below hbq; have T3 := D3.below hbq; have T4 := D4.below hbq; have T5 := D5.below hbq; have T6 := D6.below hbq; have T7 := D7.below hbq; have hL2 := lowCall hL hbq; clear hL hbq D2 D3 D4 D5 D6 D7 C2 C3 C4 C5 C6 C7; have D2 := T2; have D3 := T3; have D4 := T4; have D5 := T5; have D6 := T6; have D7 := T7; have hL := hL2; clear hL2 T2 T3 T4 T5 T6 T7; have C2 := Has.cell D2; have C3 := Has.cell D3; have C4 := Has.cell D4; have C5 := Has.cell D5; have C6 := Has.cell D6; have C7 := Has.cell D7) | (go_at_call 54; ((with_reducible refine (U16.out _).mono ?_); rintro e w' ⟨rfl, hbq⟩); have T2 := D2.below hbq; have T3 := D3.below hbq; have T4 := D4.below hbq; have T5 := D5.below hbq; have T6 := D6.below hbq; have T7 := D7.below hbq; have hL2 := lowCall hL hbq; clear hL hbq D2 D3 D4 D5 D6 D7 C2 C3 C4 C5 C6 C7; have D2 := T2; have D3 := T3; have D4 := T4; have D5 := T5; have D6 := T6; have D7 := T7; have hL := hL2; clear hL2 T2 T3 T4 T5 T6 T7; have C2 := Has.cell D2; have C3 := Has.cell D3; have C4 := Has.cell D4; have C5 := Has.cell D5; have C6 := Has.cell D6; have C7 := Has.cell D7) | (go_at_call 55; ((with_reducible refine (U10.out _).mono ?_); rintro e w' ⟨rfl, hbq⟩); have T2 := D2.below hbq; have T3 := D3.below hbq; have T4 := D4.below hbq; have T5 := D5.below hbq; have T6 := D6.below hbq; have T7 := D7.below hbq; have hL2 := lowCall hL hbq; clear hL hbq D2 D3 D4 D5 D6 D7 C2 C3 C4 C5 C6 C7; have D2 := T2; have D3 := T3; have D4 := T4; have D5 := T5; have D6 := T6; have D7 := T7; have hL := hL2; clear hL2 T2 T3 T4 T5 T6 T7; have C2 := Has.cell D2; have C3 := Has.cell D3; have C4 := Has.cell D4; have C5 := Has.cell D5; have C6 := Has.cell D6; have C7 := Has.cell D7))
          go_ret; refine ⟨by first | rfl | (simp; done) | (simp; omega), ?_⟩; (repeat' (first | with_reducible exact lowRefl _ | with_reducible apply lowSet | with_reducible apply lowDrew | with_reducible apply lowDrewN | with_reducible apply lowAlloc | (with_reducible refine lowCall ?_ (by assumption)) | (show (_ : Nat) ≤ _; first | (simp; done) | (simp; omega) | omega)))
        · obtain ⟨X2, Y2, t13, t14⟩ := U12.out rfl
          have U13 := Lib.hid t13
          have U14 := Lib.hid t14
          clear t13 t14 U12
          go_wp2_with (first | (go_at_call 53; ((with_reducible refine (U9.out _).mono ?_); rintro e w' ⟨rfl, hbq⟩); have T2 := D2.below hbq; have T3 := D3.below hbq; have T4 := D4.below hbq; have T5 := D5.below hbq; have T6 := D6.below hbq; have T7 := D7.below hbq; have hL2 := lowCall hL hbq; clear hL hbq D2 D3 D4 D5 D6 D7 C2 C3 C4 C5 C6 C7; have D2 := T2; have D3 := T3; have D4 := T4; have D5 := T5; have D6 := T6; have D7 := T7; have hL := hL2; clear hL2 T2 T3 T4 T5 T6 T7; have C2 := Has.cell D2; have C3 := Has.cell D3; have C4 := Has.cell D4; have C5 := Has.cell D5; have C6 := Has.cell D6; have C7 := Has.cell D7) | (go_at_call 54; ((with_reducible refine (U15.out _).mono ?_); rintro e w' ⟨rfl, hbq⟩); have T2 := D2.below hbq; have T3 := D3.below hbq; have T4 := D4.below hbq; have T5 := D5.below hbq; have T6 := D6.below hbq; have T7 := D7.below hbq; have hL2 := lowCall hL hbq; clear hL hbq D2 D3 D4 D5 D6 D7 C2 C3 C4 C5 C6 C7; have D2 := T2; have D3 := T3; have D4 := T4; have D5 := T5; have D6 := T6; have D7 := T7; have hL := hL2; clear hL2 T2 T3 T4 T5 T6 T7; have C2 := Has.cell D2; have C3 := Has.cell D3; have C4 := Has.cell D4; have C5 := Has.cell D5; have C6 := Has.cell D6; have C7 := Has.cell D7) | (go_at_call 54; ((with_reducible refine (U16.out _).mono ?_); rintro e w' ⟨rfl, hbq⟩); have T2 := D2.below hbq; have T3 := D3.below hbq; have T4 := D4.below hbq; have T5 := D5.below hbq; have T6 := D6.below hbq; have T7 := D7.below hbq; have hL2 := lowCall hL hbq; clear hL hbq D2 D3 D4 D5 D6 D7 C2 C3 C4 C5 C6 C7; have D2 := T2; have D3 := T3; have D4 := T4; have D5 := T5; have D6 := T6; have D7 := T7; have hL := hL2; clear hL2 T2 T3 T4 T5 T6 T7; have C2 := Has.cell D2; have C3 := Has.cell D3; have C4 := Has.cell D4; have C5 := Has.cell D5; have C6 := Has.cell D6; have C7 := Has.cell D7) | (go_at_call 55; ((with_reducible refine (U10.out _).mono ?_); rintro e w' ⟨rfl, hbq⟩); have T2 := D2.below hbq; have T3 := D3.below hbq; have T4 := D4.below hbq; have T5 := D5.below hbq; have T6 := D6.below hbq; have T7 := D7.below hbq; have hL2 := lowCall hL hbq; clear hL hbq D2 D3 D4 D5 D6 D7 C2 C3 C4 C5 C6 C7; have D2 := T2; have D3 := T3; have D4 := T4; have D5 := T5; have D6 := T6; have D7 := T7; have hL := hL2; clear hL2 T2 T3 T4 T5 T6 T7; have C2 := Has.cell D2; have C3 := Has.cell D3; have C4 := Has.cell D4; have C5 := Has.cell D5; have C6 := Has.cell D6; have C7 := Has.cell D7) | (go_at_call 56; ((with_reducible refine (U13.out _).mono ?_); rintro e w' ⟨rfl, hbq⟩); have T2 := D2.below hbq; have T3 := D3.below hbq; have T4 := D4.below hbq; have T5 := D5.below hbq; have T6 := D6.below hbq; have T7 := D7.below hbq; have hL2 := lowCall hL hbq; clear hL hbq D2 D3 D4 D5 D6 D7 C2 C3 C4 C5 C6 C7; have D2 := T2; have D3 := T3; have D4 := T4; have D5 := T5; have D6 := T6; have D7 := T7; have hL := hL2; clear hL2 T2 T3 T4 T5 T6 T7; have C2 := Has.cell D2; have C3 := Has.cell D3; have C4 := Has.cell D4; have C5 := Has.cell D5; have C6 := Has.cell D6; have C7 := Has.cell D7) | (go_at_call 56; ((with_reducible refine (U14.out _).mono ?_); rintro e w' ⟨rfl, hbq⟩); have T2 := D2.below hbq; have T3 := D3.below hbq; have T4 := D4.below hbq; have T5 := D5.below hbq; have T6 := D6.below hbq; have T7 := D7.below hbq; have hL2 := lowCall hL hbq; clear hL hbq D2 D3 D4 D5 D6 D7 C2 C3 C4 C5 C6 C7; have D2 := T2; have D3 := T3; have D4 := T4; have D5 := T5; have D6 := T6; have D7 := T7; have hL := hL2; clear hL2 T2 T3 T4 T5 T6 T7; have C2 := Has.cell D2; have C3 := Has.cell D3; have C4 := Has.cell D4; have C5 := Has.cell D5; have C6 := Has.cell D6; have C7 := Has.cell D7))
          go_ret; refine ⟨by first | rfl | (simp; done) | (simp; omega), ?_⟩; (repeat' (first | with_reducible exact lowRefl _ | with_reducible apply lowSet | with_reducible apply lowDrew | with_reducible apply lowDrewN | with_reducible apply lowAlloc | (with_reducible refine lowCall ?_ (by assumption)) | (show (_ : Nat) ≤ _; first | (simp; done) | (simp; omega) | omega)))
  · go_enter Try.func12, Try.ntmps12
    go_wp2
    go_ret; refine ⟨rfl, ?_⟩; (repeat' (first | with_reducible exact lowRefl _ | with_reducible apply lowSet | with_reducible apply lowDrew | with_reducible apply lowDrewN | with_reducible apply lowAlloc | (with_reducible refine lowCall ?_ (by assumption)) | (show (_ : Nat) ≤ _; first | (simp; done) | (simp; omega) | omega)))
end Go.Proofs.Ytbgcbolalbjepab
namespace Go.Proofs.Ytbgcbolalbjepab
open Go.ChangeShapes Go.WideShapes Go.ChangeAt Go.RowKit

theorem cutFacts (a b c3 : Int) (k l o : Bool) (p q r f1 f2 f3 f4 g1 g2 g3 g4 x y z u v t : Int) : CutFacts a b c3 k l o p q r f1 f2 f3 f4 g1 g2 g3 g4 x y z u v t := by
  obtain ⟨H1, H2, H3, H4, i1, s1, h1⟩ := halfMv a b c3 k l o p q r f1 f2 f3 f4
  obtain ⟨K1, K2, K3, K4, i2, s2, h2⟩ := ballMv a b c3 k l o p q r g1 g2 g3 g4
  obtain ⟨R1, R2, R3, R4, R5, R6, i3, s3, h3⟩ := rayMv a b c3 k l o p q r x y z u v t
  rcases h3 with h3 | ⟨hm, hr, hR, P, Q, R, e2, e3, rfl, rfl, rfl⟩
  · refine ⟨H1, H2, H3, H4, K1, K2, K3, K4, R1, R2, R3, R4, R5, R6, false, i1, s1, i2, s2, i3, s3, fun w => irayOk_no _ _ _ _ _ _ w h3, .inl ⟨rfl, ?_⟩⟩
    by_cases hr : Rok x y z u v t
    · exact ⟨true, fun w => irayOk_yes _ _ _ _ _ _ w hr, fun w => srayOk_yes _ _ _ _ _ _ w hr⟩
    · exact ⟨false, fun w => irayOk_no _ _ _ _ _ _ w hr, fun w => srayOk_no _ _ _ _ _ _ w hr⟩
  · have hh : ∃ hv : Bool, (∀ w, Calls Try.prog 53 #[.agg #[.int .i64 (H1), .int .i64 (H2), .int .i64 (H3), .int .i64 (H4)]] w fun e w' => e = .returned (.bool hv) ∧ Below w.heap.size w w') ∧ (hv = true → ∃ X Y : Int, (∀ w, Calls Try.prog 54 #[.agg #[.int .i64 (f1), .int .i64 (f2), .int .i64 (f3), .int .i64 (f4)], .agg #[.int .i64 (x), .int .i64 (y), .int .i64 (z), .int .i64 (u), .int .i64 (v), .int .i64 (t)]] w fun e w' => e = .returned (.tuple #[.int .i64 (X), .int .i64 (Y)]) ∧ Below w.heap.size w w') ∧
        (∀ w, Calls Try.prog 54 #[.agg #[.int .i64 (H1), .int .i64 (H2), .int .i64 (H3), .int .i64 (H4)], .agg #[.int .i64 (P + p), .int .i64 (Q + q), .int .i64 (R + r), .int .i64 (R4), .int .i64 (R5), .int .i64 (R6)]] w fun e w' => e = .returned (.tuple #[.int .i64 (X), .int .i64 (Y)]) ∧ Below w.heap.size w w')) := by
      rcases h1 with h1 | ⟨-, hf, hF, g, e1⟩
      · exact ⟨false, fun w => ihalfOk_no _ _ _ _ w h1, fun h => by cases h⟩
      · exact ⟨true, fun w => ihalfOk_yes _ _ _ _ w hF, fun _ => halfKeeps hm hf hr e1 e2 e3 hF hR⟩
    have hb : ∃ bv : Bool, (∀ w, Calls Try.prog 55 #[.agg #[.int .i64 (K1), .int .i64 (K2), .int .i64 (K3), .int .i64 (K4)]] w fun e w' => e = .returned (.bool bv) ∧ Below w.heap.size w w') ∧ (bv = true → ∃ X Y : Int, (∀ w, Calls Try.prog 56 #[.agg #[.int .i64 (g1), .int .i64 (g2), .int .i64 (g3), .int .i64 (g4)], .agg #[.int .i64 (x), .int .i64 (y), .int .i64 (z), .int .i64 (u), .int .i64 (v), .int .i64 (t)]] w fun e w' => e = .returned (.tuple #[.int .i64 (X), .int .i64 (Y)]) ∧ Below w.heap.size w w') ∧
        (∀ w, Calls Try.prog 56 #[.agg #[.int .i64 (K1), .int .i64 (K2), .int .i64 (K3), .int .i64 (K4)], .agg #[.int .i64 (P + p), .int .i64 (Q + q), .int .i64 (R + r), .int .i64 (R4), .int .i64 (R5), .int .i64 (R6)]] w fun e w' => e = .returned (.tuple #[.int .i64 (X), .int .i64 (Y)]) ∧ Below w.heap.size w w')) := by
      rcases h2 with h2 | ⟨-, hf, hF, X, Y, Z, e1, rfl, rfl, rfl, rfl⟩
      · exact ⟨false, fun w => iballOk_no _ _ _ _ w h2, fun h => by cases h⟩
      · exact ⟨true, fun w => iballOk_yes _ _ _ _ w hF, fun _ => ballKeeps hm hf hr e1 e2 e3 hF hR⟩
    obtain ⟨hv, q1, q2⟩ := hh
    obtain ⟨bv, q3, q4⟩ := hb
    exact ⟨H1, H2, H3, H4, K1, K2, K3, K4, P + p, Q + q, R + r, R4, R5, R6, true, i1, s1, i2, s2, i3, s3, fun w => irayOk_yes _ _ _ _ _ _ w hR, .inr ⟨rfl, hv, bv, q1, q3, q2, q4⟩⟩
theorem wFnCutMoved {A : Option Addr} {n c : Nat} {w : World} (hnc : n ≤ c) (hcap : c ≤ 9223372036854775807) (hcode : Code w w.heap.size A n) :
    Calls Try.prog 12 #[.slice A n c] w fun e w' => e = .returned (.bool true) ∧ Below w.heap.size w w' :=
  lawCutMoved hnc hcap hcode (fun w hc => drawHalfMoved_any A n c w hnc hcap hc) cutFacts
end Go.Proofs.Ytbgcbolalbjepab
