import Derived.Test.YtbgcbolalbjepaaHeldCu
import Derived.Test.YtbgcbolalbjepaaRdBu
namespace Go.Proofs.Ytbgcbolalbjepaa
open Go Go.RowKit

/- the rule HeldC for a region of ten operations, as spec.l4Aimed has it; and one step of its chain -/
theorem upon_VGo2 {P : Program} {Q : Exit → Act → World → Prop} {o : Oper} {a : Act} {w : World} {K : Act → World → Prop}
    (h : VGo P (fun u x => K (a.put o.dst u) x) ((execOp a.eval o).run P w)) : o.wp P a w K Q := by
  unfold Oper.wp
  generalize (execOp a.eval o).run P w = r at *
  cases r with
  | ok n w' =>
    cases n <;> simp only [VGo, Oper.upon] at h ⊢
    case value u => exact h
    case skip => exact h
    case enter f args =>
      refine Calls.mono h fun e w'' he => ?_
      obtain ⟨u, rfl, hu⟩ := he
      exact hu
    all_goals exact h.elim
  | halt x w' => exact h.elim
theorem wpC_op {P : Program} {ops : Array Oper} {Q : Exit → Act → World → Prop} {S : World → Prop} {g : Nat} {Fin : Act → (World → Prop) → Prop} {o : Oper} {rest : List Oper} {a : Act} {F : World → Prop} (R : Value → World → Prop)
    (h : ∀ w, S w → F w → ∀ K : Value → World → Prop, (∀ v w', w.grownBy w' (some g) → R v w' → K v w') → VGo P K ((execOp a.eval o).run P w))
    (hr : ∀ v w', R v w' → ∃ F', Stab F' ∧ F' w' ∧ wpC P ops Q S g Fin rest (a.put o.dst v) F') : wpC P ops Q S g Fin (o :: rest) a F := fun w hS hF =>
  upon_VGo2 (h w hS hF _ fun v w' hg hR => ⟨hg, hr v w' hR⟩)
theorem wpC_nil {P : Program} {ops : Array Oper} {Q : Exit → Act → World → Prop} {S : World → Prop} {g : Nat} {Fin : Act → (World → Prop) → Prop} {a : Act} {F : World → Prop} (h : Fin a F) : wpC P ops Q S g Fin [] a F := h
theorem byBelow {w w' : World} {r : Option Nat} (h : Below w.heap.size w w') : w.grownBy w' r := ⟨h.os, h.tape, h.output, h.size, fun i hi _ => h.block i hi⟩
theorem rd_stab {B g n c m : Nat} {A : Option Addr} : Stab fun w => Rd w B g A n c m := fun _ _ h k => h.below k
end Go.Proofs.Ytbgcbolalbjepaa
