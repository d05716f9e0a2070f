
import Derived.Test.YtegibpepdndocaaHeldC
import Derived.Test.YtegibpepdndocaaRdB
namespace Go.Proofs.Ytegibpepdndocaa
open Go Go.RowKit

/- the rule HeldC for a region of ten operations, as spec.l4Aimed has it; and one step of its chain -/
theorem upon_VGo2 {P : Program} {Q : Exit → Act → World → Prop} {o : Oper} {a : Act} {w : World} {K : Act → World → Prop}
    (h : VGo P (fun u x => K (a.put o.dst u) x) ((execOp a.eval o).run P w)) : o.wp P a w K Q := by
  unfold Oper.wp
  generalize (execOp a.eval o).run P w = r at *
  cases r with
  | ok n w' =>
    cases n <;> simp only [VGo, Oper.upon] at h ⊢
    case value u => exact h
    case skip => exact h
    case enter f args =>
      refine Calls.mono h fun e w'' he => ?_
      obtain ⟨u, rfl, hu⟩ := he
      exact hu
    all_goals exact h.elim
  | halt x w' => exact h.elim
theorem wpC_op {P : Program} {ops : Array Oper} {Q : Exit → Act → World → Prop} {S : World → Prop} {g : Nat} {Fin : Act → (World → Prop) → Prop} {o : Oper} {rest : List Oper} {a : Act} {F : World → Prop} (R : Value → World → Prop)
    (h : ∀ w, S w → F w → ∀ K : Value → World → Prop, (∀ v w', w.grownBy w' (some g) → R v w' → K v w') → VGo P K ((execOp a.eval o).run P w))
    (hr : ∀ v w', R v w' → ∃ F', Stab F' ∧ F' w' ∧ wpC P ops Q S g Fin rest (a.put o.dst v) F') : wpC P ops Q S g Fin (o :: rest) a F := fun w hS hF =>
  upon_VGo2 (h w hS hF _ fun v w' hg hR => ⟨hg, hr v w' hR⟩)
theorem wpC_nil {P : Program} {ops : Array Oper} {Q : Exit → Act → World → Prop} {S : World → Prop} {g : Nat} {Fin : Act → (World → Prop) → Prop} {a : Act} {F : World → Prop} (h : Fin a F) : wpC P ops Q S g Fin [] a F := h
theorem heldC10 {P : Program} {Q : Exit → Act → World → Prop} {id : Nat} {a : Act} {w : World} {o0 o1 o2 o3 o4 o5 o6 o7 o8 o9 : Oper} (g : Nat) (hm : P.follows .mixedOrders = true) (hB : heldCB [o0, o1, o2, o3, o4, o5, o6, o7, o8, o9].toArray [0, 1, 4, 5] [2, 3, 6, 7] 8 9 = true)
    (hQ : ∀ c a w (d : Option Tmp) (v : Value), Q (.panic c) (a.put d v) w → Q (.panic c) a w) (hQ2 : ∀ c a w (d : Option Tmp) (v : Value), Q (.panic c) a w → Q (.panic c) (a.put d v) w) (obj : Obj)
    (hal : ∀ (a : Act) (w : World) (K : Value → World → Prop), K (ptr w.heap.size) (w.alloc obj) → VGo P K ((execOp a.eval o8).run P w))
    (F : World → Prop) (hF : Stab F) (hFw : F w.drew) (hg : g < w.heap.size)
    (h : ∀ Fin : Act → Prop, (∀ a', wpC P [o0, o1, o2, o3, o4, o5, o6, o7, o8, o9].toArray Q (fun w' => w.drew.grownBy w' (some g)) g (FinC P [o0, o1, o2, o3, o4, o5, o6, o7, o8, o9].toArray Q (fun w' => w.drew.grownBy w' (some g)) w.heap.size obj o8 o9) [o2, o3, o6, o7] a' F → Fin a') →
      wpHeld P [o0, o1, o2, o3, o4, o5, o6, o7, o8, o9].toArray (fun w' => w.drew.grownBy w' (some g)) Fin [o0, o1, o4, o5] a) : (Code.region id [o0, o1, o2, o3, o4, o5, o6, o7, o8, o9].toArray true).wp P Q a w :=
  wp_region_heldC [0, 1, 4, 5] [2, 3, 6, 7] 8 9 g hm hB rfl rfl rfl rfl hQ hQ2 obj hal F hF hFw hg h
theorem byBelow {w w' : World} {r : Option Nat} (h : Below w.heap.size w w') : w.grownBy w' r := ⟨h.os, h.tape, h.output, h.size, fun i hi _ => h.block i hi⟩
theorem rd_stab {B g n c m : Nat} {A : Option Addr} : Stab fun w => Rd w B g A n c m := fun _ _ h k => h.below k
end Go.Proofs.Ytegibpepdndocaa
