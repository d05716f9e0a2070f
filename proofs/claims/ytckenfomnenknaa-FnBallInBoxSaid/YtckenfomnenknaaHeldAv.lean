import Derived.Test.YtckenfomnenknaaHeldv
namespace Go.Proofs.Ytckenfomnenknaa
open Go Go.RowKit

/- A region whose order is open and that ends in 'x = append(x, T{..})': all that is reckoned gives the same value in every world that meets S (what was there is as it was, but for the row that grows); the new block, the append and the assignment come last. F: what stays true while only new memory comes; G: what is known behind the append. -/
section
variable {P : Program} {ops : Array Oper} {Q : Exit → Act → World → Prop} {md : Region.Mode} {S : World → Prop}
theorem upon_VGo {P : Program} {Q : Exit → Act → World → Prop} {o : Oper} {a : Act} {v : Value} {w w' : World} {K : Act → World → Prop}
    (h : VGo P (fun u x => u = v ∧ x = w') ((execOp a.eval o).run P w)) (hK : K (a.put o.dst v) w') : o.wp P a w K Q := by
  unfold Oper.wp
  generalize (execOp a.eval o).run P w = r at *
  cases r with
  | ok n x =>
    cases n <;> simp only [VGo] at h <;> simp only [Oper.upon]
    case value u => obtain ⟨rfl, rfl⟩ := h; exact hK
    case skip => obtain ⟨hu, rfl⟩ := h; rw [hu]; exact hK
    case enter f args => exact Calls.mono h fun e w'' ⟨u, he, hu, hw⟩ => by subst he; subst hu; subst hw; exact hK
  | halt x w' => simp only [VGo] at h

end
/- what was there is as it was, but for the row that grows -/
theorem grown_stab {W : World} {row : Option Nat} (w w' : World) (h : W.grownBy w row) (k : Below w.heap.size w w') : W.grownBy w' row :=
  ⟨k.os.trans h.os, k.tape.trans h.tape, k.output.trans h.output, Nat.le_trans h.size k.size, fun i hi hne => (k.block i (Nat.lt_of_lt_of_le hi h.size)).trans (h.block i hi hne)⟩
end Go.Proofs.Ytckenfomnenknaa
