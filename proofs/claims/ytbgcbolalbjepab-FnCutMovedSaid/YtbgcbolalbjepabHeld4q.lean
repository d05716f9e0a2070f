import Derived.Test.YtbgcbolalbjepabHeldq
namespace Go.Proofs.Ytbgcbolalbjepab
open Go Go.RowKit

/- A region of open order whose tail is the making of two variables, in either order, and a store into each: 'x, y := f(), g()'. -/
section
variable {P : Program} {ops : Array Oper} {Q : Exit → Act → World → Prop} {md : Region.Mode} {S : World → Prop}
theorem wpOp_of_vgo {i : Nat} {o : Oper} {a : Act} {w : World} {K : Act → World → Prop} (ho : ops[i]? = some o) (hg : Region.wanted o (yielded ops a.tmps) = true) (R : Value → World → Prop)
    (h1 : VGo P R ((execOp a.eval o).run P w)) (hK : ∀ u w', R u w' → K (a.put o.dst u) w') : wpOp P ops Q i K a w := by
  unfold Go.wpOp
  simp only [ho, hg, if_true]
  refine .inl ?_
  unfold Oper.wp
  generalize (execOp a.eval o).run P w = r at *
  cases r with
  | ok n w' =>
    cases n <;> simp only [VGo] at h1 <;> simp only [Oper.upon]
    case value u => exact hK _ _ h1
    case skip => exact hK _ _ h1
    case enter f args => exact Calls.mono h1 fun e w'' ⟨u, he, hu⟩ => by subst he; exact hK _ _ hu
  | halt x w' => simp only [VGo] at h1
theorem blk_below {w w' : World} {b : Nat} {o : Obj} (h : w.heap[b]? = some o) (hb : Below w.heap.size w w') : w'.heap[b]? = some o := by
  rw [hb.block b (Array.getElem?_eq_some_iff.1 h).1]; exact h
end
end Go.Proofs.Ytbgcbolalbjepab
