
import Derived.Test.YtbgcbolalbjepaaHeld4
namespace Go.Proofs.Ytbgcbolalbjepaa
open Go Go.RowKit

/- A region of open order whose tail is the making of a variable, a store into it, and one assignment: 'x, ok := f()'. -/
section
variable {P : Program} {ops : Array Oper} {Q : Exit → Act → World → Prop} {md : Region.Mode} {S : World → Prop}
def tail5B (md : Region.Mode) (ops : Array Oper) (n : Nat) (listed : Array Bool) : Bool :=
  decide (Region.ready md ops listed = [n]) && decide (n + 3 = ops.size) && seenB n listed &&
  decide (Region.ready md ops (listed.setIfInBounds n true) = [n + 1]) &&
  decide (Region.ready md ops ((listed.setIfInBounds n true).setIfInBounds (n + 1) true) = [n + 2])
theorem held_tail5 {n : Nat} {o5 o6 o7 : Oper} {obj objA : Obj} {listed : Array Bool} {a : Act} {N : Nat} (hstab : ∀ w w', S w → Below w.heap.size w w' → S w') (hN : ∀ w, S w → N ≤ w.heap.size)
    (h5 : ops[n]? = some o5) (h6 : ops[n + 1]? = some o6) (h7 : ops[n + 2]? = some o7) (hT : tail5B md ops n listed = true)
    (hd6 : ∀ (a : Act) u, a.put o6.dst u = a) (g5 : ∀ ys, Region.wanted o5 ys = true) (g6 : ∀ ys, Region.wanted o6 ys = true)
    (a5 : ∀ (a : Act) w (K : Value → World → Prop), K (.pointer (some ⟨w.heap.size, 0, none⟩)) (w.alloc obj) → VGo P K ((execOp a.eval o5).run P w))
    (hst : ∀ b w, S w → N ≤ b → w.heap[b]? = some obj →
      VGo P (fun _ w' => S w' ∧ w'.heap[b]? = some objA) ((execOp (a.put o5.dst (.pointer (some ⟨b, 0, none⟩))).eval o6).run P w))
    (hlast : ∀ b w, S w → N ≤ b → w.heap[b]? = some objA → wpList P ops Q [o7] (a.put o5.dst (.pointer (some ⟨b, 0, none⟩))) w)
    (w : World) (hS : S w) : heldAny P md ops Q S 3 listed a w := by
  simp only [tail5B, Bool.and_eq_true, decide_eq_true_eq] at hT
  obtain ⟨⟨⟨⟨r0, hn⟩, hs⟩, r1⟩, r2⟩ := hT
  have new : ∀ (w : World) (o : Obj), (w.alloc o).heap[w.heap.size]? = some o := fun w o => by show (w.heap.push o)[w.heap.size]? = some o; simp
  refine ⟨by rw [r0]; simp, hS, fun _ => True, fun _ _ _ _ => trivial, trivial, fun w1 hS1 _ i hi => ?_⟩
  rw [r0] at hi
  have hin : i = n := by simpa using hi
  subst hin
  refine wpOp_of_vgo h5 (g5 _) (fun u w' => u = .pointer (some ⟨w1.heap.size, 0, none⟩) ∧ w' = w1.alloc obj) (a5 _ _ _ ⟨rfl, rfl⟩) fun u w2 hh => ?_
  obtain ⟨rfl, rfl⟩ := hh
  refine ⟨by rw [r1]; simp, hstab _ _ hS1 ((Below.refl _ _).alloc (Nat.le_refl _) _), fun w => w.heap[w1.heap.size]? = some obj, fun _ _ h k => blk_below h k, new _ _, fun w3 hS3 hF3 j hj => ?_⟩
  rw [r1] at hj
  have hjn : j = i + 1 := by simpa using hj
  subst hjn
  refine wpOp_of_vgo h6 (g6 _) _ (hst _ w3 hS3 (hN _ hS1) hF3) fun u w4 hh => ?_
  obtain ⟨hS4, k1⟩ := hh
  rw [hd6]
  refine ⟨by rw [r2]; simp, hS4, fun w => w.heap[w1.heap.size]? = some objA, fun _ _ h k => blk_below h k, k1, fun w5 hS5 hF5 j hj => ?_⟩
  rw [r2] at hj
  have hjn : j = i + 2 := by simpa using hj
  subst hjn
  have hw : wpOp P ops Q (i + 2) (wpList P ops Q []) (a.put o5.dst (.pointer (some ⟨w1.heap.size, 0, none⟩))) w5 := by
    unfold wpOp; simp only [h7]; exact hlast _ w5 hS5 (hN _ hS1) hF5
  refine wpOp_mono (fun a' w' h' => ⟨fun k hk => ?_, h'⟩) hw
  by_cases e2 : k = i + 2
  · subst e2; exact seen_set _
  by_cases e1 : k = i + 1
  · subst e1; exact seen_keep (seen_set _)
  by_cases e0 : k = i
  · subst e0; exact seen_keep (seen_keep (seen_set _))
  · exact seen_keep (seen_keep (seen_keep (seenB_spec hs (by omega))))
def held5B (ops : Array Oper) (n : Nat) : Bool :=
  Region.noSelect ops && lastWaits .any ops && decide (n < ops.size) && headB .any ops (tail5B .any ops) n 0 (Array.replicate ops.size false)
theorem wp_region_held5 {id : Nat} {a : Act} {w : World} {l : List Oper} {o5 o6 o7 : Oper} (n : Nat) (hm : P.follows .mixedOrders = true) (hB : held5B l.toArray n = true)
    (h5 : l[n]? = some o5) (h6 : l[n + 1]? = some o6) (h7 : l[n + 2]? = some o7)
    (hQ : ∀ c a w (d : Option Tmp) (v : Value), Q (.panic c) (a.put d v) w → Q (.panic c) a w) (obj objA : Obj)
    (hd6 : ∀ (a : Act) u, a.put o6.dst u = a) (g5 : ∀ ys, Region.wanted o5 ys = true) (g6 : ∀ ys, Region.wanted o6 ys = true)
    (a5 : ∀ (a : Act) w (K : Value → World → Prop), K (.pointer (some ⟨w.heap.size, 0, none⟩)) (w.alloc obj) → VGo P K ((execOp a.eval o5).run P w))
    (h : ∀ Fin : Act → Prop, (∀ a', ((∀ b w1, Below w.drew.heap.size w.drew w1 → w.heap.size ≤ b → w1.heap[b]? = some obj →
        VGo P (fun _ w' => Below w.drew.heap.size w.drew w' ∧ w'.heap[b]? = some objA) ((execOp (a'.put o5.dst (.pointer (some ⟨b, 0, none⟩))).eval o6).run P w1)) ∧
      ∀ b w1, Below w.drew.heap.size w.drew w1 → w.heap.size ≤ b → w1.heap[b]? = some objA → wpList P l.toArray Q [o7] (a'.put o5.dst (.pointer (some ⟨b, 0, none⟩))) w1) → Fin a') →
      wpHeld P l.toArray (Below w.drew.heap.size w.drew) Fin (l.take n) a) : (Code.region id l.toArray true).wp P Q a w := by
  replace h := h _ (fun _ hf => hf)
  simp only [held5B, Bool.and_eq_true, decide_eq_true_eq] at hB
  obtain ⟨⟨⟨hsel, hl⟩, hn⟩, hh⟩ := hB
  have hn' : n < l.length := by simpa using hn
  have htl : (l.take n).length = n := by simp; omega
  have hT1 : n + 3 = l.toArray.size := by
    have : ∀ (f k : Nat) (listed : Array Bool), headB .any l.toArray (tail5B .any l.toArray) f k listed = true → k + f + 3 = l.toArray.size := by
      intro f
      induction f with
      | zero => intro k listed hb; simp only [headB, tail5B, Bool.and_eq_true, decide_eq_true_eq] at hb; omega
      | succ f ih => intro k listed hb; simp only [headB, Bool.and_eq_true] at hb; have := ih (k + 1) _ hb.2; omega
    have := this n 0 _ hh
    omega
  refine wp_region_any hm (wpAny_of_heldAny (md := .any) (S := Below w.drew.heap.size w.drew) _ _ _ _ ?_)
  have := heldAny_lex (md := .any) (P := P) (ops := l.toArray) (Q := Q) (S := Below w.drew.heap.size w.drew) (g := 3) (T := tail5B .any l.toArray) (below_stab w.drew) hsel hl hQ hn
    (fun listed a' hT hF w' hS => held_tail5 (N := w.heap.size) (below_stab w.drew) (fun w2 h2 => h2.size) (by simpa using h5) (by simpa using h6) (by simpa using h7) hT hd6 g5 g6 a5 hF.1 hF.2 w' hS) (l.take n) 0 (Array.replicate l.toArray.size false) a
    (fun j hj => by have hj' : j < n := by rw [htl] at hj; exact hj
                    simp [hj']) (by simpa using htl) (new_last _ (by omega)) (by rw [htl]; exact hh) h w.drew (Below.refl _ _)
  rw [htl, hT1] at this
  exact this
end
end Go.Proofs.Ytbgcbolalbjepaa
