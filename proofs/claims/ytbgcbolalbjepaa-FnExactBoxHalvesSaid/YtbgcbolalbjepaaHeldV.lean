
import Derived.Test.YtbgcbolalbjepaaHeld
namespace Go.Proofs.Ytbgcbolalbjepaa
open Go Go.RowKit

/- A region of open order whose last two operations make memory ('[]T{..}': the value is told by the new block's number) and use it. -/
section
variable {P : Program} {ops : Array Oper} {Q : Exit → Act → World → Prop} {md : Region.Mode} {S : World → Prop}
theorem held_tailV {n : Nat} {oa o : Oper} {obj : Obj} {vf : Nat → Value} {listed : Array Bool} {a : Act} {N : Nat} (hstab : ∀ w w', S w → Below w.heap.size w w' → S w') (hN : ∀ w, S w → N ≤ w.heap.size)
    (hoa : ops[n]? = some oa) (ho : ops[n + 1]? = some o) (hT : tail2B md ops n listed = true) (hg : Region.wanted oa (yielded ops a.tmps) = true)
    (hal : ∀ w, S w → ∀ K : Value → World → Prop, K (vf w.heap.size) (w.alloc obj) → VGo P K ((execOp a.eval oa).run P w))
    (h : ∀ b w, S w → N ≤ b → w.heap[b]? = some obj → wpList P ops Q [o] (a.put oa.dst (vf b)) w) (w : World) (hS : S w) : heldAny P md ops Q S 2 listed a w := by
  simp only [tail2B, Bool.and_eq_true, decide_eq_true_eq] at hT
  obtain ⟨⟨⟨hr, hn⟩, hs⟩, hr2⟩ := hT
  refine ⟨by rw [hr]; simp, hS, fun _ => True, fun _ _ _ _ => trivial, trivial, fun w1 hS1 _ i hi => ?_⟩
  rw [hr] at hi
  have hin : i = n := by simpa using hi
  subst hin
  unfold wpOp
  simp only [hoa, hg, if_true]
  refine .inl ?_
  have h1 := hal w1 hS1 (fun u w' => u = vf w1.heap.size ∧ w' = w1.alloc obj) ⟨rfl, rfl⟩
  have fin : ∀ w', w' = w1.alloc obj → heldAny P md ops Q S 1 (listed.setIfInBounds i true) (a.put oa.dst (vf w1.heap.size)) w' := by
    rintro w' rfl
    refine ⟨by rw [hr2]; simp, hstab _ _ hS1 ((Below.refl _ _).alloc (Nat.le_refl _) _), fun w2 => w2.heap[w1.heap.size]? = some obj, fun w2 w3 hF hb => ?_, ?_, fun w2 hS2 hF2 j hj => ?_⟩
    · have hlt : w1.heap.size < w2.heap.size := (Array.getElem?_eq_some_iff.1 hF).1
      show w3.heap[w1.heap.size]? = some obj
      rw [hb.block _ hlt]; exact hF
    · show (w1.heap.push obj)[w1.heap.size]? = some obj
      simp
    · rw [hr2] at hj
      have hjn : j = i + 1 := by simpa using hj
      subst hjn
      have hw : wpOp P ops Q (i + 1) (wpList P ops Q []) (a.put oa.dst (vf w1.heap.size)) w2 := by
        unfold wpOp; simp only [ho]; exact h _ w2 hS2 (hN _ hS1) hF2
      refine wpOp_mono (fun a' w' h' => ⟨fun k hk => ?_, h'⟩) hw
      by_cases e : k = i + 1
      · subst e; exact seen_set _
      · by_cases e2 : k = i
        · subst e2; exact seen_keep (seen_set _)
        · exact seen_keep (seen_keep (seenB_spec hs (by omega)))
  unfold Oper.wp
  generalize (execOp a.eval oa).run P w1 = r at *
  cases r with
  | ok n w' =>
    cases n <;> simp only [VGo] at h1 <;> simp only [Oper.upon]
    case value u => obtain ⟨rfl, hw⟩ := h1; exact fin _ hw
    case skip =>
      obtain ⟨hu, hw⟩ := h1
      rw [hu]
      exact fin _ hw
    case enter f args => exact Calls.mono h1 fun e w'' ⟨u, he, hu, hw⟩ => by subst he; subst hu; exact fin _ hw
  | halt x w' => simp only [VGo] at h1

theorem wp_region_heldV {id : Nat} {a : Act} {w : World} {l : List Oper} {oa o : Oper} (n : Nat) (hm : P.follows .mixedOrders = true) (hB : held2B l.toArray n = true) (hda : l[n]? = some oa) (hd : l[n + 1]? = some o)
    (hQ : ∀ c a w (d : Option Tmp) (v : Value), Q (.panic c) (a.put d v) w → Q (.panic c) a w) (obj : Obj) (vf : Nat → Value)
    (h : ∀ Fin : Act → Prop, (∀ a', (Region.wanted oa (yielded l.toArray a'.tmps) = true ∧
      (∀ w1, Below w.drew.heap.size w.drew w1 → ∀ K : Value → World → Prop, K (vf w1.heap.size) (w1.alloc obj) → VGo P K ((execOp a'.eval oa).run P w1)) ∧
      ∀ b w1, Below w.drew.heap.size w.drew w1 → w.heap.size ≤ b → w1.heap[b]? = some obj → wpList P l.toArray Q [o] (a'.put oa.dst (vf b)) w1) → Fin a') →
      wpHeld P l.toArray (Below w.drew.heap.size w.drew) Fin (l.take n) a) : (Code.region id l.toArray true).wp P Q a w := by
  replace h := h _ (fun _ hf => hf)
  simp only [held2B, Bool.and_eq_true, decide_eq_true_eq] at hB
  obtain ⟨⟨⟨hsel, hl⟩, hn⟩, hh⟩ := hB
  have hn' : n < l.length := by simpa using hn
  have htl : (l.take n).length = n := by simp; omega
  have hT1 : n + 2 = l.toArray.size := by
    have : ∀ (f k : Nat) (listed : Array Bool), headB .any l.toArray (tail2B .any l.toArray) f k listed = true → k + f + 2 = l.toArray.size := by
      intro f
      induction f with
      | zero => intro k listed hb; simp only [headB, tail2B, Bool.and_eq_true, decide_eq_true_eq] at hb; omega
      | succ f ih => intro k listed hb; simp only [headB, Bool.and_eq_true] at hb; have := ih (k + 1) _ hb.2; omega
    have := this n 0 _ hh
    omega
  refine wp_region_any hm (wpAny_of_heldAny (md := .any) (S := Below w.drew.heap.size w.drew) _ _ _ _ ?_)
  have := heldAny_lex (md := .any) (P := P) (ops := l.toArray) (Q := Q) (S := Below w.drew.heap.size w.drew) (g := 2) (T := tail2B .any l.toArray) (below_stab w.drew) hsel hl hQ hn
    (fun listed a' hT hF w' hS => held_tailV (N := w.heap.size) (below_stab w.drew) (fun w2 h2 => h2.size) (by simpa using hda) (by simpa using hd) hT hF.1 hF.2.1 hF.2.2 w' hS) (l.take n) 0 (Array.replicate l.toArray.size false) a
    (fun j hj => by have hj' : j < n := by rw [htl] at hj; exact hj
                    simp [hj']) (by simpa using htl) (new_last _ (by omega)) (by rw [htl]; exact hh) h w.drew (Below.refl _ _)
  rw [htl, hT1] at this
  exact this

end
end Go.Proofs.Ytbgcbolalbjepaa
