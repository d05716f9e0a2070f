
import Derived.Test.YtegibpepdndocaaHeld
namespace Go.Proofs.Ytegibpepdndocaa
open Go Go.RowKit

/- A region of open order whose tail is the making of two variables, in either order, and a store into each: 'x, y := f(), g()'. -/
section
variable {P : Program} {ops : Array Oper} {Q : Exit → Act → World → Prop} {md : Region.Mode} {S : World → Prop}
theorem wpOp_of_vgo {i : Nat} {o : Oper} {a : Act} {w : World} {K : Act → World → Prop} (ho : ops[i]? = some o) (hg : Region.wanted o (yielded ops a.tmps) = true) (R : Value → World → Prop)
    (h1 : VGo P R ((execOp a.eval o).run P w)) (hK : ∀ u w', R u w' → K (a.put o.dst u) w') : wpOp P ops Q i K a w := by
  unfold Go.wpOp
  simp only [ho, hg, if_true]
  refine .inl ?_
  unfold Oper.wp
  generalize (execOp a.eval o).run P w = r at *
  cases r with
  | ok n w' =>
    cases n <;> simp only [VGo] at h1 <;> simp only [Oper.upon]
    case value u => exact hK _ _ h1
    case skip => exact hK _ _ h1
    case enter f args => exact Calls.mono h1 fun e w'' ⟨u, he, hu⟩ => by subst he; exact hK _ _ hu
  | halt x w' => simp only [VGo] at h1
def tail4B (md : Region.Mode) (ops : Array Oper) (n : Nat) (listed : Array Bool) : Bool :=
  decide (Region.ready md ops listed = [n, n + 1]) && decide (n + 4 = ops.size) && seenB n listed &&
  decide (Region.ready md ops (listed.setIfInBounds n true) = [n + 1]) && decide (Region.ready md ops (listed.setIfInBounds (n + 1) true) = [n]) &&
  decide (Region.ready md ops ((listed.setIfInBounds n true).setIfInBounds (n + 1) true) = [n + 2]) &&
  decide (Region.ready md ops (((listed.setIfInBounds n true).setIfInBounds (n + 1) true).setIfInBounds (n + 2) true) = [n + 3])
theorem blk_below {w w' : World} {b : Nat} {o : Obj} (h : w.heap[b]? = some o) (hb : Below w.heap.size w w') : w'.heap[b]? = some o := by
  rw [hb.block b (Array.getElem?_eq_some_iff.1 h).1]; exact h
theorem held_tail4 {n : Nat} {o5 o6 o7 o8 : Oper} {obj objA : Obj} {listed : Array Bool} {a : Act} {N : Nat} (hstab : ∀ w w', S w → Below w.heap.size w w' → S w') (hN : ∀ w, S w → N ≤ w.heap.size)
    (h5 : ops[n]? = some o5) (h6 : ops[n + 1]? = some o6) (h7 : ops[n + 2]? = some o7) (h8 : ops[n + 3]? = some o8) (hT : tail4B md ops n listed = true)
    (hcm : ∀ (a : Act) u v, (a.put o5.dst u).put o6.dst v = (a.put o6.dst v).put o5.dst u) (hd7 : ∀ (a : Act) u, a.put o7.dst u = a)
    (g5 : ∀ ys, Region.wanted o5 ys = true) (g6 : ∀ ys, Region.wanted o6 ys = true) (g7 : ∀ ys, Region.wanted o7 ys = true)
    (a5 : ∀ (a : Act) w (K : Value → World → Prop), K (.pointer (some ⟨w.heap.size, 0, none⟩)) (w.alloc obj) → VGo P K ((execOp a.eval o5).run P w))
    (a6 : ∀ (a : Act) w (K : Value → World → Prop), K (.pointer (some ⟨w.heap.size, 0, none⟩)) (w.alloc obj) → VGo P K ((execOp a.eval o6).run P w))
    (hst : ∀ b b' w, S w → N ≤ b → N ≤ b' → b ≠ b' → w.heap[b]? = some obj → w.heap[b']? = some obj →
      VGo P (fun _ w' => S w' ∧ w'.heap[b]? = some objA ∧ w'.heap[b']? = some obj) ((execOp ((a.put o5.dst (.pointer (some ⟨b, 0, none⟩))).put o6.dst (.pointer (some ⟨b', 0, none⟩))).eval o7).run P w))
    (hlast : ∀ b b' w, S w → N ≤ b → N ≤ b' → b ≠ b' → w.heap[b]? = some objA → w.heap[b']? = some obj →
      wpList P ops Q [o8] ((a.put o5.dst (.pointer (some ⟨b, 0, none⟩))).put o6.dst (.pointer (some ⟨b', 0, none⟩))) w)
    (w : World) (hS : S w) : heldAny P md ops Q S 4 listed a w := by
  simp only [tail4B, Bool.and_eq_true, decide_eq_true_eq] at hT
  obtain ⟨⟨⟨⟨⟨⟨r0, hn⟩, hs⟩, r1⟩, r2⟩, r3⟩, r4⟩ := hT
  have new : ∀ (w : World) (o : Obj), (w.alloc o).heap[w.heap.size]? = some o := fun w o => by show (w.heap.push o)[w.heap.size]? = some o; simp
  have old : ∀ (w : World) (b : Nat) (o o' : Obj), w.heap[b]? = some o → (w.alloc o').heap[b]? = some o := fun w b o o' h => blk_below h ((Below.refl _ _).alloc (Nat.le_refl _) _)
  have lt : ∀ (w : World) (b : Nat) (o : Obj), w.heap[b]? = some o → b < w.heap.size := fun w b o h => (Array.getElem?_eq_some_iff.1 h).1
  /- both are made -/
  have fin : ∀ b b' w, S w → N ≤ b → N ≤ b' → b ≠ b' → w.heap[b]? = some obj → w.heap[b']? = some obj →
      heldAny P md ops Q S 2 ((listed.setIfInBounds n true).setIfInBounds (n + 1) true) ((a.put o5.dst (.pointer (some ⟨b, 0, none⟩))).put o6.dst (.pointer (some ⟨b', 0, none⟩))) w := by
    intro b b' w hS n1 n2 hne hb hb'
    refine ⟨by rw [r3]; simp, hS, fun w => w.heap[b]? = some obj ∧ w.heap[b']? = some obj, fun w1 w2 h k => ⟨blk_below h.1 k, blk_below h.2 k⟩, ⟨hb, hb'⟩, fun w1 hS1 hF1 i hi => ?_⟩
    rw [r3] at hi
    have hin : i = n + 2 := by simpa using hi
    subst hin
    refine wpOp_of_vgo h7 (g7 _) _ (hst b b' w1 hS1 n1 n2 hne hF1.1 hF1.2) fun u w2 hh => ?_
    obtain ⟨hS2, k1, k2⟩ := hh
    rw [hd7]
    refine ⟨by rw [r4]; simp, hS2, fun w => w.heap[b]? = some objA ∧ w.heap[b']? = some obj, fun w1 w2 h k => ⟨blk_below h.1 k, blk_below h.2 k⟩, ⟨k1, k2⟩, fun w3 hS3 hF3 j hj => ?_⟩
    rw [r4] at hj
    have hjn : j = n + 3 := by simpa using hj
    subst hjn
    have hw : wpOp P ops Q (n + 3) (wpList P ops Q []) ((a.put o5.dst (.pointer (some ⟨b, 0, none⟩))).put o6.dst (.pointer (some ⟨b', 0, none⟩))) w3 := by
      unfold wpOp; simp only [h8]; exact hlast b b' w3 hS3 n1 n2 hne hF3.1 hF3.2
    refine wpOp_mono (fun a' w' h' => ⟨fun k hk => ?_, h'⟩) hw
    by_cases e3 : k = n + 3
    · subst e3; exact seen_set _
    by_cases e2 : k = n + 2
    · subst e2; exact seen_keep (seen_set _)
    by_cases e1 : k = n + 1
    · subst e1; exact seen_keep (seen_keep (seen_set _))
    by_cases e0 : k = n
    · subst e0; exact seen_keep (seen_keep (seen_keep (seen_set _)))
    · exact seen_keep (seen_keep (seen_keep (seen_keep (seenB_spec hs (by omega)))))
  refine ⟨by rw [r0]; simp, hS, fun _ => True, fun _ _ _ _ => trivial, trivial, fun w1 hS1 _ i hi => ?_⟩
  rw [r0] at hi
  have hin : i = n ∨ i = n + 1 := by simpa using hi
  rcases hin with rfl | rfl
  · refine wpOp_of_vgo h5 (g5 _) (fun u w' => u = .pointer (some ⟨w1.heap.size, 0, none⟩) ∧ w' = w1.alloc obj) (a5 _ _ _ ⟨rfl, rfl⟩) fun u w2 hh => ?_
    obtain ⟨rfl, rfl⟩ := hh
    refine ⟨by rw [r1]; simp, hstab _ _ hS1 ((Below.refl _ _).alloc (Nat.le_refl _) _), fun w => w.heap[w1.heap.size]? = some obj, fun _ _ h k => blk_below h k, new _ _, fun w3 hS3 hF3 j hj => ?_⟩
    rw [r1] at hj
    have hjn : j = i + 1 := by simpa using hj
    subst hjn
    refine wpOp_of_vgo h6 (g6 _) (fun u w' => u = .pointer (some ⟨w3.heap.size, 0, none⟩) ∧ w' = w3.alloc obj) (a6 _ _ _ ⟨rfl, rfl⟩) fun u w4 hh => ?_
    obtain ⟨rfl, rfl⟩ := hh
    have := lt _ _ _ hF3
    exact fin _ _ _ (hstab _ _ hS3 ((Below.refl _ _).alloc (Nat.le_refl _) _)) (hN _ hS1) (hN _ hS3) (by omega) (old _ _ _ _ hF3) (new _ _)
  · refine wpOp_of_vgo h6 (g6 _) (fun u w' => u = .pointer (some ⟨w1.heap.size, 0, none⟩) ∧ w' = w1.alloc obj) (a6 _ _ _ ⟨rfl, rfl⟩) fun u w2 hh => ?_
    obtain ⟨rfl, rfl⟩ := hh
    refine ⟨by rw [r2]; simp, hstab _ _ hS1 ((Below.refl _ _).alloc (Nat.le_refl _) _), fun w => w.heap[w1.heap.size]? = some obj, fun _ _ h k => blk_below h k, new _ _, fun w3 hS3 hF3 j hj => ?_⟩
    rw [r2] at hj
    have hjn : j = n := by simpa using hj
    subst hjn
    refine wpOp_of_vgo h5 (g5 _) (fun u w' => u = .pointer (some ⟨w3.heap.size, 0, none⟩) ∧ w' = w3.alloc obj) (a5 _ _ _ ⟨rfl, rfl⟩) fun u w4 hh => ?_
    obtain ⟨rfl, rfl⟩ := hh
    have := lt _ _ _ hF3
    rw [Array.setIfInBounds_comm _ _ (show j + 1 ≠ j by omega), ← hcm]
    exact fin _ _ _ (hstab _ _ hS3 ((Below.refl _ _).alloc (Nat.le_refl _) _)) (hN _ hS3) (hN _ hS1) (by omega) (new _ _) (old _ _ _ _ hF3)
def held4B (ops : Array Oper) (n : Nat) : Bool :=
  Region.noSelect ops && lastWaits .any ops && decide (n < ops.size) && headB .any ops (tail4B .any ops) n 0 (Array.replicate ops.size false)
theorem wp_region_held4 {id : Nat} {a : Act} {w : World} {l : List Oper} {o5 o6 o7 o8 : Oper} (n : Nat) (hm : P.follows .mixedOrders = true) (hB : held4B l.toArray n = true)
    (h5 : l[n]? = some o5) (h6 : l[n + 1]? = some o6) (h7 : l[n + 2]? = some o7) (h8 : l[n + 3]? = some o8)
    (hQ : ∀ c a w (d : Option Tmp) (v : Value), Q (.panic c) (a.put d v) w → Q (.panic c) a w) (obj objA : Obj)
    (hcm : ∀ (a : Act) u v, (a.put o5.dst u).put o6.dst v = (a.put o6.dst v).put o5.dst u) (hd7 : ∀ (a : Act) u, a.put o7.dst u = a)
    (g5 : ∀ ys, Region.wanted o5 ys = true) (g6 : ∀ ys, Region.wanted o6 ys = true) (g7 : ∀ ys, Region.wanted o7 ys = true)
    (a5 : ∀ (a : Act) w (K : Value → World → Prop), K (.pointer (some ⟨w.heap.size, 0, none⟩)) (w.alloc obj) → VGo P K ((execOp a.eval o5).run P w))
    (a6 : ∀ (a : Act) w (K : Value → World → Prop), K (.pointer (some ⟨w.heap.size, 0, none⟩)) (w.alloc obj) → VGo P K ((execOp a.eval o6).run P w))
    (h : ∀ Fin : Act → Prop, (∀ a', ((∀ b b' w1, Below w.drew.heap.size w.drew w1 → w.heap.size ≤ b → w.heap.size ≤ b' → b ≠ b' → w1.heap[b]? = some obj → w1.heap[b']? = some obj →
        VGo P (fun _ w' => Below w.drew.heap.size w.drew w' ∧ w'.heap[b]? = some objA ∧ w'.heap[b']? = some obj) ((execOp ((a'.put o5.dst (.pointer (some ⟨b, 0, none⟩))).put o6.dst (.pointer (some ⟨b', 0, none⟩))).eval o7).run P w1)) ∧
      ∀ b b' w1, Below w.drew.heap.size w.drew w1 → w.heap.size ≤ b → w.heap.size ≤ b' → b ≠ b' → w1.heap[b]? = some objA → w1.heap[b']? = some obj →
        wpList P l.toArray Q [o8] ((a'.put o5.dst (.pointer (some ⟨b, 0, none⟩))).put o6.dst (.pointer (some ⟨b', 0, none⟩))) w1) → Fin a') →
      wpHeld P l.toArray (Below w.drew.heap.size w.drew) Fin (l.take n) a) : (Code.region id l.toArray true).wp P Q a w := by
  replace h := h _ (fun _ hf => hf)
  simp only [held4B, Bool.and_eq_true, decide_eq_true_eq] at hB
  obtain ⟨⟨⟨hsel, hl⟩, hn⟩, hh⟩ := hB
  have hn' : n < l.length := by simpa using hn
  have htl : (l.take n).length = n := by simp; omega
  have hT1 : n + 4 = l.toArray.size := by
    have : ∀ (f k : Nat) (listed : Array Bool), headB .any l.toArray (tail4B .any l.toArray) f k listed = true → k + f + 4 = l.toArray.size := by
      intro f
      induction f with
      | zero => intro k listed hb; simp only [headB, tail4B, Bool.and_eq_true, decide_eq_true_eq] at hb; omega
      | succ f ih => intro k listed hb; simp only [headB, Bool.and_eq_true] at hb; have := ih (k + 1) _ hb.2; omega
    have := this n 0 _ hh
    omega
  refine wp_region_any hm (wpAny_of_heldAny (md := .any) (S := Below w.drew.heap.size w.drew) _ _ _ _ ?_)
  have := heldAny_lex (md := .any) (P := P) (ops := l.toArray) (Q := Q) (S := Below w.drew.heap.size w.drew) (g := 4) (T := tail4B .any l.toArray) (below_stab w.drew) hsel hl hQ hn
    (fun listed a' hT hF w' hS => held_tail4 (N := w.heap.size) (below_stab w.drew) (fun w2 h2 => h2.size) (by simpa using h5) (by simpa using h6) (by simpa using h7) (by simpa using h8) hT hcm hd7 g5 g6 g7 a5 a6 hF.1 hF.2 w' hS) (l.take n) 0 (Array.replicate l.toArray.size false) a
    (fun j hj => by have hj' : j < n := by rw [htl] at hj; exact hj
                    simp [hj']) (by simpa using htl) (new_last _ (by omega)) (by rw [htl]; exact hh) h w.drew (Below.refl _ _)
  rw [htl, hT1] at this
  exact this
end
end Go.Proofs.Ytegibpepdndocaa
