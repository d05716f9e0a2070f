
import Derived.Test.YtegibpepdndocaaHeld4
namespace Go.Proofs.Ytegibpepdndocaa
open Go Go.RowKit

/- A region of open order whose tail is the making of three variables, in any order, and a store into each: 'x, y, z := f(), g(), h()'. -/
section
variable {P : Program} {ops : Array Oper} {Q : Exit → Act → World → Prop} {md : Region.Mode} {S : World → Prop}
def setL (p : Bool) (i : Nat) (l : Array Bool) : Array Bool := if p then l.setIfInBounds i true else l
def setF (p : Bool) (d : Option Tmp) (b : Nat) (a : Act) : Act := if p then a.put d (.pointer (some ⟨b, 0, none⟩)) else a
def lst3 (n : Nat) (l : Array Bool) (p q r : Bool) : Array Bool := setL r (n + 2) (setL q (n + 1) (setL p n l))
def left3 (n : Nat) (p q r : Bool) : List Nat := (if p then [] else [n]) ++ ((if q then [] else [n + 1]) ++ (if r then [] else [n + 2]))
def all3 : List (Bool × Bool × Bool) := [(false, false, false), (false, false, true), (false, true, false), (false, true, true), (true, false, false), (true, false, true), (true, true, false)]
def tail6B (md : Region.Mode) (ops : Array Oper) (n : Nat) (listed : Array Bool) : Bool :=
  decide (n + 6 = ops.size) && seenB n listed && all3.all (fun t => decide (Region.ready md ops (lst3 n listed t.1 t.2.1 t.2.2) = left3 n t.1 t.2.1 t.2.2)) &&
  decide (Region.ready md ops (lst3 n listed true true true) = [n + 3]) && decide (Region.ready md ops ((lst3 n listed true true true).setIfInBounds (n + 3) true) = [n + 4]) &&
  decide (Region.ready md ops (((lst3 n listed true true true).setIfInBounds (n + 3) true).setIfInBounds (n + 4) true) = [n + 5])
def Made (obj : Obj) (N : Nat) (p : Bool) (b : Nat) (w : World) : Prop := p = true → N ≤ b ∧ w.heap[b]? = some obj
theorem Made.below {obj : Obj} {N : Nat} {p : Bool} {b : Nat} {w w' : World} (h : Made obj N p b w) (hb : Below w.heap.size w w') : Made obj N p b w' := fun hp => ⟨(h hp).1, blk_below (h hp).2 hb⟩
theorem setL_comm (p : Bool) (i j : Nat) (h : i ≠ j) (l : Array Bool) : setL p i (l.setIfInBounds j true) = (setL p i l).setIfInBounds j true := by
  unfold setL; split
  · exact Array.setIfInBounds_comm _ _ (Ne.symm h)
  · rfl
theorem held_tail6 {n : Nat} {o1 o2 o3 s1 s2 s3 : Oper} {obj1 obj2 obj3 objA objB : Obj} {listed : Array Bool} {a : Act} {N : Nat} (hstab : ∀ w w', S w → Below w.heap.size w w' → S w') (hN : ∀ w, S w → N ≤ w.heap.size)
    (h1 : ops[n]? = some o1) (h2 : ops[n + 1]? = some o2) (h3 : ops[n + 2]? = some o3) (h4 : ops[n + 3]? = some s1) (h5 : ops[n + 4]? = some s2) (h6 : ops[n + 5]? = some s3) (hT : tail6B md ops n listed = true)
    (c12 : ∀ (a : Act) u v, (a.put o1.dst u).put o2.dst v = (a.put o2.dst v).put o1.dst u) (c13 : ∀ (a : Act) u v, (a.put o1.dst u).put o3.dst v = (a.put o3.dst v).put o1.dst u) (c23 : ∀ (a : Act) u v, (a.put o2.dst u).put o3.dst v = (a.put o3.dst v).put o2.dst u)
    (d1 : ∀ (a : Act) u, a.put s1.dst u = a) (d2 : ∀ (a : Act) u, a.put s2.dst u = a)
    (g1 : ∀ ys, Region.wanted o1 ys = true) (g2 : ∀ ys, Region.wanted o2 ys = true) (g3 : ∀ ys, Region.wanted o3 ys = true) (g4 : ∀ ys, Region.wanted s1 ys = true) (g5 : ∀ ys, Region.wanted s2 ys = true)
    (a1 : ∀ (a : Act) w (K : Value → World → Prop), K (.pointer (some ⟨w.heap.size, 0, none⟩)) (w.alloc obj1) → VGo P K ((execOp a.eval o1).run P w))
    (a2 : ∀ (a : Act) w (K : Value → World → Prop), K (.pointer (some ⟨w.heap.size, 0, none⟩)) (w.alloc obj2) → VGo P K ((execOp a.eval o2).run P w))
    (a3 : ∀ (a : Act) w (K : Value → World → Prop), K (.pointer (some ⟨w.heap.size, 0, none⟩)) (w.alloc obj3) → VGo P K ((execOp a.eval o3).run P w))
    (hs1 : ∀ x y z w, S w → N ≤ x → N ≤ y → N ≤ z → x ≠ y → x ≠ z → y ≠ z → w.heap[x]? = some obj1 → w.heap[y]? = some obj2 → w.heap[z]? = some obj3 →
      VGo P (fun _ w' => S w' ∧ w'.heap[x]? = some objA ∧ w'.heap[y]? = some obj2 ∧ w'.heap[z]? = some obj3) ((execOp (((a.put o1.dst (.pointer (some ⟨x, 0, none⟩))).put o2.dst (.pointer (some ⟨y, 0, none⟩))).put o3.dst (.pointer (some ⟨z, 0, none⟩))).eval s1).run P w))
    (hs2 : ∀ x y z w, S w → N ≤ x → N ≤ y → N ≤ z → x ≠ y → x ≠ z → y ≠ z → w.heap[x]? = some objA → w.heap[y]? = some obj2 → w.heap[z]? = some obj3 →
      VGo P (fun _ w' => S w' ∧ w'.heap[x]? = some objA ∧ w'.heap[y]? = some objB ∧ w'.heap[z]? = some obj3) ((execOp (((a.put o1.dst (.pointer (some ⟨x, 0, none⟩))).put o2.dst (.pointer (some ⟨y, 0, none⟩))).put o3.dst (.pointer (some ⟨z, 0, none⟩))).eval s2).run P w))
    (hlast : ∀ x y z w, S w → N ≤ x → N ≤ y → N ≤ z → x ≠ y → x ≠ z → y ≠ z → w.heap[x]? = some objA → w.heap[y]? = some objB → w.heap[z]? = some obj3 →
      wpList P ops Q [s3] (((a.put o1.dst (.pointer (some ⟨x, 0, none⟩))).put o2.dst (.pointer (some ⟨y, 0, none⟩))).put o3.dst (.pointer (some ⟨z, 0, none⟩))) w)
    (w : World) (hS : S w) : heldAny P md ops Q S 6 listed a w := by
  simp only [tail6B, Bool.and_eq_true, decide_eq_true_eq] at hT
  obtain ⟨⟨⟨⟨⟨hn, hs⟩, hall⟩, r3⟩, r4⟩, r5⟩ := hT
  have hready : ∀ p q r : Bool, ¬ (p = true ∧ q = true ∧ r = true) → Region.ready md ops (lst3 n listed p q r) = left3 n p q r := fun p q r h => by
    have := List.all_eq_true.1 hall (p, q, r) (by cases p <;> cases q <;> cases r <;> simp [all3] at h ⊢)
    simpa using this
  have new : ∀ (w : World) (o : Obj), (w.alloc o).heap[w.heap.size]? = some o := fun w o => by show (w.heap.push o)[w.heap.size]? = some o; simp
  have lt : ∀ (w : World) (b : Nat) (o : Obj), w.heap[b]? = some o → b < w.heap.size := fun w b o h => (Array.getElem?_eq_some_iff.1 h).1
  have step : ∀ (w : World) (o : Obj), Below w.heap.size w (w.alloc o) := fun w o => (Below.refl _ _).alloc (Nat.le_refl _) _
  /- all are made -/
  have fin : ∀ x y z w, S w → N ≤ x → N ≤ y → N ≤ z → x ≠ y → x ≠ z → y ≠ z → w.heap[x]? = some obj1 → w.heap[y]? = some obj2 → w.heap[z]? = some obj3 →
      heldAny P md ops Q S 3 (lst3 n listed true true true) (((a.put o1.dst (.pointer (some ⟨x, 0, none⟩))).put o2.dst (.pointer (some ⟨y, 0, none⟩))).put o3.dst (.pointer (some ⟨z, 0, none⟩))) w := by
    intro x y z w hS nx ny nz e1 e2 e3 hx hy hz
    refine ⟨by rw [r3]; simp, hS, fun w => w.heap[x]? = some obj1 ∧ w.heap[y]? = some obj2 ∧ w.heap[z]? = some obj3, fun w1 w2 h k => ⟨blk_below h.1 k, blk_below h.2.1 k, blk_below h.2.2 k⟩, ⟨hx, hy, hz⟩, fun w1 hS1 hF1 i hi => ?_⟩
    rw [r3] at hi
    have hin : i = n + 3 := by simpa using hi
    subst hin
    refine wpOp_of_vgo h4 (g4 _) _ (hs1 x y z w1 hS1 nx ny nz e1 e2 e3 hF1.1 hF1.2.1 hF1.2.2) fun u w2 hh => ?_
    obtain ⟨hS2, k1, k2, k3⟩ := hh
    rw [d1]
    refine ⟨by rw [r4]; simp, hS2, fun w => w.heap[x]? = some objA ∧ w.heap[y]? = some obj2 ∧ w.heap[z]? = some obj3, fun w1 w2 h k => ⟨blk_below h.1 k, blk_below h.2.1 k, blk_below h.2.2 k⟩, ⟨k1, k2, k3⟩, fun w3 hS3 hF3 j hj => ?_⟩
    rw [r4] at hj
    have hjn : j = n + 4 := by simpa using hj
    subst hjn
    refine wpOp_of_vgo h5 (g5 _) _ (hs2 x y z w3 hS3 nx ny nz e1 e2 e3 hF3.1 hF3.2.1 hF3.2.2) fun u w4 hh => ?_
    obtain ⟨hS4, k1, k2, k3⟩ := hh
    rw [d2]
    refine ⟨by rw [r5]; simp, hS4, fun w => w.heap[x]? = some objA ∧ w.heap[y]? = some objB ∧ w.heap[z]? = some obj3, fun w1 w2 h k => ⟨blk_below h.1 k, blk_below h.2.1 k, blk_below h.2.2 k⟩, ⟨k1, k2, k3⟩, fun w5 hS5 hF5 m hm => ?_⟩
    rw [r5] at hm
    have hmn : m = n + 5 := by simpa using hm
    subst hmn
    have hw : wpOp P ops Q (n + 5) (wpList P ops Q []) (((a.put o1.dst (.pointer (some ⟨x, 0, none⟩))).put o2.dst (.pointer (some ⟨y, 0, none⟩))).put o3.dst (.pointer (some ⟨z, 0, none⟩))) w5 := by
      unfold wpOp; simp only [h6]; exact hlast x y z w5 hS5 nx ny nz e1 e2 e3 hF5.1 hF5.2.1 hF5.2.2
    refine wpOp_mono (fun a' w' h' => ⟨fun k hk => ?_, h'⟩) hw
    simp only [lst3, setL, if_true]
    by_cases e5 : k = n + 5
    · subst e5; exact seen_set _
    by_cases e4 : k = n + 4
    · subst e4; exact seen_keep (seen_set _)
    by_cases e3 : k = n + 3
    · subst e3; exact seen_keep (seen_keep (seen_set _))
    by_cases e2 : k = n + 2
    · subst e2; exact seen_keep (seen_keep (seen_keep (seen_set _)))
    by_cases e1 : k = n + 1
    · subst e1; exact seen_keep (seen_keep (seen_keep (seen_keep (seen_set _))))
    by_cases e0 : k = n
    · subst e0; exact seen_keep (seen_keep (seen_keep (seen_keep (seen_keep (seen_set _)))))
    · exact seen_keep (seen_keep (seen_keep (seen_keep (seen_keep (seen_keep (seenB_spec hs (by omega)))))))
  /- so many are still to be made -/
  have go : ∀ (m : Nat) (p q r : Bool) (x y z : Nat) (w : World), (if p then 0 else 1) + (if q then 0 else 1) + (if r then 0 else 1) = m → S w →
      Made obj1 N p x w → Made obj2 N q y w → Made obj3 N r z w → (p = true → q = true → x ≠ y) → (p = true → r = true → x ≠ z) → (q = true → r = true → y ≠ z) →
      heldAny P md ops Q S (m + 3) (lst3 n listed p q r) (setF r o3.dst z (setF q o2.dst y (setF p o1.dst x a))) w := by
    intro m
    induction m with
    | zero =>
      intro p q r x y z w hm hS m1 m2 m3 e1 e2 e3
      have hp : p = true := by cases p <;> simp at hm ⊢
      have hq : q = true := by cases q <;> simp at hm ⊢
      have hr : r = true := by cases r <;> simp at hm ⊢
      subst hp hq hr
      exact fin x y z w hS (m1 rfl).1 (m2 rfl).1 (m3 rfl).1 (e1 rfl rfl) (e2 rfl rfl) (e3 rfl rfl) (m1 rfl).2 (m2 rfl).2 (m3 rfl).2
    | succ m ih =>
      intro p q r x y z w hm hS m1 m2 m3 e1 e2 e3
      have hnot : ¬ (p = true ∧ q = true ∧ r = true) := by rintro ⟨rfl, rfl, rfl⟩; simp at hm
      have hr0 := hready p q r hnot
      rw [show m + 1 + 3 = (m + 3) + 1 by omega]
      refine ⟨by rw [hr0]; cases p <;> cases q <;> cases r <;> simp [left3] at hnot ⊢, hS, fun w => Made obj1 N p x w ∧ Made obj2 N q y w ∧ Made obj3 N r z w, fun w1 w2 h k => ⟨h.1.below k, h.2.1.below k, h.2.2.below k⟩, ⟨m1, m2, m3⟩, fun w1 hS1 hF1 i hi => ?_⟩
      obtain ⟨k1, k2, k3⟩ := hF1
      rw [hr0] at hi
      have hcase : (i = n ∧ p = false) ∨ (i = n + 1 ∧ q = false) ∨ (i = n + 2 ∧ r = false) := by
        cases p <;> cases q <;> cases r <;> simp [left3] at hi ⊢ <;> omega
      rcases hcase with ⟨rfl, rfl⟩ | ⟨rfl, rfl⟩ | ⟨rfl, rfl⟩
      · refine wpOp_of_vgo h1 (g1 _) (fun u w' => u = .pointer (some ⟨w1.heap.size, 0, none⟩) ∧ w' = w1.alloc obj1) (a1 _ _ _ ⟨rfl, rfl⟩) fun u w2 hh => ?_
        obtain ⟨rfl, rfl⟩ := hh
        have el : (lst3 i listed false q r).setIfInBounds i true = lst3 i listed true q r := by
          unfold lst3
          rw [← setL_comm _ _ _ (by omega), ← setL_comm _ _ _ (by omega)]
          rfl
        have ef : (setF r o3.dst z (setF q o2.dst y (setF false o1.dst x a))).put o1.dst (.pointer (some ⟨w1.heap.size, 0, none⟩)) = setF r o3.dst z (setF q o2.dst y (setF true o1.dst w1.heap.size a)) := by
          cases q <;> cases r <;> simp [setF] <;> (try rw [c12]) <;> (try rw [c13]) <;> (try rw [c12])
        rw [el, ef]
        exact ih true q r w1.heap.size y z _ (by simp at hm ⊢; omega) (hstab _ _ hS1 (step _ _)) (fun _ => ⟨hN _ hS1, new _ _⟩) (k2.below (step _ _)) (k3.below (step _ _)) (fun _ h => by have := lt _ _ _ (k2 h).2; omega) (fun _ h => by have := lt _ _ _ (k3 h).2; omega) e3
      · refine wpOp_of_vgo h2 (g2 _) (fun u w' => u = .pointer (some ⟨w1.heap.size, 0, none⟩) ∧ w' = w1.alloc obj2) (a2 _ _ _ ⟨rfl, rfl⟩) fun u w2 hh => ?_
        obtain ⟨rfl, rfl⟩ := hh
        have el : (lst3 n listed p false r).setIfInBounds (n + 1) true = lst3 n listed p true r := by
          unfold lst3
          rw [← setL_comm _ _ _ (by omega)]
          rfl
        have ef : (setF r o3.dst z (setF false o2.dst y (setF p o1.dst x a))).put o2.dst (.pointer (some ⟨w1.heap.size, 0, none⟩)) = setF r o3.dst z (setF true o2.dst w1.heap.size (setF p o1.dst x a)) := by
          cases r <;> simp [setF] <;> (try rw [c23])
        rw [el, ef]
        exact ih p true r x w1.heap.size z _ (by simp at hm ⊢; omega) (hstab _ _ hS1 (step _ _)) (k1.below (step _ _)) (fun _ => ⟨hN _ hS1, new _ _⟩) (k3.below (step _ _)) (fun h _ => by have := lt _ _ _ (k1 h).2; omega) e2 (fun _ h => by have := lt _ _ _ (k3 h).2; omega)
      · refine wpOp_of_vgo h3 (g3 _) (fun u w' => u = .pointer (some ⟨w1.heap.size, 0, none⟩) ∧ w' = w1.alloc obj3) (a3 _ _ _ ⟨rfl, rfl⟩) fun u w2 hh => ?_
        obtain ⟨rfl, rfl⟩ := hh
        exact ih p q true x y w1.heap.size _ (by simp at hm ⊢; omega) (hstab _ _ hS1 (step _ _)) (k1.below (step _ _)) (k2.below (step _ _)) (fun _ => ⟨hN _ hS1, new _ _⟩) e1 (fun h _ => by have := lt _ _ _ (k1 h).2; omega) (fun h _ => by have := lt _ _ _ (k2 h).2; omega)
  exact go 3 false false false 0 0 0 w rfl hS (fun h => by cases h) (fun h => by cases h) (fun h => by cases h) (fun h => by cases h) (fun h => by cases h) (fun h => by cases h)
def held6B (ops : Array Oper) (n : Nat) : Bool :=
  Region.noSelect ops && lastWaits .any ops && decide (n < ops.size) && headB .any ops (tail6B .any ops) n 0 (Array.replicate ops.size false)
theorem wp_region_held6 {id : Nat} {a : Act} {w : World} {l : List Oper} {o1 o2 o3 s1 s2 s3 : Oper} (n : Nat) (hm : P.follows .mixedOrders = true) (hB : held6B l.toArray n = true)
    (h1 : l[n]? = some o1) (h2 : l[n + 1]? = some o2) (h3 : l[n + 2]? = some o3) (h4 : l[n + 3]? = some s1) (h5 : l[n + 4]? = some s2) (h6 : l[n + 5]? = some s3)
    (hQ : ∀ c a w (d : Option Tmp) (v : Value), Q (.panic c) (a.put d v) w → Q (.panic c) a w) (obj1 obj2 obj3 objA objB : Obj)
    (c12 : ∀ (a : Act) u v, (a.put o1.dst u).put o2.dst v = (a.put o2.dst v).put o1.dst u) (c13 : ∀ (a : Act) u v, (a.put o1.dst u).put o3.dst v = (a.put o3.dst v).put o1.dst u) (c23 : ∀ (a : Act) u v, (a.put o2.dst u).put o3.dst v = (a.put o3.dst v).put o2.dst u)
    (d1 : ∀ (a : Act) u, a.put s1.dst u = a) (d2 : ∀ (a : Act) u, a.put s2.dst u = a)
    (g1 : ∀ ys, Region.wanted o1 ys = true) (g2 : ∀ ys, Region.wanted o2 ys = true) (g3 : ∀ ys, Region.wanted o3 ys = true) (g4 : ∀ ys, Region.wanted s1 ys = true) (g5 : ∀ ys, Region.wanted s2 ys = true)
    (a1 : ∀ (a : Act) w (K : Value → World → Prop), K (.pointer (some ⟨w.heap.size, 0, none⟩)) (w.alloc obj1) → VGo P K ((execOp a.eval o1).run P w))
    (a2 : ∀ (a : Act) w (K : Value → World → Prop), K (.pointer (some ⟨w.heap.size, 0, none⟩)) (w.alloc obj2) → VGo P K ((execOp a.eval o2).run P w))
    (a3 : ∀ (a : Act) w (K : Value → World → Prop), K (.pointer (some ⟨w.heap.size, 0, none⟩)) (w.alloc obj3) → VGo P K ((execOp a.eval o3).run P w))
    (h : ∀ Fin : Act → Prop, (∀ a', (∀ x y z w1, Below w.drew.heap.size w.drew w1 → w.heap.size ≤ x → w.heap.size ≤ y → w.heap.size ≤ z → x ≠ y → x ≠ z → y ≠ z → w1.heap[x]? = some obj1 → w1.heap[y]? = some obj2 → w1.heap[z]? = some obj3 →
        VGo P (fun _ w' => Below w.drew.heap.size w.drew w' ∧ w'.heap[x]? = some objA ∧ w'.heap[y]? = some obj2 ∧ w'.heap[z]? = some obj3) ((execOp (((a'.put o1.dst (.pointer (some ⟨x, 0, none⟩))).put o2.dst (.pointer (some ⟨y, 0, none⟩))).put o3.dst (.pointer (some ⟨z, 0, none⟩))).eval s1).run P w1)) →
      (∀ x y z w1, Below w.drew.heap.size w.drew w1 → w.heap.size ≤ x → w.heap.size ≤ y → w.heap.size ≤ z → x ≠ y → x ≠ z → y ≠ z → w1.heap[x]? = some objA → w1.heap[y]? = some obj2 → w1.heap[z]? = some obj3 →
        VGo P (fun _ w' => Below w.drew.heap.size w.drew w' ∧ w'.heap[x]? = some objA ∧ w'.heap[y]? = some objB ∧ w'.heap[z]? = some obj3) ((execOp (((a'.put o1.dst (.pointer (some ⟨x, 0, none⟩))).put o2.dst (.pointer (some ⟨y, 0, none⟩))).put o3.dst (.pointer (some ⟨z, 0, none⟩))).eval s2).run P w1)) →
      (∀ x y z w1, Below w.drew.heap.size w.drew w1 → w.heap.size ≤ x → w.heap.size ≤ y → w.heap.size ≤ z → x ≠ y → x ≠ z → y ≠ z → w1.heap[x]? = some objA → w1.heap[y]? = some objB → w1.heap[z]? = some obj3 →
        wpList P l.toArray Q [s3] (((a'.put o1.dst (.pointer (some ⟨x, 0, none⟩))).put o2.dst (.pointer (some ⟨y, 0, none⟩))).put o3.dst (.pointer (some ⟨z, 0, none⟩))) w1) → Fin a') →
      wpHeld P l.toArray (Below w.drew.heap.size w.drew) Fin (l.take n) a) : (Code.region id l.toArray true).wp P Q a w := by
  replace h := h (fun a' => (∀ x y z w1, Below w.drew.heap.size w.drew w1 → w.heap.size ≤ x → w.heap.size ≤ y → w.heap.size ≤ z → x ≠ y → x ≠ z → y ≠ z → w1.heap[x]? = some obj1 → w1.heap[y]? = some obj2 → w1.heap[z]? = some obj3 →
        VGo P (fun _ w' => Below w.drew.heap.size w.drew w' ∧ w'.heap[x]? = some objA ∧ w'.heap[y]? = some obj2 ∧ w'.heap[z]? = some obj3) ((execOp (((a'.put o1.dst (.pointer (some ⟨x, 0, none⟩))).put o2.dst (.pointer (some ⟨y, 0, none⟩))).put o3.dst (.pointer (some ⟨z, 0, none⟩))).eval s1).run P w1)) ∧
      (∀ x y z w1, Below w.drew.heap.size w.drew w1 → w.heap.size ≤ x → w.heap.size ≤ y → w.heap.size ≤ z → x ≠ y → x ≠ z → y ≠ z → w1.heap[x]? = some objA → w1.heap[y]? = some obj2 → w1.heap[z]? = some obj3 →
        VGo P (fun _ w' => Below w.drew.heap.size w.drew w' ∧ w'.heap[x]? = some objA ∧ w'.heap[y]? = some objB ∧ w'.heap[z]? = some obj3) ((execOp (((a'.put o1.dst (.pointer (some ⟨x, 0, none⟩))).put o2.dst (.pointer (some ⟨y, 0, none⟩))).put o3.dst (.pointer (some ⟨z, 0, none⟩))).eval s2).run P w1)) ∧
      (∀ x y z w1, Below w.drew.heap.size w.drew w1 → w.heap.size ≤ x → w.heap.size ≤ y → w.heap.size ≤ z → x ≠ y → x ≠ z → y ≠ z → w1.heap[x]? = some objA → w1.heap[y]? = some objB → w1.heap[z]? = some obj3 →
        wpList P l.toArray Q [s3] (((a'.put o1.dst (.pointer (some ⟨x, 0, none⟩))).put o2.dst (.pointer (some ⟨y, 0, none⟩))).put o3.dst (.pointer (some ⟨z, 0, none⟩))) w1)) (fun _ f1 f2 f3 => ⟨f1, f2, f3⟩)
  simp only [held6B, Bool.and_eq_true, decide_eq_true_eq] at hB
  obtain ⟨⟨⟨hsel, hl⟩, hn⟩, hh⟩ := hB
  have hn' : n < l.length := by simpa using hn
  have htl : (l.take n).length = n := by simp; omega
  have hT1 : n + 6 = l.toArray.size := by
    have : ∀ (f k : Nat) (listed : Array Bool), headB .any l.toArray (tail6B .any l.toArray) f k listed = true → k + f + 6 = l.toArray.size := by
      intro f
      induction f with
      | zero => intro k listed hb; simp only [headB, tail6B, Bool.and_eq_true, decide_eq_true_eq] at hb; omega
      | succ f ih => intro k listed hb; simp only [headB, Bool.and_eq_true] at hb; have := ih (k + 1) _ hb.2; omega
    have := this n 0 _ hh
    omega
  refine wp_region_any hm (wpAny_of_heldAny (md := .any) (S := Below w.drew.heap.size w.drew) _ _ _ _ ?_)
  have := heldAny_lex (md := .any) (P := P) (ops := l.toArray) (Q := Q) (S := Below w.drew.heap.size w.drew) (g := 6) (T := tail6B .any l.toArray) (below_stab w.drew) hsel hl hQ hn
    (fun listed a' hT hF w' hS => held_tail6 (N := w.heap.size) (below_stab w.drew) (fun w2 h2 => h2.size) (by simpa using h1) (by simpa using h2) (by simpa using h3) (by simpa using h4) (by simpa using h5) (by simpa using h6) hT c12 c13 c23 d1 d2 g1 g2 g3 g4 g5 a1 a2 a3 hF.1 hF.2.1 hF.2.2 w' hS) (l.take n) 0 (Array.replicate l.toArray.size false) a
    (fun j hj => by have hj' : j < n := by rw [htl] at hj; exact hj
                    simp [hj']) (by simpa using htl) (new_last _ (by omega)) (by rw [htl]; exact hh) h w.drew (Below.refl _ _)
  rw [htl, hT1] at this
  exact this
end
end Go.Proofs.Ytegibpepdndocaa
