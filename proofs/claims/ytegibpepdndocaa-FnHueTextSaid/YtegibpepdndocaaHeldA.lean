
import Derived.Test.YtegibpepdndocaaHeld
namespace Go.Proofs.Ytegibpepdndocaa
open Go Go.RowKit

/- A region whose order is open and that ends in 'x = append(x, T{..})': all that is reckoned gives the same value in every world that meets S (what was there is as it was, but for the row that grows); the new block, the append and the assignment come last. F: what stays true while only new memory comes; G: what is known behind the append. -/
section
variable {P : Program} {ops : Array Oper} {Q : Exit → Act → World → Prop} {md : Region.Mode} {S : World → Prop}
theorem heldAny_lexF {g : Nat} {T : Nat → Array Bool → Bool} {F : World → Prop} (hstabF : ∀ w1 w2, F w1 → Below w1.heap.size w1 w2 → F w2) (hstab : ∀ w w', S w → Below w.heap.size w w' → S w') (hsel : Region.noSelect ops = true) (hl : lastWaits md ops = true)
    (hQ : ∀ c a w (d : Option Tmp) (v : Value), Q (.panic c) (a.put d v) w → Q (.panic c) a w) {Fin : Act → Prop} {n : Nat} (hn : n < ops.size)
    (hfin : ∀ listed a, T n listed = true → Fin a → ∀ w, S w → F w → heldAny P md ops Q S g listed a w) :
    ∀ (l : List Oper) (k : Nat) (listed : Array Bool) (a : Act), (∀ j, j < l.length → l[j]? = ops[k + j]?) → k + l.length = n → listed.getD (ops.size - 1) true = false →
    headB md ops T l.length k listed = true → wpHeld P ops S Fin l a → ∀ w, S w → F w → heldAny P md ops Q S (l.length + g) listed a w
  | [], k, listed, a, _, hk, hu, hB, h => by
    have : k = n := by simpa using hk
    subst this
    simpa using hfin listed a (by simpa [headB] using hB) h
  | o :: l, k, listed, a, hlst, hk, hu, hB, h => by
    have h0 : ops[k]? = some o := by simpa using (hlst 0 (by simp)).symm
    simp only [List.length_cons, headB, Bool.and_eq_true] at hB
    obtain ⟨⟨hr, hf⟩, hB'⟩ := hB
    have hkn : k < n := by simp only [List.length_cons] at hk; omega
    have hkl : k ≠ ops.size - 1 := by omega
    have hr' : k ∈ Region.ready md ops listed := by simpa using hr
    obtain ⟨v, hy, hK⟩ := h
    rw [List.length_cons, show l.length + 1 + g = (l.length + g) + 1 by omega]
    intro w hS hFw
    exact heldAny_first (last := ops.size - 1) (F := F) hstab h0 (Region.noSelect_spec hsel) (fun c a w => hQ c a w _ _) hkl (by omega) (lastWaits_spec hl (by omega)) (l.length + g) listed a hstabF hu
      (Region.free_spec h0 hf) hr' hy
      (fun w hS hFw => heldAny_lexF hstabF hstab hsel hl hQ hn hfin l (k + 1) _ _ (fun j hj => by have := hlst (j + 1) (by simp; omega); simpa [Nat.add_assoc, Nat.add_comm 1 j] using this) (by simp only [List.length_cons] at hk; omega)
        (by rw [getD_set_ne true hkl]; exact hu) hB' hK w hS hFw) w hS hFw

def tail3B (md : Region.Mode) (ops : Array Oper) (n : Nat) (listed : Array Bool) : Bool :=
  decide (Region.ready md ops listed = [n]) && decide (n + 3 = ops.size) && seenB n listed && decide (Region.ready md ops (listed.setIfInBounds n true) = [n + 1]) &&
    decide (Region.ready md ops ((listed.setIfInBounds n true).setIfInBounds (n + 1) true) = [n + 2])
theorem upon_VGo {P : Program} {Q : Exit → Act → World → Prop} {o : Oper} {a : Act} {v : Value} {w w' : World} {K : Act → World → Prop}
    (h : VGo P (fun u x => u = v ∧ x = w') ((execOp a.eval o).run P w)) (hK : K (a.put o.dst v) w') : o.wp P a w K Q := by
  unfold Oper.wp
  generalize (execOp a.eval o).run P w = r at *
  cases r with
  | ok n x =>
    cases n <;> simp only [VGo] at h <;> simp only [Oper.upon]
    case value u => obtain ⟨rfl, rfl⟩ := h; exact hK
    case skip => obtain ⟨hu, rfl⟩ := h; rw [hu]; exact hK
    case enter f args => exact Calls.mono h fun e w'' ⟨u, he, hu, hw⟩ => by subst he; subst hu; subst hw; exact hK
  | halt x w' => simp only [VGo] at h

theorem held_tail3 {n m : Nat} {ob oa o : Oper} {obj : Obj} {listed : Array Bool} {a : Act} {N : Nat} {F : World → Prop} {G : Value → World → Prop} (hstab : ∀ w w', S w → Below w.heap.size w w' → S w') (hN : ∀ w, S w → N ≤ w.heap.size)
    (hstabF : ∀ w1 w2, F w1 → Below w1.heap.size w1 w2 → F w2) (hstabG : ∀ v w1 w2, G v w1 → Below w1.heap.size w1 w2 → G v w2)
    (hob : ops[n]? = some ob) (hoa : ops[n + 1]? = some oa) (ho : ops[n + 2]? = some o) (hT : tail3B md ops n listed = true) (hg : Region.wanted ob (yielded ops a.tmps) = true)
    (hal : ∀ w, S w → F w → ∀ K : Value → World → Prop, K (.slice (some ⟨w.heap.size, 0, none⟩) m m) (w.alloc obj) → VGo P K ((execOp a.eval ob).run P w))
    (hga : ∀ b, Region.wanted oa (yielded ops (a.put ob.dst (.slice (some ⟨b, 0, none⟩) m m)).tmps) = true)
    (happ : ∀ b w, S w → F w → N ≤ b → w.heap[b]? = some obj → ∀ K : Act → World → Prop, (∀ v' w', S w' → G v' w' → K ((a.put ob.dst (.slice (some ⟨b, 0, none⟩) m m)).put oa.dst v') w') → oa.wp P (a.put ob.dst (.slice (some ⟨b, 0, none⟩) m m)) w K Q)
    (h : ∀ b v' w, S w → N ≤ b → G v' w → wpList P ops Q [o] ((a.put ob.dst (.slice (some ⟨b, 0, none⟩) m m)).put oa.dst v') w) (w : World) (hS : S w) (hF : F w) : heldAny P md ops Q S 3 listed a w := by
  simp only [tail3B, Bool.and_eq_true, decide_eq_true_eq] at hT
  obtain ⟨⟨⟨⟨hr, hn⟩, hs⟩, hr2⟩, hr3⟩ := hT
  refine ⟨by rw [hr]; simp, hS, F, hstabF, hF, fun w1 hS1 hF1 i hi => ?_⟩
  rw [hr] at hi
  have hin : i = n := by simpa using hi
  subst hin
  unfold wpOp
  simp only [hob, hg, if_true]
  refine .inl (upon_VGo (hal w1 hS1 hF1 _ ⟨rfl, rfl⟩) ?_)
  have hb1 : Below w1.heap.size w1 (w1.alloc obj) := (Below.refl _ _).alloc (Nat.le_refl _) _
  refine ⟨by rw [hr2]; simp, hstab _ _ hS1 hb1, fun w2 => F w2 ∧ w2.heap[w1.heap.size]? = some obj, fun w2 w3 hF2 hb => ⟨hstabF _ _ hF2.1 hb, ?_⟩, ⟨hstabF _ _ hF1 hb1, ?_⟩, fun w2 hS2 hF2 j hj => ?_⟩
  · have hlt : w1.heap.size < w2.heap.size := (Array.getElem?_eq_some_iff.1 hF2.2).1
    show w3.heap[w1.heap.size]? = some obj
    rw [hb.block _ hlt]; exact hF2.2
  · show (w1.heap.push obj)[w1.heap.size]? = some obj
    simp
  · rw [hr2] at hj
    have hjn : j = i + 1 := by simpa using hj
    subst hjn
    unfold wpOp
    simp only [hoa, hga, if_true]
    refine .inl (happ _ w2 hS2 hF2.1 (hN _ hS1) hF2.2 _ fun v' w3 hS3 hG3 => ?_)
    refine ⟨by rw [hr3]; simp, hS3, G v', hstabG v', hG3, fun w4 hS4 hG4 k hk => ?_⟩
    rw [hr3] at hk
    have hkn : k = i + 2 := by simpa using hk
    subst hkn
    have hw := h w1.heap.size v' w4 hS4 (hN _ hS1) hG4
    have hw2 : wpOp P ops Q (i + 2) (wpList P ops Q []) ((a.put ob.dst (.slice (some ⟨w1.heap.size, 0, none⟩) m m)).put oa.dst v') w4 := by unfold wpOp; simp only [ho]; exact hw
    refine wpOp_mono (fun a' w' h' => ⟨fun q hq => ?_, h'⟩) hw2
    by_cases e : q = i + 2
    · subst e; exact seen_set _
    · by_cases e1 : q = i + 1
      · subst e1; exact seen_keep (seen_set _)
      · by_cases e2 : q = i
        · subst e2; exact seen_keep (seen_keep (seen_set _))
        · exact seen_keep (seen_keep (seen_keep (seenB_spec hs (by omega))))
end
def held3B (ops : Array Oper) (n : Nat) : Bool :=
  Region.noSelect ops && lastWaits .any ops && decide (n < ops.size) && headB .any ops (tail3B .any ops) n 0 (Array.replicate ops.size false)
theorem wp_region_heldA {P : Program} {Q : Exit → Act → World → Prop} {id : Nat} {a : Act} {w : World} {l : List Oper} {ob oa o : Oper} (n : Nat) (hm : P.follows .mixedOrders = true) (hB : held3B l.toArray n = true) (hdb : l[n]? = some ob) (hda : l[n + 1]? = some oa) (hd : l[n + 2]? = some o)
    (hQ : ∀ c a w (d : Option Tmp) (v : Value), Q (.panic c) (a.put d v) w → Q (.panic c) a w) (S F : World → Prop) (N : Nat) (hstab : ∀ w w', S w → Below w.heap.size w w' → S w') (hN : ∀ w, S w → N ≤ w.heap.size)
    (hstabF : ∀ w1 w2, F w1 → Below w1.heap.size w1 w2 → F w2) (hS : S w.drew) (hF : F w.drew)
    (h : ∀ Fin : Act → Prop, (∀ a', (∃ (m : Nat) (obj : Obj) (G : Value → World → Prop), (∀ v w1 w2, G v w1 → Below w1.heap.size w1 w2 → G v w2) ∧ Region.wanted ob (yielded l.toArray a'.tmps) = true ∧
      (∀ w, S w → F w → ∀ K : Value → World → Prop, K (.slice (some ⟨w.heap.size, 0, none⟩) m m) (w.alloc obj) → VGo P K ((execOp a'.eval ob).run P w)) ∧
      (∀ b, Region.wanted oa (yielded l.toArray (a'.put ob.dst (.slice (some ⟨b, 0, none⟩) m m)).tmps) = true) ∧
      (∀ b w, S w → F w → N ≤ b → w.heap[b]? = some obj → ∀ K : Act → World → Prop, (∀ v' w', S w' → G v' w' → K ((a'.put ob.dst (.slice (some ⟨b, 0, none⟩) m m)).put oa.dst v') w') → oa.wp P (a'.put ob.dst (.slice (some ⟨b, 0, none⟩) m m)) w K Q) ∧
      (∀ b v' w, S w → N ≤ b → G v' w → wpList P l.toArray Q [o] ((a'.put ob.dst (.slice (some ⟨b, 0, none⟩) m m)).put oa.dst v') w)) → Fin a') →
      wpHeld P l.toArray S Fin (l.take n) a) : (Code.region id l.toArray true).wp P Q a w := by
  replace h := h _ (fun _ hf => hf)
  simp only [held3B, Bool.and_eq_true, decide_eq_true_eq] at hB
  obtain ⟨⟨⟨hsel, hl⟩, hn⟩, hh⟩ := hB
  have hn' : n < l.length := by simpa using hn
  have htl : (l.take n).length = n := by simp; omega
  have hT1 : n + 3 = l.toArray.size := by
    have : ∀ (f k : Nat) (listed : Array Bool), headB .any l.toArray (tail3B .any l.toArray) f k listed = true → k + f + 3 = l.toArray.size := by
      intro f
      induction f with
      | zero => intro k listed hb; simp only [headB, tail3B, Bool.and_eq_true, decide_eq_true_eq] at hb; omega
      | succ f ih => intro k listed hb; simp only [headB, Bool.and_eq_true] at hb; have := ih (k + 1) _ hb.2; omega
    have := this n 0 _ hh
    omega
  refine wp_region_any hm (wpAny_of_heldAny (md := .any) (S := S) _ _ _ _ ?_)
  have := heldAny_lexF (md := .any) (P := P) (ops := l.toArray) (Q := Q) (S := S) (g := 3) (T := tail3B .any l.toArray) hstabF hstab hsel hl hQ hn
    (fun listed a' hT ⟨m, obj, G, hG, hg, hal, hga, happ, hlast⟩ w' hS hF => held_tail3 (N := N) hstab hN hstabF hG (by simpa using hdb) (by simpa using hda) (by simpa using hd) hT hg hal hga happ hlast w' hS hF) (l.take n) 0 (Array.replicate l.toArray.size false) a
    (fun j hj => by have hj' : j < n := by rw [htl] at hj; exact hj
                    simp [hj']) (by simpa using htl) (new_last _ (by omega)) (by rw [htl]; exact hh) h w.drew hS hF
  rw [htl, hT1] at this
  exact this
/- what was there is as it was, but for the row that grows -/
theorem grown_stab {W : World} {row : Option Nat} (w w' : World) (h : W.grownBy w row) (k : Below w.heap.size w w') : W.grownBy w' row :=
  ⟨k.os.trans h.os, k.tape.trans h.tape, k.output.trans h.output, Nat.le_trans h.size k.size, fun i hi hne => (k.block i (Nat.lt_of_lt_of_le hi h.size)).trans (h.block i hi hne)⟩
end Go.Proofs.Ytegibpepdndocaa
