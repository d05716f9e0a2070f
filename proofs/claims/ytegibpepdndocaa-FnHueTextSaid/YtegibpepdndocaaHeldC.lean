
import Derived.Test.YtegibpepdndocaaHeldA
namespace Go.Proofs.Ytegibpepdndocaa
open Go Go.RowKit

/- A region whose order is open and in which one call draws from a reader (block g): loads come first (they give the same value in every order), then a chain of calls, each of which waits for the one ahead of it, with the making of one variable anywhere between, then the store. -/
abbrev ptr (b : Nat) : Value := .pointer (some ⟨b, 0, none⟩)
theorem trans_by {a b c : World} {r : Option Nat} (h : a.grownBy b r) (k : b.grownBy c r) : a.grownBy c r :=
  ⟨k.os.trans h.os, k.tape.trans h.tape, k.output.trans h.output, Nat.le_trans h.size k.size, fun i hi hn => (k.block i (Nat.lt_of_lt_of_le hi h.size) hn).trans (h.block i hi hn)⟩
section
variable {P : Program} {ops : Array Oper} {Q : Exit → Act → World → Prop} {md : Region.Mode} {S : World → Prop}
def headI (md : Region.Mode) (ops : Array Oper) (T : Array Bool → Bool) : List Nat → Array Bool → Bool
  | [], listed => T listed
  | k :: ks, listed => (Region.ready md ops listed).contains k && Region.free md ops listed k && decide (k < ops.size - 1) && headI md ops T ks (listed.setIfInBounds k true)
theorem heldAny_lexI {g : Nat} {T : Array Bool → Bool} {F : World → Prop} (hstabF : ∀ w1 w2, F w1 → Below w1.heap.size w1 w2 → F w2) (hstab : ∀ w w', S w → Below w.heap.size w w' → S w') (hsel : Region.noSelect ops = true) (hl : lastWaits md ops = true)
    (hQ : ∀ c a w (d : Option Tmp) (v : Value), Q (.panic c) (a.put d v) w → Q (.panic c) a w) {Fin : Act → Prop}
    (hfin : ∀ listed a, T listed = true → Fin a → ∀ w, S w → F w → heldAny P md ops Q S g listed a w) :
    ∀ (ks : List Nat) (l : List Oper) (listed : Array Bool) (a : Act), ks.map (fun k => ops[k]?) = l.map some → listed.getD (ops.size - 1) true = false →
    headI md ops T ks listed = true → wpHeld P ops S Fin l a → ∀ w, S w → F w → heldAny P md ops Q S (ks.length + g) listed a w
  | [], [], listed, a, _, hu, hB, h => by simpa using hfin listed a (by simpa [headI] using hB) h
  | [], _ :: _, _, _, hm, _, _, _ => by simp at hm
  | _ :: _, [], _, _, hm, _, _, _ => by simp at hm
  | k :: ks, o :: l, listed, a, hm, hu, hB, h => by
    simp only [List.map_cons, List.cons.injEq] at hm
    obtain ⟨h0, hm⟩ := hm
    simp only [headI, Bool.and_eq_true, decide_eq_true_eq] at hB
    obtain ⟨⟨⟨hr, hf⟩, hk⟩, hB'⟩ := hB
    have hkl : k ≠ ops.size - 1 := by omega
    have hr' : k ∈ Region.ready md ops listed := by simpa using hr
    obtain ⟨v, hy, hK⟩ := h
    rw [List.length_cons, show ks.length + 1 + g = (ks.length + g) + 1 by omega]
    intro w hS hFw
    exact heldAny_first (last := ops.size - 1) (F := F) hstab h0 (Region.noSelect_spec hsel) (fun c a w => hQ c a w _ _) hkl (by omega) (lastWaits_spec hl hk) (ks.length + g) listed a hstabF hu
      (Region.free_spec h0 hf) hr' hy
      (fun w hS hFw => heldAny_lexI hstabF hstab hsel hl hQ hfin ks l _ _ hm (by rw [getD_set_ne true hkl]; exact hu) hB' hK w hS hFw) w hS hFw
theorem wp_put {oi oj : Oper} {v : Value} (hap : oi.apart ops oj = true) (hsj : ∀ cs b, oj.op ≠ .select cs b)
    (hQ : ∀ c a w (d : Option Tmp) (v : Value), Q (.panic c) a w → Q (.panic c) (a.put d v) w) {K : Act → World → Prop} {a : Act} {w : World}
    (h : oj.wp P a w K Q) : oj.wp P (a.put oi.dst v) w (fun a' w' => ∃ a0, a' = a0.put oi.dst v ∧ K a0 w') Q := by
  obtain ⟨h1, h2, h3⟩ := Oper.apart_spec hap
  unfold Oper.wp at *
  rw [execOp_put oj hsj a oi.dst v h1]
  generalize (execOp a.eval oj).run P w = r at *
  cases r with
  | ok n w' =>
    cases n <;> simp only [Oper.upon] at h ⊢
    case value u => exact ⟨_, Act.put_comm a v u h2, h⟩
    case skip => exact ⟨_, Act.put_comm a v undef h2, h⟩
    case defer d => exact ⟨_, by rw [Act.put_defers, Act.put_comm _ v undef h2], h⟩
    case enter f args =>
      refine Calls.mono h fun e w'' he => ?_
      cases e with
      | returned u => exact ⟨_, Act.put_comm a v u h2, he⟩
      | panicked c => exact hQ _ _ _ _ _ he
      | outgrown => exact he
    case row row args => exact Rows.mono h fun u w'' he => ⟨_, Act.put_comm a v u h2, he⟩
  | halt x w' =>
    cases x <;> simp only [Oper.upon] at h ⊢
    case panic u => exact hQ _ _ _ _ _ h
def Stab (F : World → Prop) : Prop := ∀ w1 w2, F w1 → Below w1.heap.size w1 w2 → F w2
def wpC (P : Program) (ops : Array Oper) (Q : Exit → Act → World → Prop) (S : World → Prop) (g : Nat) (Fin : Act → (World → Prop) → Prop) : List Oper → Act → (World → Prop) → Prop
  | [], a, F => Fin a F
  | o :: rest, a, F => ∀ w, S w → F w → o.wp P a w (fun a' w' => w.grownBy w' (some g) ∧ ∃ F', Stab F' ∧ F' w' ∧ wpC P ops Q S g Fin rest a' F') Q
def chainB (md : Region.Mode) (ops : Array Oper) (ia il : Nat) : List Nat → Array Bool → Bool
  | [], listed => decide (Region.ready md ops listed = [ia]) && decide (Region.ready md ops (listed.setIfInBounds ia true) = [il]) && seenB ops.size ((listed.setIfInBounds ia true).setIfInBounds il true) && ((ops[il]?).map (·.guard.isNone)).getD false && ((ops[ia]?).map (·.guard.isNone)).getD false
  | i :: is, listed => decide (Region.ready md ops listed = [i, ia]) && decide (Region.ready md ops (listed.setIfInBounds ia true) = [i]) && decide (i ≠ ia) && ((ops[i]?).map (·.guard.isNone)).getD false && ((ops[ia]?).map (·.guard.isNone)).getD false &&
      ((ops[ia]?).map fun x => ((ops[i]?).map (x.apart ops ·)).getD false).getD false && chainB md ops ia il is (listed.setIfInBounds i true)
theorem want_none {o : Oper} (h : o.guard.isNone = true) (y : Nat → Option Bool) : Region.wanted o y = true := by
  unfold Region.wanted
  cases hg : o.guard with
  | none => rfl
  | some x => rw [hg] at h; cases h
/- what is left to do behind the chain: the variable, the store -/
def FinC (P : Program) (ops : Array Oper) (Q : Exit → Act → World → Prop) (S : World → Prop) (N : Nat) (obj : Obj) (oa ol : Oper) (a : Act) (F : World → Prop) : Prop :=
  ∀ b w, S w → F w → N ≤ b → w.heap[b]? = some obj → wpList P ops Q [ol] (a.put oa.dst (ptr b)) w
theorem held_chain {g N ia il : Nat} {obj : Obj} {oa ol : Oper} (hstab : ∀ w w', S w → Below w.heap.size w w' → S w') (hby : ∀ w w', S w → w.grownBy w' (some g) → S w') (hN : ∀ w, S w → N ≤ w.heap.size) (hgN : g < N)
    (hoa : ops[ia]? = some oa) (hol : ops[il]? = some ol) (hsel : Region.noSelect ops = true)
    (hQ : ∀ c a w (d : Option Tmp) (v : Value), Q (.panic c) a w → Q (.panic c) (a.put d v) w)
    (hal : ∀ (a : Act) (w : World) (K : Value → World → Prop), K (ptr w.heap.size) (w.alloc obj) → VGo P K ((execOp a.eval oa).run P w)) :
    ∀ (is : List Nat) (l : List Oper) (listed : Array Bool) (a : Act) (F : World → Prop), is.map (fun k => ops[k]?) = l.map some → chainB md ops ia il is listed = true → Stab F → wpC P ops Q S g (FinC P ops Q S N obj oa ol) l a F →
    (∀ w, S w → F w → heldAny P md ops Q S (is.length + 2) listed a w) ∧ (∀ b w, S w → F w → N ≤ b → w.heap[b]? = some obj → heldAny P md ops Q S (is.length + 1) (listed.setIfInBounds ia true) (a.put oa.dst (ptr b)) w)
  | [], _ :: _, _, _, _, hm, _, _, _ => by simp at hm
  | _ :: _, [], _, _, _, hm, _, _, _ => by simp at hm
  | [], [], listed, a, F, _, hB, hF, h => by
    simp only [chainB, Bool.and_eq_true, decide_eq_true_eq] at hB
    obtain ⟨⟨⟨⟨hr, hr2⟩, hs⟩, hgl⟩, hga⟩ := hB
    simp only [hol, hoa, Option.map_some, Option.getD_some] at hgl hga
    have second : ∀ b w, S w → F w → N ≤ b → w.heap[b]? = some obj → heldAny P md ops Q S 1 (listed.setIfInBounds ia true) (a.put oa.dst (ptr b)) w := fun b w hS hFw hb hob => by
      refine ⟨by rw [hr2]; simp, hS, fun w2 => F w2 ∧ w2.heap[b]? = some obj, fun w1 w2 h1 k => ⟨hF _ _ h1.1 k, ?_⟩, ⟨hFw, hob⟩, fun w1 hS1 hF1 i hi => ?_⟩
      · have hlt : b < w1.heap.size := (Array.getElem?_eq_some_iff.1 h1.2).1
        rw [k.block _ hlt]; exact h1.2
      · rw [hr2] at hi
        have hin : i = il := by simpa using hi
        subst hin
        have hw := h b w1 hS1 hF1.1 hb hF1.2
        have hw2 : wpOp P ops Q i (wpList P ops Q []) (a.put oa.dst (ptr b)) w1 := by unfold wpOp; simp only [hol]; exact hw
        exact wpOp_mono (fun a' w' h' => ⟨fun q hq => seenB_spec hs hq, h'⟩) hw2
    refine ⟨fun w hS hFw => ?_, second⟩
    refine ⟨by rw [hr]; simp, hS, F, hF, hFw, fun w1 hS1 hF1 i hi => ?_⟩
    rw [hr] at hi
    have hin : i = ia := by simpa using hi
    subst hin
    unfold wpOp
    simp only [hoa, want_none hga, if_true]
    have hb1 : Below w1.heap.size w1 (w1.alloc obj) := (Below.refl _ _).alloc (Nat.le_refl _) _
    refine .inl (upon_VGo (hal a w1 _ ⟨rfl, rfl⟩) (second _ _ (hstab _ _ hS1 hb1) (hF _ _ hF1 hb1) (hN _ hS1) ?_))
    show (w1.heap.push obj)[w1.heap.size]? = some obj
    simp
  | i :: is, o :: l, listed, a, F, hm, hB, hF, h => by
    simp only [List.map_cons, List.cons.injEq] at hm
    obtain ⟨h0, hm⟩ := hm
    simp only [chainB, Bool.and_eq_true, decide_eq_true_eq] at hB
    obtain ⟨⟨⟨⟨⟨⟨hr, hr2⟩, hne⟩, hgi⟩, hga⟩, hap⟩, hB'⟩ := hB
    simp only [hoa, h0, Option.map_some, Option.getD_some] at hgi hga hap
    have keep : ∀ {b : Nat} {w w' : World}, w.grownBy w' (some g) → N ≤ b → w.heap[b]? = some obj → w'.heap[b]? = some obj := fun hg hb hob => by
      have hlt := (Array.getElem?_eq_some_iff.1 hob).1
      rw [hg.block _ hlt (by simp; omega)]; exact hob
    have second : ∀ b w, S w → F w → N ≤ b → w.heap[b]? = some obj → heldAny P md ops Q S (is.length + 1 + 1) (listed.setIfInBounds ia true) (a.put oa.dst (ptr b)) w := fun b w hS hFw hb hob => by
      refine ⟨by rw [hr2]; simp, hS, fun w2 => F w2 ∧ w2.heap[b]? = some obj, fun w1 w2 h1 k => ⟨hF _ _ h1.1 k, ?_⟩, ⟨hFw, hob⟩, fun w1 hS1 hF1 j hj => ?_⟩
      · have hlt : b < w1.heap.size := (Array.getElem?_eq_some_iff.1 h1.2).1
        rw [k.block _ hlt]; exact h1.2
      · rw [hr2] at hj
        have hin : j = i := by simpa using hj
        subst hin
        unfold wpOp
        simp only [h0, want_none hgi, if_true]
        refine .inl (Oper.wp_mono (fun a' w' h' => ?_) (wp_put hap (fun cs b' => Region.noSelect_spec hsel j o cs b' h0) hQ (v := ptr b) (h w1 hS1 hF1.1)))
        obtain ⟨a0, rfl, hgr, F', hF', hFw', hC⟩ := h'
        have ih := (held_chain hstab hby hN hgN hoa hol hsel hQ hal is l (listed.setIfInBounds j true) a0 F' hm hB' hF' hC).2 b w' (hby _ _ hS1 hgr) hFw' hb (keep hgr hb hF1.2)
        rw [Array.setIfInBounds_comm _ _ hne] at ih
        exact ih
    refine ⟨fun w hS hFw => ?_, second⟩
    refine ⟨by rw [hr]; simp, hS, F, hF, hFw, fun w1 hS1 hF1 j hj => ?_⟩
    rw [hr] at hj
    have hin : j = i ∨ j = ia := by simpa using hj
    rcases hin with rfl | rfl
    · unfold wpOp
      simp only [h0, want_none hgi, if_true]
      refine .inl (Oper.wp_mono (fun a' w' h' => ?_) (h w1 hS1 hF1))
      obtain ⟨hgr, F', hF', hFw', hC⟩ := h'
      exact (held_chain hstab hby hN hgN hoa hol hsel hQ hal is l (listed.setIfInBounds j true) a' F' hm hB' hF' hC).1 w' (hby _ _ hS1 hgr) hFw'
    · unfold wpOp
      simp only [hoa, want_none hga, if_true]
      have hb1 : Below w1.heap.size w1 (w1.alloc obj) := (Below.refl _ _).alloc (Nat.le_refl _) _
      refine .inl (upon_VGo (hal a w1 _ ⟨rfl, rfl⟩) (second _ _ (hstab _ _ hS1 hb1) (hF _ _ hF1 hb1) (hN _ hS1) ?_))
      show (w1.heap.push obj)[w1.heap.size]? = some obj
      simp
end
def heldCB (ops : Array Oper) (ks is : List Nat) (ia il : Nat) : Bool :=
  Region.noSelect ops && lastWaits .any ops && decide (0 < ops.size) && decide (ks.length + (is.length + 2) = ops.size) && headI .any ops (chainB .any ops ia il is) ks (Array.replicate ops.size false)
theorem wp_region_heldC {P : Program} {Q : Exit → Act → World → Prop} {id : Nat} {a : Act} {w : World} {l lh lc : List Oper} {oa ol : Oper} (ks is : List Nat) (ia il g : Nat) (hm : P.follows .mixedOrders = true) (hB : heldCB l.toArray ks is ia il = true)
    (hlh : ks.map (fun k => l.toArray[k]?) = lh.map some) (hlc : is.map (fun k => l.toArray[k]?) = lc.map some) (hoa : l.toArray[ia]? = some oa) (hol : l.toArray[il]? = some ol)
    (hQ : ∀ c a w (d : Option Tmp) (v : Value), Q (.panic c) (a.put d v) w → Q (.panic c) a w) (hQ2 : ∀ c a w (d : Option Tmp) (v : Value), Q (.panic c) a w → Q (.panic c) (a.put d v) w) (obj : Obj)
    (hal : ∀ (a : Act) (w : World) (K : Value → World → Prop), K (ptr w.heap.size) (w.alloc obj) → VGo P K ((execOp a.eval oa).run P w))
    (F : World → Prop) (hF : Stab F) (hFw : F w.drew) (hg : g < w.heap.size)
    (h : ∀ Fin : Act → Prop, (∀ a', wpC P l.toArray Q (fun w' => w.drew.grownBy w' (some g)) g (FinC P l.toArray Q (fun w' => w.drew.grownBy w' (some g)) w.heap.size obj oa ol) lc a' F → Fin a') →
      wpHeld P l.toArray (fun w' => w.drew.grownBy w' (some g)) Fin lh a) : (Code.region id l.toArray true).wp P Q a w := by
  replace h := h _ (fun _ hf => hf)
  simp only [heldCB, Bool.and_eq_true, decide_eq_true_eq] at hB
  obtain ⟨⟨⟨⟨hsel, hl⟩, h0⟩, hlen⟩, hh⟩ := hB
  refine wp_region_any hm (wpAny_of_heldAny (md := .any) (S := fun w' => w.drew.grownBy w' (some g)) _ _ _ _ ?_)
  have := heldAny_lexI (md := .any) (P := P) (ops := l.toArray) (Q := Q) (S := fun w' => w.drew.grownBy w' (some g)) (g := is.length + 2) (T := chainB .any l.toArray ia il is) (F := F) hF grown_stab hsel hl hQ
    (Fin := fun a' => wpC P l.toArray Q (fun w' => w.drew.grownBy w' (some g)) g (FinC P l.toArray Q (fun w' => w.drew.grownBy w' (some g)) w.heap.size obj oa ol) lc a' F)
    (fun listed a' hT hf w' hS hFw' => (held_chain (S := fun w' => w.drew.grownBy w' (some g)) (N := w.heap.size) grown_stab (fun w1 w2 h1 h2 => trans_by h1 h2) (fun w1 h1 => h1.size) hg hoa hol hsel hQ2 hal is lc listed a' F hlc hT hF hf).1 w' hS hFw')
    ks lh (Array.replicate l.toArray.size false) a hlh (new_last _ h0) hh h w.drew ⟨rfl, rfl, rfl, Nat.le_refl _, fun _ _ _ => rfl⟩ hFw
  rw [hlen] at this
  exact this
end Go.Proofs.Ytegibpepdndocaa
