import Derived.Deep.RegionWith
import Derived.Test.YtbgcbolalbjepabDrawYq
import Derived.Test.YtbgcbolalbjepabHeldAq
import Derived.Test.YtbgcbolalbjepabRdBq
import Derived.Test.YtbgcbolalbjepabVec8q
namespace Go.Proofs.Ytbgcbolalbjepab
open Go Go.RowKit

/- A region whose order is open and in which one call draws from a reader (block g): loads come first (they give the same value in every order), then a chain of calls, each of which waits for the one ahead of it, with the making of one variable anywhere between, then the store. -/
abbrev ptr (b : Nat) : Value := .pointer (some ⟨b, 0, none⟩)
theorem trans_by {a b c : World} {r : Option Nat} (h : a.grownBy b r) (k : b.grownBy c r) : a.grownBy c r :=
  ⟨k.os.trans h.os, k.tape.trans h.tape, k.output.trans h.output, Nat.le_trans h.size k.size, fun i hi hn => (k.block i (Nat.lt_of_lt_of_le hi h.size) hn).trans (h.block i hi hn)⟩
section
variable {P : Program} {ops : Array Oper} {Q : Exit → Act → World → Prop} {md : Region.Mode} {S : World → Prop}
def headI (md : Region.Mode) (ops : Array Oper) (T : Array Bool → Bool) : List Nat → Array Bool → Bool
  | [], listed => T listed
  | k :: ks, listed => (Region.ready md ops listed).contains k && Region.free md ops listed k && decide (k < ops.size - 1) && headI md ops T ks (listed.setIfInBounds k true)
theorem heldAny_lexI {g : Nat} {T : Array Bool → Bool} {F : World → Prop} (hstabF : ∀ w1 w2, F w1 → Below w1.heap.size w1 w2 → F w2) (hstab : ∀ w w', S w → Below w.heap.size w w' → S w') (hsel : Region.noSelect ops = true) (hl : lastWaits md ops = true)
    (hQ : ∀ c a w (d : Option Tmp) (v : Value), Q (.panic c) (a.put d v) w → Q (.panic c) a w) {Fin : Act → Prop}
    (hfin : ∀ listed a, T listed = true → Fin a → ∀ w, S w → F w → heldAny P md ops Q S g listed a w) :
    ∀ (ks : List Nat) (l : List Oper) (listed : Array Bool) (a : Act), ks.map (fun k => ops[k]?) = l.map some → listed.getD (ops.size - 1) true = false →
    headI md ops T ks listed = true → wpHeld P ops S Fin l a → ∀ w, S w → F w → heldAny P md ops Q S (ks.length + g) listed a w
  | [], [], listed, a, _, hu, hB, h => by simpa using hfin listed a (by simpa [headI] using hB) h
  | [], _ :: _, _, _, hm, _, _, _ => by simp at hm
  | _ :: _, [], _, _, hm, _, _, _ => by simp at hm
  | k :: ks, o :: l, listed, a, hm, hu, hB, h => by
    simp only [List.map_cons, List.cons.injEq] at hm
    obtain ⟨h0, hm⟩ := hm
    simp only [headI, Bool.and_eq_true, decide_eq_true_eq] at hB
    obtain ⟨⟨⟨hr, hf⟩, hk⟩, hB'⟩ := hB
    have hkl : k ≠ ops.size - 1 := by omega
    have hr' : k ∈ Region.ready md ops listed := by simpa using hr
    obtain ⟨v, hy, hK⟩ := h
    rw [List.length_cons, show ks.length + 1 + g = (ks.length + g) + 1 by omega]
    intro w hS hFw
    exact heldAny_first (last := ops.size - 1) (F := F) hstab h0 (Region.noSelect_spec hsel) (fun c a w => hQ c a w _ _) hkl (by omega) (lastWaits_spec hl hk) (ks.length + g) listed a hstabF hu
      (Region.free_spec h0 hf) hr' hy
      (fun w hS hFw => heldAny_lexI hstabF hstab hsel hl hQ hfin ks l _ _ hm (by rw [getD_set_ne true hkl]; exact hu) hB' hK w hS hFw) w hS hFw
theorem wp_put {oi oj : Oper} {v : Value} (hap : oi.apart ops oj = true) (hsj : ∀ cs b, oj.op ≠ .select cs b)
    (hQ : ∀ c a w (d : Option Tmp) (v : Value), Q (.panic c) a w → Q (.panic c) (a.put d v) w) {K : Act → World → Prop} {a : Act} {w : World}
    (h : oj.wp P a w K Q) : oj.wp P (a.put oi.dst v) w (fun a' w' => ∃ a0, a' = a0.put oi.dst v ∧ K a0 w') Q := by
  obtain ⟨h1, h2, h3⟩ := Oper.apart_spec hap
  unfold Oper.wp at *
  rw [execOp_put oj hsj a oi.dst v h1]
  generalize (execOp a.eval oj).run P w = r at *
  cases r with
  | ok n w' =>
    cases n <;> simp only [Oper.upon] at h ⊢
    case value u => exact ⟨_, Act.put_comm a v u h2, h⟩
    case skip => exact ⟨_, Act.put_comm a v undef h2, h⟩
    case defer d => exact ⟨_, by rw [Act.put_defers, Act.put_comm _ v undef h2], h⟩
    case enter f args =>
      refine Calls.mono h fun e w'' he => ?_
      cases e with
      | returned u => exact ⟨_, Act.put_comm a v u h2, he⟩
      | panicked c => exact hQ _ _ _ _ _ he
      | outgrown => exact he
    case row row args => exact Rows.mono h fun u w'' he => ⟨_, Act.put_comm a v u h2, he⟩
  | halt x w' =>
    cases x <;> simp only [Oper.upon] at h ⊢
    case panic u => exact hQ _ _ _ _ _ h
def Stab (F : World → Prop) : Prop := ∀ w1 w2, F w1 → Below w1.heap.size w1 w2 → F w2
def wpC (P : Program) (ops : Array Oper) (Q : Exit → Act → World → Prop) (S : World → Prop) (g : Nat) (Fin : Act → (World → Prop) → Prop) : List Oper → Act → (World → Prop) → Prop
  | [], a, F => Fin a F
  | o :: rest, a, F => ∀ w, S w → F w → o.wp P a w (fun a' w' => w.grownBy w' (some g) ∧ ∃ F', Stab F' ∧ F' w' ∧ wpC P ops Q S g Fin rest a' F') Q
def chainB (md : Region.Mode) (ops : Array Oper) (ia il : Nat) : List Nat → Array Bool → Bool
  | [], listed => decide (Region.ready md ops listed = [ia]) && decide (Region.ready md ops (listed.setIfInBounds ia true) = [il]) && seenB ops.size ((listed.setIfInBounds ia true).setIfInBounds il true) && ((ops[il]?).map (·.guard.isNone)).getD false && ((ops[ia]?).map (·.guard.isNone)).getD false
  | i :: is, listed => decide (Region.ready md ops listed = [i, ia]) && decide (Region.ready md ops (listed.setIfInBounds ia true) = [i]) && decide (i ≠ ia) && ((ops[i]?).map (·.guard.isNone)).getD false && ((ops[ia]?).map (·.guard.isNone)).getD false &&
      ((ops[ia]?).map fun x => ((ops[i]?).map (x.apart ops ·)).getD false).getD false && chainB md ops ia il is (listed.setIfInBounds i true)
theorem want_none {o : Oper} (h : o.guard.isNone = true) (y : Nat → Option Bool) : Region.wanted o y = true := by
  unfold Region.wanted
  cases hg : o.guard with
  | none => rfl
  | some x => rw [hg] at h; cases h
/- what is left to do behind the chain: the variable, the store -/
def FinC (P : Program) (ops : Array Oper) (Q : Exit → Act → World → Prop) (S : World → Prop) (N : Nat) (obj : Obj) (oa ol : Oper) (a : Act) (F : World → Prop) : Prop :=
  ∀ b w, S w → F w → N ≤ b → w.heap[b]? = some obj → wpList P ops Q [ol] (a.put oa.dst (ptr b)) w
theorem held_chain {g N ia il : Nat} {obj : Obj} {oa ol : Oper} (hstab : ∀ w w', S w → Below w.heap.size w w' → S w') (hby : ∀ w w', S w → w.grownBy w' (some g) → S w') (hN : ∀ w, S w → N ≤ w.heap.size) (hgN : g < N)
    (hoa : ops[ia]? = some oa) (hol : ops[il]? = some ol) (hsel : Region.noSelect ops = true)
    (hQ : ∀ c a w (d : Option Tmp) (v : Value), Q (.panic c) a w → Q (.panic c) (a.put d v) w)
    (hal : ∀ (a : Act) (w : World) (K : Value → World → Prop), K (ptr w.heap.size) (w.alloc obj) → VGo P K ((execOp a.eval oa).run P w)) :
    ∀ (is : List Nat) (l : List Oper) (listed : Array Bool) (a : Act) (F : World → Prop), is.map (fun k => ops[k]?) = l.map some → chainB md ops ia il is listed = true → Stab F → wpC P ops Q S g (FinC P ops Q S N obj oa ol) l a F →
    (∀ w, S w → F w → heldAny P md ops Q S (is.length + 2) listed a w) ∧ (∀ b w, S w → F w → N ≤ b → w.heap[b]? = some obj → heldAny P md ops Q S (is.length + 1) (listed.setIfInBounds ia true) (a.put oa.dst (ptr b)) w)
  | [], _ :: _, _, _, _, hm, _, _, _ => by simp at hm
  | _ :: _, [], _, _, _, hm, _, _, _ => by simp at hm
  | [], [], listed, a, F, _, hB, hF, h => by
    simp only [chainB, Bool.and_eq_true, decide_eq_true_eq] at hB
    obtain ⟨⟨⟨⟨hr, hr2⟩, hs⟩, hgl⟩, hga⟩ := hB
    simp only [hol, hoa, Option.map_some, Option.getD_some] at hgl hga
    have second : ∀ b w, S w → F w → N ≤ b → w.heap[b]? = some obj → heldAny P md ops Q S 1 (listed.setIfInBounds ia true) (a.put oa.dst (ptr b)) w := fun b w hS hFw hb hob => by
      refine ⟨by rw [hr2]; simp, hS, fun w2 => F w2 ∧ w2.heap[b]? = some obj, fun w1 w2 h1 k => ⟨hF _ _ h1.1 k, ?_⟩, ⟨hFw, hob⟩, fun w1 hS1 hF1 i hi => ?_⟩
      · have hlt : b < w1.heap.size := (Array.getElem?_eq_some_iff.1 h1.2).1
        rw [k.block _ hlt]; exact h1.2
      · rw [hr2] at hi
        have hin : i = il := by simpa using hi
        subst hin
        have hw := h b w1 hS1 hF1.1 hb hF1.2
        have hw2 : wpOp P ops Q i (wpList P ops Q []) (a.put oa.dst (ptr b)) w1 := by unfold wpOp; simp only [hol]; exact hw
        exact wpOp_mono (fun a' w' h' => ⟨fun q hq => seenB_spec hs hq, h'⟩) hw2
    refine ⟨fun w hS hFw => ?_, second⟩
    refine ⟨by rw [hr]; simp, hS, F, hF, hFw, fun w1 hS1 hF1 i hi => ?_⟩
    rw [hr] at hi
    have hin : i = ia := by simpa using hi
    subst hin
    unfold wpOp
    simp only [hoa, want_none hga, if_true]
    have hb1 : Below w1.heap.size w1 (w1.alloc obj) := (Below.refl _ _).alloc (Nat.le_refl _) _
    refine .inl (upon_VGo (hal a w1 _ ⟨rfl, rfl⟩) (second _ _ (hstab _ _ hS1 hb1) (hF _ _ hF1 hb1) (hN _ hS1) ?_))
    show (w1.heap.push obj)[w1.heap.size]? = some obj
    simp
  | i :: is, o :: l, listed, a, F, hm, hB, hF, h => by
    simp only [List.map_cons, List.cons.injEq] at hm
    obtain ⟨h0, hm⟩ := hm
    simp only [chainB, Bool.and_eq_true, decide_eq_true_eq] at hB
    obtain ⟨⟨⟨⟨⟨⟨hr, hr2⟩, hne⟩, hgi⟩, hga⟩, hap⟩, hB'⟩ := hB
    simp only [hoa, h0, Option.map_some, Option.getD_some] at hgi hga hap
    have keep : ∀ {b : Nat} {w w' : World}, w.grownBy w' (some g) → N ≤ b → w.heap[b]? = some obj → w'.heap[b]? = some obj := fun hg hb hob => by
      have hlt := (Array.getElem?_eq_some_iff.1 hob).1
      rw [hg.block _ hlt (by simp; omega)]; exact hob
    have second : ∀ b w, S w → F w → N ≤ b → w.heap[b]? = some obj → heldAny P md ops Q S (is.length + 1 + 1) (listed.setIfInBounds ia true) (a.put oa.dst (ptr b)) w := fun b w hS hFw hb hob => by
      refine ⟨by rw [hr2]; simp, hS, fun w2 => F w2 ∧ w2.heap[b]? = some obj, fun w1 w2 h1 k => ⟨hF _ _ h1.1 k, ?_⟩, ⟨hFw, hob⟩, fun w1 hS1 hF1 j hj => ?_⟩
      · have hlt : b < w1.heap.size := (Array.getElem?_eq_some_iff.1 h1.2).1
        rw [k.block _ hlt]; exact h1.2
      · rw [hr2] at hj
        have hin : j = i := by simpa using hj
        subst hin
        unfold wpOp
        simp only [h0, want_none hgi, if_true]
        refine .inl (Oper.wp_mono (fun a' w' h' => ?_) (wp_put hap (fun cs b' => Region.noSelect_spec hsel j o cs b' h0) hQ (v := ptr b) (h w1 hS1 hF1.1)))
        obtain ⟨a0, rfl, hgr, F', hF', hFw', hC⟩ := h'
        have ih := (held_chain hstab hby hN hgN hoa hol hsel hQ hal is l (listed.setIfInBounds j true) a0 F' hm hB' hF' hC).2 b w' (hby _ _ hS1 hgr) hFw' hb (keep hgr hb hF1.2)
        rw [Array.setIfInBounds_comm _ _ hne] at ih
        exact ih
    refine ⟨fun w hS hFw => ?_, second⟩
    refine ⟨by rw [hr]; simp, hS, F, hF, hFw, fun w1 hS1 hF1 j hj => ?_⟩
    rw [hr] at hj
    have hin : j = i ∨ j = ia := by simpa using hj
    rcases hin with rfl | rfl
    · unfold wpOp
      simp only [h0, want_none hgi, if_true]
      refine .inl (Oper.wp_mono (fun a' w' h' => ?_) (h w1 hS1 hF1))
      obtain ⟨hgr, F', hF', hFw', hC⟩ := h'
      exact (held_chain hstab hby hN hgN hoa hol hsel hQ hal is l (listed.setIfInBounds j true) a' F' hm hB' hF' hC).1 w' (hby _ _ hS1 hgr) hFw'
    · unfold wpOp
      simp only [hoa, want_none hga, if_true]
      have hb1 : Below w1.heap.size w1 (w1.alloc obj) := (Below.refl _ _).alloc (Nat.le_refl _) _
      refine .inl (upon_VGo (hal a w1 _ ⟨rfl, rfl⟩) (second _ _ (hstab _ _ hS1 hb1) (hF _ _ hF1 hb1) (hN _ hS1) ?_))
      show (w1.heap.push obj)[w1.heap.size]? = some obj
      simp
end
def heldCB (ops : Array Oper) (ks is : List Nat) (ia il : Nat) : Bool :=
  Region.noSelect ops && lastWaits .any ops && decide (0 < ops.size) && decide (ks.length + (is.length + 2) = ops.size) && headI .any ops (chainB .any ops ia il is) ks (Array.replicate ops.size false)
theorem wp_region_heldC {P : Program} {Q : Exit → Act → World → Prop} {id : Nat} {a : Act} {w : World} {l lh lc : List Oper} {oa ol : Oper} (ks is : List Nat) (ia il g : Nat) (hm : P.follows .mixedOrders = true) (hB : heldCB l.toArray ks is ia il = true)
    (hlh : ks.map (fun k => l.toArray[k]?) = lh.map some) (hlc : is.map (fun k => l.toArray[k]?) = lc.map some) (hoa : l.toArray[ia]? = some oa) (hol : l.toArray[il]? = some ol)
    (hQ : ∀ c a w (d : Option Tmp) (v : Value), Q (.panic c) (a.put d v) w → Q (.panic c) a w) (hQ2 : ∀ c a w (d : Option Tmp) (v : Value), Q (.panic c) a w → Q (.panic c) (a.put d v) w) (obj : Obj)
    (hal : ∀ (a : Act) (w : World) (K : Value → World → Prop), K (ptr w.heap.size) (w.alloc obj) → VGo P K ((execOp a.eval oa).run P w))
    (F : World → Prop) (hF : Stab F) (hFw : F w.drew) (hg : g < w.heap.size)
    (h : ∀ Fin : Act → Prop, (∀ a', wpC P l.toArray Q (fun w' => w.drew.grownBy w' (some g)) g (FinC P l.toArray Q (fun w' => w.drew.grownBy w' (some g)) w.heap.size obj oa ol) lc a' F → Fin a') →
      wpHeld P l.toArray (fun w' => w.drew.grownBy w' (some g)) Fin lh a) : (Code.region id l.toArray true).wp P Q a w := by
  replace h := h _ (fun _ hf => hf)
  simp only [heldCB, Bool.and_eq_true, decide_eq_true_eq] at hB
  obtain ⟨⟨⟨⟨hsel, hl⟩, h0⟩, hlen⟩, hh⟩ := hB
  refine wp_region_any hm (wpAny_of_heldAny (md := .any) (S := fun w' => w.drew.grownBy w' (some g)) _ _ _ _ ?_)
  have := heldAny_lexI (md := .any) (P := P) (ops := l.toArray) (Q := Q) (S := fun w' => w.drew.grownBy w' (some g)) (g := is.length + 2) (T := chainB .any l.toArray ia il is) (F := F) hF grown_stab hsel hl hQ
    (Fin := fun a' => wpC P l.toArray Q (fun w' => w.drew.grownBy w' (some g)) g (FinC P l.toArray Q (fun w' => w.drew.grownBy w' (some g)) w.heap.size obj oa ol) lc a' F)
    (fun listed a' hT hf w' hS hFw' => (held_chain (S := fun w' => w.drew.grownBy w' (some g)) (N := w.heap.size) grown_stab (fun w1 w2 h1 h2 => trans_by h1 h2) (fun w1 h1 => h1.size) hg hoa hol hsel hQ2 hal is lc listed a' F hlc hT hF hf).1 w' hS hFw')
    ks lh (Array.replicate l.toArray.size false) a hlh (new_last _ h0) hh h w.drew ⟨rfl, rfl, rfl, Nat.le_refl _, fun _ _ _ => rfl⟩ hFw
  rw [hlen] at this
  exact this
end Go.Proofs.Ytbgcbolalbjepab
namespace Go.Proofs.Ytbgcbolalbjepab
open Go Go.RowKit

/- the rule HeldC for a region of ten operations, as spec.l4Aimed has it; and one step of its chain -/
theorem upon_VGo2 {P : Program} {Q : Exit → Act → World → Prop} {o : Oper} {a : Act} {w : World} {K : Act → World → Prop}
    (h : VGo P (fun u x => K (a.put o.dst u) x) ((execOp a.eval o).run P w)) : o.wp P a w K Q := by
  unfold Oper.wp
  generalize (execOp a.eval o).run P w = r at *
  cases r with
  | ok n w' =>
    cases n <;> simp only [VGo, Oper.upon] at h ⊢
    case value u => exact h
    case skip => exact h
    case enter f args =>
      refine Calls.mono h fun e w'' he => ?_
      obtain ⟨u, rfl, hu⟩ := he
      exact hu
    all_goals exact h.elim
  | halt x w' => exact h.elim
theorem wpC_op {P : Program} {ops : Array Oper} {Q : Exit → Act → World → Prop} {S : World → Prop} {g : Nat} {Fin : Act → (World → Prop) → Prop} {o : Oper} {rest : List Oper} {a : Act} {F : World → Prop} (R : Value → World → Prop)
    (h : ∀ w, S w → F w → ∀ K : Value → World → Prop, (∀ v w', w.grownBy w' (some g) → R v w' → K v w') → VGo P K ((execOp a.eval o).run P w))
    (hr : ∀ v w', R v w' → ∃ F', Stab F' ∧ F' w' ∧ wpC P ops Q S g Fin rest (a.put o.dst v) F') : wpC P ops Q S g Fin (o :: rest) a F := fun w hS hF =>
  upon_VGo2 (h w hS hF _ fun v w' hg hR => ⟨hg, hr v w' hR⟩)
theorem wpC_nil {P : Program} {ops : Array Oper} {Q : Exit → Act → World → Prop} {S : World → Prop} {g : Nat} {Fin : Act → (World → Prop) → Prop} {a : Act} {F : World → Prop} (h : Fin a F) : wpC P ops Q S g Fin [] a F := h
theorem heldC10 {P : Program} {Q : Exit → Act → World → Prop} {id : Nat} {a : Act} {w : World} {o0 o1 o2 o3 o4 o5 o6 o7 o8 o9 : Oper} (g : Nat) (hm : P.follows .mixedOrders = true) (hB : heldCB [o0, o1, o2, o3, o4, o5, o6, o7, o8, o9].toArray [0, 1, 4, 5] [2, 3, 6, 7] 8 9 = true)
    (hQ : ∀ c a w (d : Option Tmp) (v : Value), Q (.panic c) (a.put d v) w → Q (.panic c) a w) (hQ2 : ∀ c a w (d : Option Tmp) (v : Value), Q (.panic c) a w → Q (.panic c) (a.put d v) w) (obj : Obj)
    (hal : ∀ (a : Act) (w : World) (K : Value → World → Prop), K (ptr w.heap.size) (w.alloc obj) → VGo P K ((execOp a.eval o8).run P w))
    (F : World → Prop) (hF : Stab F) (hFw : F w.drew) (hg : g < w.heap.size)
    (h : ∀ Fin : Act → Prop, (∀ a', wpC P [o0, o1, o2, o3, o4, o5, o6, o7, o8, o9].toArray Q (fun w' => w.drew.grownBy w' (some g)) g (FinC P [o0, o1, o2, o3, o4, o5, o6, o7, o8, o9].toArray Q (fun w' => w.drew.grownBy w' (some g)) w.heap.size obj o8 o9) [o2, o3, o6, o7] a' F → Fin a') →
      wpHeld P [o0, o1, o2, o3, o4, o5, o6, o7, o8, o9].toArray (fun w' => w.drew.grownBy w' (some g)) Fin [o0, o1, o4, o5] a) : (Code.region id [o0, o1, o2, o3, o4, o5, o6, o7, o8, o9].toArray true).wp P Q a w :=
  wp_region_heldC [0, 1, 4, 5] [2, 3, 6, 7] 8 9 g hm hB rfl rfl rfl rfl hQ hQ2 obj hal F hF hFw hg h
theorem byBelow {w w' : World} {r : Option Nat} (h : Below w.heap.size w w') : w.grownBy w' r := ⟨h.os, h.tape, h.output, h.size, fun i hi _ => h.block i hi⟩
theorem rd_stab {B g n c m : Nat} {A : Option Addr} : Stab fun w => Rd w B g A n c m := fun _ _ h k => h.below k
end Go.Proofs.Ytbgcbolalbjepab
namespace Go.Proofs.Ytbgcbolalbjepab
open Go.ChangeShapes Go.WideShapes Go.ChangeAt Go.RowKit
set_option linter.unusedSimpArgs false
set_option linter.unusedVariables false
set_option maxHeartbeats 4000000
set_option maxRecDepth 8000
attribute [-go_sem] run_eql_struct run_neq_struct
attribute [local go_sem] VGo_value VGo_skip VGo_enter eqlVec neqVec

/- sums and products of whatever numbers: some numbers -/
theorem l2PlusX (a b c x y z : Int) (w : World) : Calls Try.prog 88 #[.agg #[.int .i64 (a), .int .i64 (b), .int .i64 (c)], .agg #[.int .i64 (x), .int .i64 (y), .int .i64 (z)]] w fun e w' => ∃ p q r, e = .returned (.agg #[.int .i64 (p), .int .i64 (q), .int .i64 (r)]) ∧ Below w.heap.size w w' := by
  go_enter Try.func88, Try.ntmps88
  go_wp2
  refine bodyPost_ret (v := .agg #[.int .i64 _, .int .i64 _, .int .i64 _]) (by simp [results, Try.results88, go_sem]; exact ⟨rfl, rfl, rfl⟩) rfl ⟨_, _, _, rfl, ?_⟩
  repeat' (first | with_reducible exact lowRefl _ | with_reducible apply lowSet | with_reducible apply lowDrew | with_reducible apply lowDrewN | with_reducible apply lowAlloc | (with_reducible refine lowCall ?_ (by assumption)) | (show (_ : Nat) ≤ _; first | (simp; done) | (simp; omega) | omega))
theorem l2TimesX (a b c k : Int) (w : World) : Calls Try.prog 93 #[.agg #[.int .i64 (a), .int .i64 (b), .int .i64 (c)], .int .i64 k] w fun e w' => ∃ p q r, e = .returned (.agg #[.int .i64 (p), .int .i64 (q), .int .i64 (r)]) ∧ Below w.heap.size w w' := by
  go_enter Try.func93, Try.ntmps93
  go_wp2
  refine bodyPost_ret (v := .agg #[.int .i64 _, .int .i64 _, .int .i64 _]) (by simp [results, Try.results93, go_sem]; exact ⟨rfl, rfl, rfl⟩) rfl ⟨_, _, _, rfl, ?_⟩
  repeat' (first | with_reducible exact lowRefl _ | with_reducible apply lowSet | with_reducible apply lowDrew | with_reducible apply lowDrewN | with_reducible apply lowAlloc | (with_reducible refine lowCall ?_ (by assumption)) | (show (_ : Nat) ≤ _; first | (simp; done) | (simp; omega) | omega))
theorem l4BallOf_any (B g n c m : Nat) (A : Option Addr) (w : World) (hrd : Rd w B g A n c m) (hm : m ≤ 700000) :
    Calls Try.prog 82 #[.pointer (some ⟨g, 0, none⟩)] w fun e w' => ∃ x y z d, e = .returned (.agg #[.int .i64 (x), .int .i64 (y), .int .i64 (z), .int .i64 (d)]) ∧ Rd w' B g A n c (m + 10) ∧ w.grownBy w' (some g) := by
  have hg := hrd.lt
  have hlo := hrd.lo
  go_enter Try.func82, Try.ntmps82
  go_upto_region 1 with fail
  have hG : w.grownBy (w.alloc (.cells #[.int .i64 0, .int .i64 0, .int .i64 0, .int .i64 0] 60)) (some g) := by repeat' (first | with_reducible exact World.grownBy.refl _ _ | with_reducible assumption | with_reducible apply gAlloc | with_reducible apply gSetOwn | (with_reducible refine by_trans ?_ (by assumption)) | (show (_ : Nat) ≤ _; first | (simp; done) | (simp; omega) | omega))
  have B0 := Has.new w #[.int .i64 0, .int .i64 0, .int .i64 0, .int .i64 0] 60
  go_upto_region 2 with (first | ((go_at_call 95; refine (l2Vec_any B g n c _ A _ _ (by repeat' (first | with_reducible assumption | with_reducible apply Rd.alloc | with_reducible apply Rd.set | with_reducible apply Rd.drewN | (show (_ : Nat) ≤ _; first | omega | (simp; omega)) | (show _ ≠ _; first | omega | (simp; omega)))) (by omega) (by omega) (by omega)).mono ?_; rintro e w' ⟨xv, yv, zv, rfl, hrd, hby⟩; (try (have B0 := Has.by_ (b := w.heap.size) (by repeat' (first | with_reducible assumption | with_reducible apply Has.new | with_reducible apply Has.new1 | with_reducible apply Has.new2 | with_reducible apply Has.new3 | with_reducible apply Has.new4 | with_reducible apply Has.drew | with_reducible apply Has.drewN | with_reducible apply Has.alloc | with_reducible apply Has.same | with_reducible apply Has.other | (with_reducible show _ ≠ _; first | omega | (simp; done)))) hby (by omega); have C0 := Has.cell B0; have F0 := Has.frozen B0)); (try (have B1 := Has.by_ (b := w.heap.size + 1) (by repeat' (first | with_reducible assumption | with_reducible apply Has.new | with_reducible apply Has.new1 | with_reducible apply Has.new2 | with_reducible apply Has.new3 | with_reducible apply Has.new4 | with_reducible apply Has.drew | with_reducible apply Has.drewN | with_reducible apply Has.alloc | with_reducible apply Has.same | with_reducible apply Has.other | (with_reducible show _ ≠ _; first | omega | (simp; done)))) hby (by omega); have C1 := Has.cell B1; have F1 := Has.frozen B1)); (try (have BX := Has.by_ (b := bX) (by repeat' (first | with_reducible assumption | with_reducible apply Has.new | with_reducible apply Has.new1 | with_reducible apply Has.new2 | with_reducible apply Has.new3 | with_reducible apply Has.new4 | with_reducible apply Has.drew | with_reducible apply Has.drewN | with_reducible apply Has.alloc | with_reducible apply Has.same | with_reducible apply Has.other | (with_reducible show _ ≠ _; first | omega | (simp; done)))) hby (by omega); have CX := Has.cell BX; have FX := Has.frozen BX))); have hG2 : w.grownBy w' (some g) := (by repeat' (first | with_reducible exact World.grownBy.refl _ _ | with_reducible assumption | with_reducible apply gAlloc | with_reducible apply gSetOwn | (with_reducible refine by_trans ?_ (by assumption)) | (show (_ : Nat) ≤ _; first | (simp; done) | (simp; omega) | omega)))) | ((go_at_call 80; refine (pick_any B g n c _ A _ _ (by repeat' (first | with_reducible assumption | with_reducible apply Rd.alloc | with_reducible apply Rd.set | with_reducible apply Rd.drewN | (show (_ : Nat) ≤ _; first | omega | (simp; omega)) | (show _ ≠ _; first | omega | (simp; omega)))) (by omega) (by omega)).mono ?_; rintro e w' ⟨v, rfl, h0, h1, hrd, hby⟩; (try (have B0 := Has.by_ (b := w.heap.size) (by repeat' (first | with_reducible assumption | with_reducible apply Has.new | with_reducible apply Has.new1 | with_reducible apply Has.new2 | with_reducible apply Has.new3 | with_reducible apply Has.new4 | with_reducible apply Has.drew | with_reducible apply Has.drewN | with_reducible apply Has.alloc | with_reducible apply Has.same | with_reducible apply Has.other | (with_reducible show _ ≠ _; first | omega | (simp; done)))) hby (by omega); have C0 := Has.cell B0; have F0 := Has.frozen B0)); (try (have B1 := Has.by_ (b := w.heap.size + 1) (by repeat' (first | with_reducible assumption | with_reducible apply Has.new | with_reducible apply Has.new1 | with_reducible apply Has.new2 | with_reducible apply Has.new3 | with_reducible apply Has.new4 | with_reducible apply Has.drew | with_reducible apply Has.drewN | with_reducible apply Has.alloc | with_reducible apply Has.same | with_reducible apply Has.other | (with_reducible show _ ≠ _; first | omega | (simp; done)))) hby (by omega); have C1 := Has.cell B1; have F1 := Has.frozen B1)); (try (have BX := Has.by_ (b := bX) (by repeat' (first | with_reducible assumption | with_reducible apply Has.new | with_reducible apply Has.new1 | with_reducible apply Has.new2 | with_reducible apply Has.new3 | with_reducible apply Has.new4 | with_reducible apply Has.drew | with_reducible apply Has.drewN | with_reducible apply Has.alloc | with_reducible apply Has.same | with_reducible apply Has.other | (with_reducible show _ ≠ _; first | omega | (simp; done)))) hby (by omega); have CX := Has.cell BX; have FX := Has.frozen BX))); have hG3 : w.grownBy w' (some g) := (by repeat' (first | with_reducible exact World.grownBy.refl _ _ | with_reducible assumption | with_reducible apply gAlloc | with_reducible apply gSetOwn | (with_reducible refine by_trans ?_ (by assumption)) | (show (_ : Nat) ≤ _; first | (simp; done) | (simp; omega) | omega)))))
  refine (fun (k : ∀ (x1 y1 z1 d1 : Int) (wm : World), Has wm w.heap.size #[.int .i64 0, .int .i64 0, .int .i64 0, .int .i64 0] 60 → Has wm w'.heap.size #[.int .i64 (x1), .int .i64 (y1), .int .i64 (z1), .int .i64 (d1)] 60 → Rd wm B g A n c (m + 7) → w.grownBy wm (some g) → w.heap.size < w'.heap.size → g < w'.heap.size → Code.wp _ _ _ _ wm) => k ?x1 ?y1 ?z1 ?d1 _ ?g0 ?g1 ?g2 ?g3 ?g4 ?g5) ?main
  case g0 => (refine Has.as (by repeat' (first | with_reducible assumption | with_reducible apply Has.new | with_reducible apply Has.new1 | with_reducible apply Has.new2 | with_reducible apply Has.new3 | with_reducible apply Has.new4 | with_reducible apply Has.drew | with_reducible apply Has.drewN | with_reducible apply Has.alloc | with_reducible apply Has.same | with_reducible apply Has.other | (with_reducible show _ ≠ _; first | omega | (simp; done)))) ?_; first | (with_reducible rfl) | (simp only [List.setIfInBounds_toArray, List.set_cons_zero, List.set_cons_succ]; done) | (simp only [List.setIfInBounds_toArray, List.set_cons_zero, List.set_cons_succ]; rfl) | rfl | (simp; done))
  case g1 => (refine Has.as (by repeat' (first | with_reducible assumption | with_reducible apply Has.new | with_reducible apply Has.new1 | with_reducible apply Has.new2 | with_reducible apply Has.new3 | with_reducible apply Has.new4 | with_reducible apply Has.drew | with_reducible apply Has.drewN | with_reducible apply Has.alloc | with_reducible apply Has.same | with_reducible apply Has.other | (with_reducible show _ ≠ _; first | omega | (simp; done)))) ?_; first | (with_reducible rfl) | (simp only [List.setIfInBounds_toArray, List.set_cons_zero, List.set_cons_succ]; done) | (simp only [List.setIfInBounds_toArray, List.set_cons_zero, List.set_cons_succ]; rfl) | rfl | (simp; done))
  case g2 => exact Rd.mono (by repeat' (first | with_reducible assumption | with_reducible apply Rd.alloc | with_reducible apply Rd.set | with_reducible apply Rd.drewN | (show (_ : Nat) ≤ _; first | omega | (simp; omega)) | (show _ ≠ _; first | omega | (simp; omega)))) (by omega)
  case g3 => repeat' (first | with_reducible exact World.grownBy.refl _ _ | with_reducible assumption | with_reducible apply gAlloc | with_reducible apply gSetOwn | (with_reducible refine by_trans ?_ (by assumption)) | (show (_ : Nat) ≤ _; first | (simp; done) | (simp; omega) | omega))
  case g4 => exact Has.lt B0
  case g5 => exact hrd.lt
  clear B0 C0 F0 hG2 hG3 hG hby hrd h0 h1
  intro x1 y1 z1 d1 wm B0 BX hrd hG3 L1 L2
  generalize w'.heap.size = bX at *
  have C0 := Has.cell B0
  have F0 := Has.frozen B0
  have CX := Has.cell BX
  have FX := Has.frozen BX
  have N1 : ¬ w.heap.size = bX := by omega
  have N2 : ¬ bX = w.heap.size := by omega
  go_wp2_with (first | ((go_at_call 80; refine (pick_any B g n c _ A _ _ (by repeat' (first | with_reducible assumption | with_reducible apply Rd.alloc | with_reducible apply Rd.set | with_reducible apply Rd.drewN | (show (_ : Nat) ≤ _; first | omega | (simp; omega)) | (show _ ≠ _; first | omega | (simp; omega)))) (by omega) (by omega)).mono ?_; rintro e w' ⟨v, rfl, h0, h1, hrd, hby⟩; (try (have B0 := Has.by_ (b := w.heap.size) (by repeat' (first | with_reducible assumption | with_reducible apply Has.new | with_reducible apply Has.new1 | with_reducible apply Has.new2 | with_reducible apply Has.new3 | with_reducible apply Has.new4 | with_reducible apply Has.drew | with_reducible apply Has.drewN | with_reducible apply Has.alloc | with_reducible apply Has.same | with_reducible apply Has.other | (with_reducible show _ ≠ _; first | omega | (simp; done)))) hby (by omega); have C0 := Has.cell B0; have F0 := Has.frozen B0)); (try (have B1 := Has.by_ (b := w.heap.size + 1) (by repeat' (first | with_reducible assumption | with_reducible apply Has.new | with_reducible apply Has.new1 | with_reducible apply Has.new2 | with_reducible apply Has.new3 | with_reducible apply Has.new4 | with_reducible apply Has.drew | with_reducible apply Has.drewN | with_reducible apply Has.alloc | with_reducible apply Has.same | with_reducible apply Has.other | (with_reducible show _ ≠ _; first | omega | (simp; done)))) hby (by omega); have C1 := Has.cell B1; have F1 := Has.frozen B1)); (try (have BX := Has.by_ (b := bX) (by repeat' (first | with_reducible assumption | with_reducible apply Has.new | with_reducible apply Has.new1 | with_reducible apply Has.new2 | with_reducible apply Has.new3 | with_reducible apply Has.new4 | with_reducible apply Has.drew | with_reducible apply Has.drewN | with_reducible apply Has.alloc | with_reducible apply Has.same | with_reducible apply Has.other | (with_reducible show _ ≠ _; first | omega | (simp; done)))) hby (by omega); have CX := Has.cell BX; have FX := Has.frozen BX))); have hG4 : w.grownBy w' (some g) := (by repeat' (first | with_reducible exact World.grownBy.refl _ _ | with_reducible assumption | with_reducible apply gAlloc | with_reducible apply gSetOwn | (with_reducible refine by_trans ?_ (by assumption)) | (show (_ : Nat) ≤ _; first | (simp; done) | (simp; omega) | omega)))) | ((go_at_call 96; have hnum := num_rdP (w := w') (t := 3) (k := 3) (cap := 3) (cs := #[.int .i64 (0), .int .i64 (200), .int .i64 (201)]) (fun _ => True) hrd (by omega) (by omega) (by omega) ⟨⟨_, rfl, trivial⟩, ⟨_, rfl, trivial⟩, ⟨_, rfl, trivial⟩, trivial⟩ rfl; refine hnum.mono ?_; clear hnum; rintro e w' ⟨zn, rfl, hzn, hrd, hby⟩; (try (have B0 := Has.by_ (b := w.heap.size) (by repeat' (first | with_reducible assumption | with_reducible apply Has.new | with_reducible apply Has.new1 | with_reducible apply Has.new2 | with_reducible apply Has.new3 | with_reducible apply Has.new4 | with_reducible apply Has.drew | with_reducible apply Has.drewN | with_reducible apply Has.alloc | with_reducible apply Has.same | with_reducible apply Has.other | (with_reducible show _ ≠ _; first | omega | (simp; done)))) hby (by omega); have C0 := Has.cell B0; have F0 := Has.frozen B0)); (try (have B1 := Has.by_ (b := w.heap.size + 1) (by repeat' (first | with_reducible assumption | with_reducible apply Has.new | with_reducible apply Has.new1 | with_reducible apply Has.new2 | with_reducible apply Has.new3 | with_reducible apply Has.new4 | with_reducible apply Has.drew | with_reducible apply Has.drewN | with_reducible apply Has.alloc | with_reducible apply Has.same | with_reducible apply Has.other | (with_reducible show _ ≠ _; first | omega | (simp; done)))) hby (by omega); have C1 := Has.cell B1; have F1 := Has.frozen B1)); (try (have BX := Has.by_ (b := bX) (by repeat' (first | with_reducible assumption | with_reducible apply Has.new | with_reducible apply Has.new1 | with_reducible apply Has.new2 | with_reducible apply Has.new3 | with_reducible apply Has.new4 | with_reducible apply Has.drew | with_reducible apply Has.drewN | with_reducible apply Has.alloc | with_reducible apply Has.same | with_reducible apply Has.other | (with_reducible show _ ≠ _; first | omega | (simp; done)))) hby (by omega); have CX := Has.cell BX; have FX := Has.frozen BX))); have hG5 : w.grownBy w' (some g) := (by repeat' (first | with_reducible exact World.grownBy.refl _ _ | with_reducible assumption | with_reducible apply gAlloc | with_reducible apply gSetOwn | (with_reducible refine by_trans ?_ (by assumption)) | (show (_ : Nat) ≤ _; first | (simp; done) | (simp; omega) | omega)))))
  all_goals
    refine bodyPost_has (b := w.heap.size) (T := 60) (cs := #[.int .i64 _, .int .i64 _, .int .i64 _, .int .i64 _]) (by (refine Has.as (by repeat' (first | with_reducible assumption | with_reducible apply Has.new | with_reducible apply Has.new1 | with_reducible apply Has.new2 | with_reducible apply Has.new3 | with_reducible apply Has.new4 | with_reducible apply Has.drew | with_reducible apply Has.drewN | with_reducible apply Has.alloc | with_reducible apply Has.same | with_reducible apply Has.other | (with_reducible show _ ≠ _; first | omega | (simp; done)))) ?_; first | (with_reducible rfl) | (simp only [List.setIfInBounds_toArray, List.set_cons_zero, List.set_cons_succ]; done) | (simp only [List.setIfInBounds_toArray, List.set_cons_zero, List.set_cons_succ]; rfl) | rfl | (simp; done))) (fun wE hE => ?_) rfl ⟨_, _, _, _, rfl, ?_, ?_⟩
    · (have cE := Has.cell hE; simp only [results, Try.results82, go_sem]; (try simp [go_sem, cE]); done)
    · exact Rd.mono (by repeat' (first | with_reducible assumption | with_reducible apply Rd.alloc | with_reducible apply Rd.set | with_reducible apply Rd.drewN | (show (_ : Nat) ≤ _; first | omega | (simp; omega)) | (show _ ≠ _; first | omega | (simp; omega)))) (by omega)
    · repeat' (first | with_reducible exact World.grownBy.refl _ _ | with_reducible assumption | with_reducible apply gAlloc | with_reducible apply gSetOwn | (with_reducible refine by_trans ?_ (by assumption)) | (show (_ : Nat) ≤ _; first | (simp; done) | (simp; omega) | omega))
end Go.Proofs.Ytbgcbolalbjepab
namespace Go.Proofs.Ytbgcbolalbjepab
open Go.ChangeShapes Go.WideShapes Go.ChangeAt Go.RowKit
set_option linter.unusedSimpArgs false
set_option linter.unusedVariables false
set_option maxHeartbeats 4000000
set_option maxRecDepth 8000
attribute [-go_sem] run_eql_struct run_neq_struct
attribute [local go_sem] VGo_value VGo_skip VGo_enter eqlVec neqVec

theorem gDrew {a w : World} {r : Option Nat} {k : Nat} (h : a.grownBy w r) : a.grownBy (w.drewN k) r := ⟨h.os, h.tape, h.output, h.size, h.block⟩
theorem l4Aimed_any (B g n c m : Nat) (A : Option Addr) (a1 a2 a3 : Int) (w : World) (hrd : Rd w B g A n c m) (hm : m ≤ 600000) :
    Calls Try.prog 83 #[.pointer (some ⟨g, 0, none⟩), .agg #[.int .i64 (a1), .int .i64 (a2), .int .i64 (a3)]] w fun e w' => ∃ x y z p q r, e = .returned (.agg #[.int .i64 (x), .int .i64 (y), .int .i64 (z), .int .i64 (p), .int .i64 (q), .int .i64 (r)]) ∧ Rd w' B g A n c (m + 24) ∧ w.grownBy w' (some g) := by
  have hg := hrd.lt
  have hlo := hrd.lo
  go_enter Try.func83, Try.ntmps83
  go_upto_region 1 with fail
  refine (fun (k : ∀ wm, Has wm w.heap.size #[.int .i64 (a1), .int .i64 (a2), .int .i64 (a3)] 28 → Has wm (w.heap.size + 1) #[.int .i64 0, .int .i64 0, .int .i64 0, .int .i64 0, .int .i64 0, .int .i64 0] 44 → Rd wm B g A n c m → w.grownBy wm (some g) → Code.wp _ _ _ _ wm) => k _ ?_ ?_ ?_ ?_) ?_
  · (refine Has.as (by repeat' (first | with_reducible assumption | with_reducible apply Has.new | with_reducible apply Has.new1 | with_reducible apply Has.new2 | with_reducible apply Has.new3 | with_reducible apply Has.new4 | with_reducible apply Has.drew | with_reducible apply Has.drewN | with_reducible apply Has.alloc | with_reducible apply Has.same | with_reducible apply Has.other | (with_reducible show _ ≠ _; first | omega | (simp; done)))) ?_; first | (with_reducible rfl) | (simp only [List.setIfInBounds_toArray, List.set_cons_zero, List.set_cons_succ]; done) | (simp only [List.setIfInBounds_toArray, List.set_cons_zero, List.set_cons_succ]; rfl) | rfl | (simp; done))
  · (refine Has.as (by repeat' (first | with_reducible assumption | with_reducible apply Has.new | with_reducible apply Has.new1 | with_reducible apply Has.new2 | with_reducible apply Has.new3 | with_reducible apply Has.new4 | with_reducible apply Has.drew | with_reducible apply Has.drewN | with_reducible apply Has.alloc | with_reducible apply Has.same | with_reducible apply Has.other | (with_reducible show _ ≠ _; first | omega | (simp; done)))) ?_; first | (with_reducible rfl) | (simp only [List.setIfInBounds_toArray, List.set_cons_zero, List.set_cons_succ]; done) | (simp only [List.setIfInBounds_toArray, List.set_cons_zero, List.set_cons_succ]; rfl) | rfl | (simp; done))
  · exact Rd.mono (by repeat' (first | with_reducible assumption | with_reducible apply Rd.alloc | with_reducible apply Rd.set | with_reducible apply Rd.drewN | (show (_ : Nat) ≤ _; first | omega | (simp; omega)) | (show _ ≠ _; first | omega | (simp; omega)))) (by omega)
  · repeat' (first | with_reducible exact World.grownBy.refl _ _ | with_reducible assumption | with_reducible apply gAlloc | with_reducible apply gSetOwn | (with_reducible refine by_trans ?_ (by assumption)) | (show (_ : Nat) ≤ _; first | (simp; done) | (simp; omega) | omega))
  clear hrd
  obtain ⟨b1, hb1⟩ : ∃ b1, w.heap.size + 1 = b1 := ⟨_, rfl⟩
  rw [hb1]
  intro wm B0 B1 hrd hG
  go_upto_region 2 with (go_at_call 98; refine (l4Ray_any B g n c _ A _ hrd (by omega)).mono ?_; rintro e w' ⟨x, y, z, p, q, r, rfl, hrd2, hby⟩)
  have B02 := B0.by_ hby (by omega)
  have B12 := B1.by_ hby (by omega)
  have hG2 := by_trans hG hby
  refine (fun (k : ∀ wm, Has wm w.heap.size #[.int .i64 (a1), .int .i64 (a2), .int .i64 (a3)] 28 → Has wm b1 #[.int .i64 0, .int .i64 0, .int .i64 0, .int .i64 0, .int .i64 0, .int .i64 0] 44 → Has wm w'.heap.size #[.int .i64 (x), .int .i64 (y), .int .i64 (z), .int .i64 (p), .int .i64 (q), .int .i64 (r)] 44 → Rd wm B g A n c (m + 16) → w.grownBy wm (some g) → b1 < w'.heap.size → g < w'.heap.size → Code.wp _ _ _ _ wm) => k _ ?_ ?_ ?_ ?_ ?_ ?_ ?_) ?_
  · (refine Has.as (by repeat' (first | with_reducible assumption | with_reducible apply Has.new | with_reducible apply Has.new1 | with_reducible apply Has.new2 | with_reducible apply Has.new3 | with_reducible apply Has.new4 | with_reducible apply Has.drew | with_reducible apply Has.drewN | with_reducible apply Has.alloc | with_reducible apply Has.same | with_reducible apply Has.other | (with_reducible show _ ≠ _; first | omega | (simp; done)))) ?_; first | (with_reducible rfl) | (simp only [List.setIfInBounds_toArray, List.set_cons_zero, List.set_cons_succ]; done) | (simp only [List.setIfInBounds_toArray, List.set_cons_zero, List.set_cons_succ]; rfl) | rfl | (simp; done))
  · (refine Has.as (by repeat' (first | with_reducible assumption | with_reducible apply Has.new | with_reducible apply Has.new1 | with_reducible apply Has.new2 | with_reducible apply Has.new3 | with_reducible apply Has.new4 | with_reducible apply Has.drew | with_reducible apply Has.drewN | with_reducible apply Has.alloc | with_reducible apply Has.same | with_reducible apply Has.other | (with_reducible show _ ≠ _; first | omega | (simp; done)))) ?_; first | (with_reducible rfl) | (simp only [List.setIfInBounds_toArray, List.set_cons_zero, List.set_cons_succ]; done) | (simp only [List.setIfInBounds_toArray, List.set_cons_zero, List.set_cons_succ]; rfl) | rfl | (simp; done))
  · (refine Has.as (by repeat' (first | with_reducible assumption | with_reducible apply Has.new | with_reducible apply Has.new1 | with_reducible apply Has.new2 | with_reducible apply Has.new3 | with_reducible apply Has.new4 | with_reducible apply Has.drew | with_reducible apply Has.drewN | with_reducible apply Has.alloc | with_reducible apply Has.same | with_reducible apply Has.other | (with_reducible show _ ≠ _; first | omega | (simp; done)))) ?_; first | (with_reducible rfl) | (simp only [List.setIfInBounds_toArray, List.set_cons_zero, List.set_cons_succ]; done) | (simp only [List.setIfInBounds_toArray, List.set_cons_zero, List.set_cons_succ]; rfl) | rfl | (simp; done))
  · exact Rd.mono (by repeat' (first | with_reducible assumption | with_reducible apply Rd.alloc | with_reducible apply Rd.set | with_reducible apply Rd.drewN | (show (_ : Nat) ≤ _; first | omega | (simp; omega)) | (show _ ≠ _; first | omega | (simp; omega)))) (by omega)
  · repeat' (first | with_reducible exact World.grownBy.refl _ _ | with_reducible assumption | with_reducible apply gAlloc | with_reducible apply gSetOwn | (with_reducible refine by_trans ?_ (by assumption)) | (show (_ : Nat) ≤ _; first | (simp; done) | (simp; omega) | omega))
  · exact Has.lt B12
  · exact hrd2.lt
  clear B0 B1 B02 B12 hrd hrd2 hG hG2 hby
  generalize w'.heap.size = bX
  clear wm
  intro wm B0 B1 BX hrd hG L1 L2
  have C1 := Has.cell B1
  have F1 := Has.frozen B1
  have CX := Has.cell BX
  have FX := Has.frozen BX
  have N1 : ¬ b1 = bX := by omega
  have N2 : ¬ bX = b1 := by omega
  have N3 : ¬ w.heap.size = b1 := by omega
  have N4 : ¬ w.heap.size = bX := by omega
  go_upto_region 4 with (go_at_call 80; refine (pick_any B g n c _ A 3 _ hrd (by omega) (by omega)).mono ?_; rintro e w' ⟨v, rfl, h0, h1, hrd2, hby⟩; have B02 := B0.by_ hby (by omega); have B12 := B1.by_ hby (by omega); have BX2 := BX.by_ hby (by omega); have hG2 := by_trans hG hby; clear C1 F1 CX FX; have C1 := Has.cell B12; have F1 := Has.frozen B12; have CX := Has.cell BX2; have FX := Has.frozen BX2)
  · refine bodyPost_has (b := b1) (T := 44) (cs := #[.int .i64 _, .int .i64 _, .int .i64 _, .int .i64 _, .int .i64 _, .int .i64 _]) (by (refine Has.as (by repeat' (first | with_reducible assumption | with_reducible apply Has.new | with_reducible apply Has.new1 | with_reducible apply Has.new2 | with_reducible apply Has.new3 | with_reducible apply Has.new4 | with_reducible apply Has.drew | with_reducible apply Has.drewN | with_reducible apply Has.alloc | with_reducible apply Has.same | with_reducible apply Has.other | (with_reducible show _ ≠ _; first | omega | (simp; done)))) ?_; first | (with_reducible rfl) | (simp only [List.setIfInBounds_toArray, List.set_cons_zero, List.set_cons_succ]; done) | (simp only [List.setIfInBounds_toArray, List.set_cons_zero, List.set_cons_succ]; rfl) | rfl | (simp; done))) (fun wE hE => ?_) rfl ⟨_, _, _, _, _, _, rfl, ?_, ?_⟩
    · (have cE := Has.cell hE; simp only [results, Try.results83, go_sem]; (try simp [go_sem, cE]); done)
    · exact Rd.mono (by repeat' (first | with_reducible assumption | with_reducible apply Rd.alloc | with_reducible apply Rd.set | with_reducible apply Rd.drewN | (show (_ : Nat) ≤ _; first | omega | (simp; omega)) | (show _ ≠ _; first | omega | (simp; omega)))) (by omega)
    · repeat' (first | with_reducible exact World.grownBy.refl _ _ | with_reducible assumption | with_reducible apply gAlloc | with_reducible apply gSetOwn | (with_reducible refine by_trans ?_ (by assumption)) | (show (_ : Nat) ≤ _; first | (simp; done) | (simp; omega) | omega))
  · clear B0 B1 BX hrd hG hby C1 F1 CX FX
    have lX := Has.lt BX2
    have lg := hrd2.lt
    have hsz := hG2.size
    refine heldC10 g (by kernel_rfl) (by kernel_rfl) (fun _ _ _ d _ h => by cases d <;> exact h) (fun _ _ _ d _ h => by cases d <;> exact h) (.cells #[.int .i64 0, .int .i64 0, .int .i64 0] 28 (0, 0)) (fun a1 w1 K hK => by go_simp; exact hK) (fun w => Rd w B g A n c (m + 17)) rd_stab (hrd2.drewN 1) hrd2.lt ?_
    intro Fq hFq
    repeat (first | (refine wpHeld_skip (by rfl) ?_; ((try simp only [Act.put, List.setIfInBounds_toArray, List.set_cons_zero, List.set_cons_succ]))) | (refine wpHeld_run ?_ rfl ?_ ?_; rotate_left; (focus (intro w' hbq Kq hKq; go_simp; (try (rw [IntWalk.i64_in]; rotate_left; focus (constructor <;> omega))); first | exact hKq _ (Below.refl _ _) | ((have C0 := Has.cell ((B02.drew).by_ hbq (by omega))); (have CX := Has.cell ((BX2.drew).by_ hbq (by omega))); go_simp; exact hKq _ (Below.refl _ _)))); ((try simp only [Act.put, List.setIfInBounds_toArray, List.set_cons_zero, List.set_cons_succ]))))
    refine wpHeld_nil (hFq _ ?_)
    clear hFq
    refine wpC_op (fun v w => ∃ x y z, v = .agg #[.int .i64 (x), .int .i64 (y), .int .i64 (z)] ∧ Rd w B g A n c (m + 23)) (fun w1 hS1 hF1 K hK => ?_) ?_
    · go_simp
      go_at_call 95
      refine (l2Vec_any B g n c _ A _ _ hF1 (by omega) (by omega) (by omega)).mono ?_
      rintro e w2 ⟨x1, y1, z1, rfl, hrd4, hby4⟩
      exact back (hK _ _ hby4 ⟨_, _, _, rfl, hrd4⟩)
    rintro v1 w1 ⟨x1, y1, z1, rfl, hF1⟩
    refine ⟨fun w => Rd w B g A n c (m + 23), rd_stab, hF1, ?_⟩
    clear hF1 w1
    (try simp only [Act.put, List.setIfInBounds_toArray, List.set_cons_zero, List.set_cons_succ])
    refine wpC_op (fun v w => ∃ x y z, v = .agg #[.int .i64 (x), .int .i64 (y), .int .i64 (z)] ∧ Rd w B g A n c (m + 23)) (fun w1 hS1 hF1 K hK => ?_) ?_
    · go_simp
      go_at_call 88
      refine (l2PlusX _ _ _ _ _ _ _).mono ?_
      rintro e w2 ⟨x4, y4, z4, rfl, hbb⟩
      exact back (hK _ _ (byBelow hbb) ⟨_, _, _, rfl, hF1.below hbb⟩)
    rintro v1 w1 ⟨x2, y2, z2, rfl, hF1⟩
    refine ⟨fun w => Rd w B g A n c (m + 23), rd_stab, hF1, ?_⟩
    clear hF1 w1
    (try simp only [Act.put, List.setIfInBounds_toArray, List.set_cons_zero, List.set_cons_succ])
    refine wpC_op (fun v w => ∃ x y z, v = .agg #[.int .i64 (x), .int .i64 (y), .int .i64 (z)] ∧ Rd w B g A n c (m + 23)) (fun w1 hS1 hF1 K hK => ?_) ?_
    · go_simp
      go_at_call 93
      refine (l2TimesX _ _ _ _ _).mono ?_
      rintro e w2 ⟨x4, y4, z4, rfl, hbb⟩
      exact back (hK _ _ (byBelow hbb) ⟨_, _, _, rfl, hF1.below hbb⟩)
    rintro v1 w1 ⟨x3, y3, z3, rfl, hF1⟩
    refine ⟨fun w => Rd w B g A n c (m + 23), rd_stab, hF1, ?_⟩
    clear hF1 w1
    (try simp only [Act.put, List.setIfInBounds_toArray, List.set_cons_zero, List.set_cons_succ])
    refine wpC_op (fun v w => ∃ x y z, v = .agg #[.int .i64 (x), .int .i64 (y), .int .i64 (z)] ∧ Rd w B g A n c (m + 23)) (fun w1 hS1 hF1 K hK => ?_) ?_
    · go_simp
      go_at_call 88
      refine (l2PlusX _ _ _ _ _ _ _).mono ?_
      rintro e w2 ⟨x4, y4, z4, rfl, hbb⟩
      exact back (hK _ _ (byBelow hbb) ⟨_, _, _, rfl, hF1.below hbb⟩)
    rintro v1 w1 ⟨x5, y5, z5, rfl, hF1⟩
    refine ⟨fun w => Rd w B g A n c (m + 23), rd_stab, hF1, ?_⟩
    clear hF1 w1
    (try simp only [Act.put, List.setIfInBounds_toArray, List.set_cons_zero, List.set_cons_succ])
    refine wpC_nil ?_
    intro bY w1 hS1 hF1 hNY hBY
    have BY : Has w1 bY _ _ := hBY
    have B0 := (B02.drew).by_ hS1 (by omega)
    have B1 := (B12.drew).by_ hS1 (by omega)
    have BX := (BX2.drew).by_ hS1 (by omega)
    have hG : w.grownBy w1 (some g) := by_trans (gDrew hG2) hS1
    clear B02 B12 BX2 hG2 hS1 hBY hrd2
    have CY := Has.cell BY
    have FY := Has.frozen BY
    (try simp only [Act.put, List.setIfInBounds_toArray, List.set_cons_zero, List.set_cons_succ])
    have LY := Has.lt BY
    have N9 : w1.heap.size ≠ bY := by omega
    go_upto_region 6 with fail
    refine (fun (k : ∀ wm, Has wm b1 #[.int .i64 0, .int .i64 0, .int .i64 0, .int .i64 0, .int .i64 0, .int .i64 0] 44 → Has wm bX #[.int .i64 (x), .int .i64 (y), .int .i64 (z), .int .i64 (p), .int .i64 (q), .int .i64 (r)] 44 → Has wm bY #[.int .i64 (x5), .int .i64 (y5), .int .i64 (z5)] 28 → Has wm w1.heap.size #[.int .i64 0, .int .i64 0, .int .i64 0] 28 → Rd wm B g A n c (m + 23) → w.grownBy wm (some g) → bX < bY → g < bY → bY < w1.heap.size → Code.wp _ _ _ _ wm) => k _ ?_ ?_ ?_ ?_ ?_ ?_ ?_ ?_ ?_) ?_
    · (refine Has.as (by repeat' (first | with_reducible assumption | with_reducible apply Has.new | with_reducible apply Has.new1 | with_reducible apply Has.new2 | with_reducible apply Has.new3 | with_reducible apply Has.new4 | with_reducible apply Has.drew | with_reducible apply Has.drewN | with_reducible apply Has.alloc | with_reducible apply Has.same | with_reducible apply Has.other | (with_reducible show _ ≠ _; first | omega | (simp; done)))) ?_; first | (with_reducible rfl) | (simp only [List.setIfInBounds_toArray, List.set_cons_zero, List.set_cons_succ]; done) | (simp only [List.setIfInBounds_toArray, List.set_cons_zero, List.set_cons_succ]; rfl) | rfl | (simp; done))
    · (refine Has.as (by repeat' (first | with_reducible assumption | with_reducible apply Has.new | with_reducible apply Has.new1 | with_reducible apply Has.new2 | with_reducible apply Has.new3 | with_reducible apply Has.new4 | with_reducible apply Has.drew | with_reducible apply Has.drewN | with_reducible apply Has.alloc | with_reducible apply Has.same | with_reducible apply Has.other | (with_reducible show _ ≠ _; first | omega | (simp; done)))) ?_; first | (with_reducible rfl) | (simp only [List.setIfInBounds_toArray, List.set_cons_zero, List.set_cons_succ]; done) | (simp only [List.setIfInBounds_toArray, List.set_cons_zero, List.set_cons_succ]; rfl) | rfl | (simp; done))
    · (refine Has.as (by repeat' (first | with_reducible assumption | with_reducible apply Has.new | with_reducible apply Has.new1 | with_reducible apply Has.new2 | with_reducible apply Has.new3 | with_reducible apply Has.new4 | with_reducible apply Has.drew | with_reducible apply Has.drewN | with_reducible apply Has.alloc | with_reducible apply Has.same | with_reducible apply Has.other | (with_reducible show _ ≠ _; first | omega | (simp; done)))) ?_; first | (with_reducible rfl) | (simp only [List.setIfInBounds_toArray, List.set_cons_zero, List.set_cons_succ]; done) | (simp only [List.setIfInBounds_toArray, List.set_cons_zero, List.set_cons_succ]; rfl) | rfl | (simp; done))
    · have h := Has.new (((w1.setCell ⟨bY, 0, none⟩ (.int .i64 x5)).setCell ⟨bY, 1, none⟩ (.int .i64 y5)).setCell ⟨bY, 2, none⟩ (.int .i64 z5)) #[.int .i64 0, .int .i64 0, .int .i64 0] 28
      have e : (((w1.setCell ⟨bY, 0, none⟩ (.int .i64 x5)).setCell ⟨bY, 1, none⟩ (.int .i64 y5)).setCell ⟨bY, 2, none⟩ (.int .i64 z5)).heap.size = w1.heap.size := by simp
      rw [e] at h
      exact h
    · exact Rd.mono (by repeat' (first | with_reducible assumption | with_reducible apply Rd.alloc | with_reducible apply Rd.set | with_reducible apply Rd.drewN | (show (_ : Nat) ≤ _; first | omega | (simp; omega)) | (show _ ≠ _; first | omega | (simp; omega)))) (by omega)
    · repeat' (first | with_reducible exact World.grownBy.refl _ _ | with_reducible assumption | with_reducible apply gAlloc | with_reducible apply gSetOwn | (with_reducible refine by_trans ?_ (by assumption)) | (show (_ : Nat) ≤ _; first | (simp; done) | (simp; omega) | omega))
    · omega
    · omega
    · exact Has.lt BY
    clear B0 B1 BX BY CY FY hF1 hG hNY LY N9
    generalize w1.heap.size = bZ
    clear w1
    intro wm B1 BX BY BZ hrd hG L3 L4 L5
    have C1 := Has.cell B1
    have F1 := Has.frozen B1
    have CX := Has.cell BX
    have FX := Has.frozen BX
    have CY := Has.cell BY
    have CZ := Has.cell BZ
    have N5 : ¬ bX = bY := by omega
    have N6 : ¬ bY = bX := by omega
    by_cases hz : x5 = 0 ∧ y5 = 0 ∧ z5 = 0
    · obtain ⟨rfl, rfl, rfl⟩ := hz
      go_wp2
      refine bodyPost_has (b := b1) (T := 44) (cs := #[.int .i64 _, .int .i64 _, .int .i64 _, .int .i64 _, .int .i64 _, .int .i64 _]) (by (refine Has.as (by repeat' (first | with_reducible assumption | with_reducible apply Has.new | with_reducible apply Has.new1 | with_reducible apply Has.new2 | with_reducible apply Has.new3 | with_reducible apply Has.new4 | with_reducible apply Has.drew | with_reducible apply Has.drewN | with_reducible apply Has.alloc | with_reducible apply Has.same | with_reducible apply Has.other | (with_reducible show _ ≠ _; first | omega | (simp; done)))) ?_; first | (with_reducible rfl) | (simp only [List.setIfInBounds_toArray, List.set_cons_zero, List.set_cons_succ]; done) | (simp only [List.setIfInBounds_toArray, List.set_cons_zero, List.set_cons_succ]; rfl) | rfl | (simp; done))) (fun wE hE => ?_) rfl ⟨_, _, _, _, _, _, rfl, ?_, ?_⟩
      · (have cE := Has.cell hE; simp only [results, Try.results83, go_sem]; (try simp [go_sem, cE]); done)
      · exact Rd.mono (by repeat' (first | with_reducible assumption | with_reducible apply Rd.alloc | with_reducible apply Rd.set | with_reducible apply Rd.drewN | (show (_ : Nat) ≤ _; first | omega | (simp; omega)) | (show _ ≠ _; first | omega | (simp; omega)))) (by omega)
      · repeat' (first | with_reducible exact World.grownBy.refl _ _ | with_reducible assumption | with_reducible apply gAlloc | with_reducible apply gSetOwn | (with_reducible refine by_trans ?_ (by assumption)) | (show (_ : Nat) ≤ _; first | (simp; done) | (simp; omega) | omega))
    · have hzz := eq3f hz
      by_cases hv : Vok x5 y5 z5 200
      · have HV := Lib.hid hv
        have HV2 := Lib.hid (show Vok x5 y5 z5 1073741824 by unfold Vok at *; omega)
        clear hv hz
        go_wp2_with (first | (go_at_call 57; (with_reducible refine (svecOk_yes _ _ _ _ _ (by omega) (by omega) HV.out).mono ?_); rintro e w' ⟨rfl, hbq⟩; have B12 := B1.below hbq; have BX2 := BX.below hbq; have BY2 := BY.below hbq; have hrd3 := hrd.below hbq; have hG3 := by_trans hG (byBelow hbq); clear CX CY FX C1 F1; have C1 := Has.cell B12; have F1 := Has.frozen B12; have CX := Has.cell BX2; have FX := Has.frozen BX2; have CY := Has.cell BY2) | (go_at_call 99; (with_reducible refine (l2Short_any _ _ _ _ HV2.out).mono ?_); rintro e w9 ⟨rfl, hbq⟩; have B13 := B12.below hbq; have BX3 := BX2.below hbq; have hrd4 := hrd3.below hbq; have hG4 := by_trans hG3 (byBelow hbq); clear CX CY FX C1 F1; have C1 := Has.cell B13; have F1 := Has.frozen B13; have CX := Has.cell BX3; have FX := Has.frozen BX3))
        refine bodyPost_has (b := b1) (T := 44) (cs := #[.int .i64 _, .int .i64 _, .int .i64 _, .int .i64 _, .int .i64 _, .int .i64 _]) (by (refine Has.as (by repeat' (first | with_reducible assumption | with_reducible apply Has.new | with_reducible apply Has.new1 | with_reducible apply Has.new2 | with_reducible apply Has.new3 | with_reducible apply Has.new4 | with_reducible apply Has.drew | with_reducible apply Has.drewN | with_reducible apply Has.alloc | with_reducible apply Has.same | with_reducible apply Has.other | (with_reducible show _ ≠ _; first | omega | (simp; done)))) ?_; first | (with_reducible rfl) | (simp only [List.setIfInBounds_toArray, List.set_cons_zero, List.set_cons_succ]; done) | (simp only [List.setIfInBounds_toArray, List.set_cons_zero, List.set_cons_succ]; rfl) | rfl | (simp; done))) (fun wE hE => ?_) rfl ⟨_, _, _, _, _, _, rfl, ?_, ?_⟩
        · (have cE := Has.cell hE; simp only [results, Try.results83, go_sem]; (try simp [go_sem, cE]); done)
        · exact Rd.mono (by repeat' (first | with_reducible assumption | with_reducible apply Rd.alloc | with_reducible apply Rd.set | with_reducible apply Rd.drewN | (show (_ : Nat) ≤ _; first | omega | (simp; omega)) | (show _ ≠ _; first | omega | (simp; omega)))) (by omega)
        · repeat' (first | with_reducible exact World.grownBy.refl _ _ | with_reducible assumption | with_reducible apply gAlloc | with_reducible apply gSetOwn | (with_reducible refine by_trans ?_ (by assumption)) | (show (_ : Nat) ≤ _; first | (simp; done) | (simp; omega) | omega))
      · have HV := Lib.hid hv
        clear hv hz
        go_wp2_with ((go_at_call 57; (with_reducible refine (svecOk_no _ _ _ _ _ (by omega) (by omega) HV.out).mono ?_); rintro e w' ⟨rfl, hbq⟩; have B12 := B1.below hbq; have BX2 := BX.below hbq; have BY2 := BY.below hbq; have hrd3 := hrd.below hbq; have hG3 := by_trans hG (byBelow hbq); clear CX CY FX C1 F1; have C1 := Has.cell B12; have F1 := Has.frozen B12; have CX := Has.cell BX2; have FX := Has.frozen BX2; have CY := Has.cell BY2))
        refine bodyPost_has (b := b1) (T := 44) (cs := #[.int .i64 _, .int .i64 _, .int .i64 _, .int .i64 _, .int .i64 _, .int .i64 _]) (by (refine Has.as (by repeat' (first | with_reducible assumption | with_reducible apply Has.new | with_reducible apply Has.new1 | with_reducible apply Has.new2 | with_reducible apply Has.new3 | with_reducible apply Has.new4 | with_reducible apply Has.drew | with_reducible apply Has.drewN | with_reducible apply Has.alloc | with_reducible apply Has.same | with_reducible apply Has.other | (with_reducible show _ ≠ _; first | omega | (simp; done)))) ?_; first | (with_reducible rfl) | (simp only [List.setIfInBounds_toArray, List.set_cons_zero, List.set_cons_succ]; done) | (simp only [List.setIfInBounds_toArray, List.set_cons_zero, List.set_cons_succ]; rfl) | rfl | (simp; done))) (fun wE hE => ?_) rfl ⟨_, _, _, _, _, _, rfl, ?_, ?_⟩
        · (have cE := Has.cell hE; simp only [results, Try.results83, go_sem]; (try simp [go_sem, cE]); done)
        · exact Rd.mono (by repeat' (first | with_reducible assumption | with_reducible apply Rd.alloc | with_reducible apply Rd.set | with_reducible apply Rd.drewN | (show (_ : Nat) ≤ _; first | omega | (simp; omega)) | (show _ ≠ _; first | omega | (simp; omega)))) (by omega)
        · repeat' (first | with_reducible exact World.grownBy.refl _ _ | with_reducible assumption | with_reducible apply gAlloc | with_reducible apply gSetOwn | (with_reducible refine by_trans ?_ (by assumption)) | (show (_ : Nat) ≤ _; first | (simp; done) | (simp; omega) | omega))
end Go.Proofs.Ytbgcbolalbjepab
namespace Go.Proofs.Ytbgcbolalbjepab
open Go.ChangeShapes Go.WideShapes Go.ChangeAt Go.RowKit
set_option linter.unusedSimpArgs false
set_option linter.unusedVariables false
set_option maxHeartbeats 4000000
set_option maxRecDepth 8000
attribute [-go_sem] run_eql_struct run_neq_struct
attribute [local go_sem] VGo_value VGo_skip VGo_enter eqlVec neqVec

theorem drawBallCut_any (A : Option Addr) (n c : Nat) (w : World) (hnc : n ≤ c) (hcap : c ≤ 9223372036854775807) (hcode : Code w w.heap.size A n) :
    Calls Try.prog 50 #[.slice A n c] w fun e w' => ∃ a b c3 d p q r x y z, e = .returned (.tuple #[.agg #[.int .i64 (a), .int .i64 (b), .int .i64 (c3), .int .i64 (d)], .agg #[.int .i64 (p), .int .i64 (q), .int .i64 (r), .int .i64 (x), .int .i64 (y), .int .i64 (z)]]) ∧ Below w.heap.size w w' := by
  go_enter Try.func50, Try.ntmps50
  go_upto_region 1 with fail
  have B0 : Has ((w.alloc (.cells #[.int .i64 0, .int .i64 0, .int .i64 0, .int .i64 0] 60)).alloc (.cells #[.int .i64 0, .int .i64 0, .int .i64 0, .int .i64 0, .int .i64 0, .int .i64 0] 44)) w.heap.size #[.int .i64 0, .int .i64 0, .int .i64 0, .int .i64 0] 60 := by (refine Has.as (by repeat' (first | with_reducible assumption | with_reducible apply Has.new | with_reducible apply Has.new1 | with_reducible apply Has.new2 | with_reducible apply Has.new3 | with_reducible apply Has.new4 | with_reducible apply Has.drew | with_reducible apply Has.drewN | with_reducible apply Has.alloc | with_reducible apply Has.same | with_reducible apply Has.other | (with_reducible show _ ≠ _; first | omega | (simp; done)))) ?_; first | (with_reducible rfl) | (simp only [List.setIfInBounds_toArray, List.set_cons_zero, List.set_cons_succ]; done) | (simp only [List.setIfInBounds_toArray, List.set_cons_zero, List.set_cons_succ]; rfl) | rfl | (simp; done))
  have B1 : Has ((w.alloc (.cells #[.int .i64 0, .int .i64 0, .int .i64 0, .int .i64 0] 60)).alloc (.cells #[.int .i64 0, .int .i64 0, .int .i64 0, .int .i64 0, .int .i64 0, .int .i64 0] 44)) (w.heap.size + 1) #[.int .i64 0, .int .i64 0, .int .i64 0, .int .i64 0, .int .i64 0, .int .i64 0] 44 := by (refine Has.as (by repeat' (first | with_reducible assumption | with_reducible apply Has.new | with_reducible apply Has.new1 | with_reducible apply Has.new2 | with_reducible apply Has.new3 | with_reducible apply Has.new4 | with_reducible apply Has.drew | with_reducible apply Has.drewN | with_reducible apply Has.alloc | with_reducible apply Has.same | with_reducible apply Has.other | (with_reducible show _ ≠ _; first | omega | (simp; done)))) ?_; first | (with_reducible rfl) | (simp only [List.setIfInBounds_toArray, List.set_cons_zero, List.set_cons_succ]; done) | (simp only [List.setIfInBounds_toArray, List.set_cons_zero, List.set_cons_succ]; rfl) | rfl | (simp; done))
  have hcode2 := CodeK.alloc (CodeK.alloc hcode (.cells #[.int .i64 0, .int .i64 0, .int .i64 0, .int .i64 0] 60)) (.cells #[.int .i64 0, .int .i64 0, .int .i64 0, .int .i64 0, .int .i64 0, .int .i64 0] 44)
  have hS : ((w.alloc (.cells #[.int .i64 0, .int .i64 0, .int .i64 0, .int .i64 0] 60)).alloc (.cells #[.int .i64 0, .int .i64 0, .int .i64 0, .int .i64 0, .int .i64 0, .int .i64 0] 44)).heap.size = w.heap.size + 1 + 1 := by simp
  have hL : Below w.heap.size w ((w.alloc (.cells #[.int .i64 0, .int .i64 0, .int .i64 0, .int .i64 0] 60)).alloc (.cells #[.int .i64 0, .int .i64 0, .int .i64 0, .int .i64 0, .int .i64 0, .int .i64 0] 44)) := by repeat' (first | with_reducible exact lowRefl _ | with_reducible apply lowSet | with_reducible apply lowDrew | with_reducible apply lowDrewN | with_reducible apply lowAlloc | (with_reducible refine lowCall ?_ (by assumption)) | (show (_ : Nat) ≤ _; first | (simp; done) | (simp; omega) | omega))
  clear hcode
  generalize hW : (w.alloc (.cells #[.int .i64 0, .int .i64 0, .int .i64 0, .int .i64 0] 60)).alloc (.cells #[.int .i64 0, .int .i64 0, .int .i64 0, .int .i64 0, .int .i64 0, .int .i64 0] 44) = w0 at *
  clear hW
  go_upto_region 2 with (go_at_call 78; refine (open_any _ _ _ _ hnc hcap hcode2).mono ?_; rintro e w1 ⟨g, n', rfl, hrd, hlow⟩)
  have hlo := hrd.lo
  have B01 := B0.below hlow
  have B11 := B1.below hlow
  have hL1 := lowCall hL hlow
  clear hcode2 hL hlow B0 B1
  go_upto_region 3 with (go_at_call 82; refine (l4BallOf_any w0.heap.size g n' c _ A _ hrd (by omega)).mono ?_; rintro e w' ⟨a, b, c3, d, rfl, hrd2, hby⟩; have B02 := B01.by_ hby (by omega); have B12 := B11.by_ hby (by omega); have hL2 := lowBy hL1 hby hL1.size (by omega))
  refine (fun (k : ∀ wm, Has wm w.heap.size #[.int .i64 0, .int .i64 0, .int .i64 0, .int .i64 0] 60 → Has wm (w.heap.size + 1) #[.int .i64 0, .int .i64 0, .int .i64 0, .int .i64 0, .int .i64 0, .int .i64 0] 44 → Has wm w'.heap.size #[.int .i64 (a), .int .i64 (b), .int .i64 (c3), .int .i64 (d)] 60 → Rd wm w0.heap.size g A n' c 10 → Below w.heap.size w wm → w.heap.size + 1 < w'.heap.size → g < w'.heap.size → Code.wp _ _ _ _ wm) => k _ ?_ ?_ ?_ ?_ ?_ ?_ ?_) ?_
  · (refine Has.as (by repeat' (first | with_reducible assumption | with_reducible apply Has.new | with_reducible apply Has.new1 | with_reducible apply Has.new2 | with_reducible apply Has.new3 | with_reducible apply Has.new4 | with_reducible apply Has.drew | with_reducible apply Has.drewN | with_reducible apply Has.alloc | with_reducible apply Has.same | with_reducible apply Has.other | (with_reducible show _ ≠ _; first | omega | (simp; done)))) ?_; first | (with_reducible rfl) | (simp only [List.setIfInBounds_toArray, List.set_cons_zero, List.set_cons_succ]; done) | (simp only [List.setIfInBounds_toArray, List.set_cons_zero, List.set_cons_succ]; rfl) | rfl | (simp; done))
  · (refine Has.as (by repeat' (first | with_reducible assumption | with_reducible apply Has.new | with_reducible apply Has.new1 | with_reducible apply Has.new2 | with_reducible apply Has.new3 | with_reducible apply Has.new4 | with_reducible apply Has.drew | with_reducible apply Has.drewN | with_reducible apply Has.alloc | with_reducible apply Has.same | with_reducible apply Has.other | (with_reducible show _ ≠ _; first | omega | (simp; done)))) ?_; first | (with_reducible rfl) | (simp only [List.setIfInBounds_toArray, List.set_cons_zero, List.set_cons_succ]; done) | (simp only [List.setIfInBounds_toArray, List.set_cons_zero, List.set_cons_succ]; rfl) | rfl | (simp; done))
  · (refine Has.as (by repeat' (first | with_reducible assumption | with_reducible apply Has.new | with_reducible apply Has.new1 | with_reducible apply Has.new2 | with_reducible apply Has.new3 | with_reducible apply Has.new4 | with_reducible apply Has.drew | with_reducible apply Has.drewN | with_reducible apply Has.alloc | with_reducible apply Has.same | with_reducible apply Has.other | (with_reducible show _ ≠ _; first | omega | (simp; done)))) ?_; first | (with_reducible rfl) | (simp only [List.setIfInBounds_toArray, List.set_cons_zero, List.set_cons_succ]; done) | (simp only [List.setIfInBounds_toArray, List.set_cons_zero, List.set_cons_succ]; rfl) | rfl | (simp; done))
  · exact Rd.mono (by repeat' (first | with_reducible assumption | with_reducible apply Rd.alloc | with_reducible apply Rd.set | with_reducible apply Rd.drewN | (show (_ : Nat) ≤ _; first | omega | (simp; omega)) | (show _ ≠ _; first | omega | (simp; omega)))) (by omega)
  · repeat' (first | with_reducible exact lowRefl _ | with_reducible apply lowSet | with_reducible apply lowDrew | with_reducible apply lowDrewN | with_reducible apply lowAlloc | (with_reducible refine lowCall ?_ (by assumption)) | (show (_ : Nat) ≤ _; first | (simp; done) | (simp; omega) | omega))
  · exact Has.lt B12
  · exact hrd2.lt
  clear B01 B11 B02 B12 hrd hrd2 hL1 hL2 hby
  intro wm B0 B1 BX hrd hL L1 L2
  generalize w'.heap.size = bX at *
  have hgl := hL.size
  go_upto_region 5 with (first | (go_at_call 80; (with_reducible refine (pick_any w0.heap.size g n' c _ A 14 _ hrd (by omega) (by omega)).mono ?_); rintro e w' ⟨v, rfl, h0, h1, hrd2, hby⟩; have B02 := B0.by_ hby (by omega); have B12 := B1.by_ hby (by omega); have BX2 := BX.by_ hby (by omega); have hL2 := lowBy hL hby hL.size (by omega)) | (go_at_call 80; (with_reducible refine (pick_any w0.heap.size g n' c _ A 3 _ hrd2 (by omega) (by omega)).mono ?_); rintro e w2 ⟨v2, rfl, h2, h3, hrd3, hby2⟩; have B03 := B02.by_ hby2 (by omega); have B13 := B12.by_ hby2 (by omega); have hL3 := lowBy hL2 hby2 hL2.size (by omega); have C0 := Has.cell B03; have F0 := Has.frozen B03; have C1 := Has.cell B13; have F1 := Has.frozen B13))
  · refine bodyPost_hasP (b := w.heap.size) (b' := w.heap.size + 1) (T := 60) (T' := 44) (cs := #[.int .i64 _, .int .i64 _, .int .i64 _, .int .i64 _]) (cs' := #[.int .i64 _, .int .i64 _, .int .i64 _, .int .i64 _, .int .i64 _, .int .i64 _]) (by (refine Has.as (by repeat' (first | with_reducible assumption | with_reducible apply Has.new | with_reducible apply Has.new1 | with_reducible apply Has.new2 | with_reducible apply Has.new3 | with_reducible apply Has.new4 | with_reducible apply Has.drew | with_reducible apply Has.drewN | with_reducible apply Has.alloc | with_reducible apply Has.same | with_reducible apply Has.other | (with_reducible show _ ≠ _; first | omega | (simp; done)))) ?_; first | (with_reducible rfl) | (simp only [List.setIfInBounds_toArray, List.set_cons_zero, List.set_cons_succ]; done) | (simp only [List.setIfInBounds_toArray, List.set_cons_zero, List.set_cons_succ]; rfl) | rfl | (simp; done))) (by (refine Has.as (by repeat' (first | with_reducible assumption | with_reducible apply Has.new | with_reducible apply Has.new1 | with_reducible apply Has.new2 | with_reducible apply Has.new3 | with_reducible apply Has.new4 | with_reducible apply Has.drew | with_reducible apply Has.drewN | with_reducible apply Has.alloc | with_reducible apply Has.same | with_reducible apply Has.other | (with_reducible show _ ≠ _; first | omega | (simp; done)))) ?_; first | (with_reducible rfl) | (simp only [List.setIfInBounds_toArray, List.set_cons_zero, List.set_cons_succ]; done) | (simp only [List.setIfInBounds_toArray, List.set_cons_zero, List.set_cons_succ]; rfl) | rfl | (simp; done))) (fun wE hE hE2 => ?_) rfl ⟨_, _, _, _, _, _, _, _, _, _, rfl, ?_⟩
    · have cE := Has.cell hE
      have cE2 := Has.cell hE2
      simp only [results, Try.results50, go_sem]
      (try simp [go_sem, cE, cE2])
      done
    · repeat' (first | with_reducible exact lowRefl _ | with_reducible apply lowSet | with_reducible apply lowDrew | with_reducible apply lowDrewN | with_reducible apply lowAlloc | (with_reducible refine lowCall ?_ (by assumption)) | (show (_ : Nat) ≤ _; first | (simp; done) | (simp; omega) | omega))
  · have B0 := B02
    have B1 := B12
    have BX := BX2
    have hL := hL2
    have hrd : Rd w'.drew w0.heap.size g A n' c _ := ⟨hrd2.lo, hrd2.len, hrd2.cap, hrd2.cells, hrd2.code⟩
    clear B02 B12 BX2 hL2 hrd2
    have CX := Has.cell BX
    have lX := Has.lt BX
    have hsz := hL.size
    go_region_with (go_at_call 83; (with_reducible refine (l4Aimed_any w0.heap.size g n' c _ A _ _ _ _ hrd (by omega)).mono ?_); rintro e w3 ⟨x, y, z, p, q, r, rfl, hrd3, hbyd⟩; have hby3 : w'.grownBy w3 (some g) := ⟨hbyd.os, hbyd.tape, hbyd.output, hbyd.size, hbyd.block⟩; have B03 := B0.by_ hby3 (by omega); have B13 := B1.by_ hby3 (by omega); have BX3 := BX.by_ hby3 (by omega); have hL3 := lowBy hL hby3 (by omega) (by omega); have CX3 := Has.cell BX3; have C03 := Has.cell B03; have F03 := Has.frozen B03; have C13 := Has.cell B13; have F13 := Has.frozen B13)
    all_goals
      go_wp2
      refine bodyPost_hasP (b := w.heap.size) (b' := w.heap.size + 1) (T := 60) (T' := 44) (cs := #[.int .i64 _, .int .i64 _, .int .i64 _, .int .i64 _]) (cs' := #[.int .i64 _, .int .i64 _, .int .i64 _, .int .i64 _, .int .i64 _, .int .i64 _]) (by (refine Has.as (by repeat' (first | with_reducible assumption | with_reducible apply Has.new | with_reducible apply Has.new1 | with_reducible apply Has.new2 | with_reducible apply Has.new3 | with_reducible apply Has.new4 | with_reducible apply Has.drew | with_reducible apply Has.drewN | with_reducible apply Has.alloc | with_reducible apply Has.same | with_reducible apply Has.other | (with_reducible show _ ≠ _; first | omega | (simp; done)))) ?_; first | (with_reducible rfl) | (simp only [List.setIfInBounds_toArray, List.set_cons_zero, List.set_cons_succ]; done) | (simp only [List.setIfInBounds_toArray, List.set_cons_zero, List.set_cons_succ]; rfl) | rfl | (simp; done))) (by (refine Has.as (by repeat' (first | with_reducible assumption | with_reducible apply Has.new | with_reducible apply Has.new1 | with_reducible apply Has.new2 | with_reducible apply Has.new3 | with_reducible apply Has.new4 | with_reducible apply Has.drew | with_reducible apply Has.drewN | with_reducible apply Has.alloc | with_reducible apply Has.same | with_reducible apply Has.other | (with_reducible show _ ≠ _; first | omega | (simp; done)))) ?_; first | (with_reducible rfl) | (simp only [List.setIfInBounds_toArray, List.set_cons_zero, List.set_cons_succ]; done) | (simp only [List.setIfInBounds_toArray, List.set_cons_zero, List.set_cons_succ]; rfl) | rfl | (simp; done))) (fun wE hE hE2 => ?_) rfl ⟨_, _, _, _, _, _, _, _, _, _, rfl, ?_⟩
      · have cE := Has.cell hE
        have cE2 := Has.cell hE2
        simp only [results, Try.results50, go_sem]
        (try simp [go_sem, cE, cE2])
        done
      · repeat' (first | with_reducible exact lowRefl _ | with_reducible apply lowSet | with_reducible apply lowDrew | with_reducible apply lowDrewN | with_reducible apply lowAlloc | (with_reducible refine lowCall ?_ (by assumption)) | (show (_ : Nat) ≤ _; first | (simp; done) | (simp; omega) | omega))
end Go.Proofs.Ytbgcbolalbjepab
