
import Derived.StillTailTactics
import Derived.WalkKit
import Derived.Below
import Derived.Deep.Draws
namespace Go.Proofs.Ytegibpepdndocaa
open Go Go.RowKit

/- A region whose order is open, each operation of which, but the last ones, gives the same value in every world in which what was there at the region's beginning is as it was, and leaves all that is there as it is: new memory may come. Then one walk in the order of the text serves for every order. -/
def Back (K : Value → World → Prop) (e : Ending) (w : World) : Prop := ∃ u, e = .returned u ∧ K u w
def VGo (P : Program) (K : Value → World → Prop) : Result Next → Prop
  | .ok (.value u) w' => K u w'
  | .ok .skip w' => K undef w'
  | .ok (.enter f args) w' => Calls P f args w' (Back K)
  | _ => False

theorem back {K : Value → World → Prop} {u : Value} {w : World} (h : K u w) : Back K (.returned u) w := ⟨u, rfl, h⟩
theorem VGo_value (P : Program) (K : Value → World → Prop) (u : Value) (w : World) : VGo P K (.ok (.value u) w) = K u w := rfl
theorem VGo_skip (P : Program) (K : Value → World → Prop) (w : World) : VGo P K (.ok .skip w) = K undef w := rfl
theorem VGo_enter (P : Program) (K : Value → World → Prop) (f : FuncId) (args : Array Value) (w : World) : VGo P K (.ok (.enter f args) w) = Calls P f args w (Back K) := rfl

section
variable {P : Program} {ops : Array Oper} {Q : Exit → Act → World → Prop} {md : Region.Mode} {S : World → Prop}

def Vyld (P : Program) (ops : Array Oper) (S : World → Prop) (o : Oper) (v : Value) (a : Act) : Prop :=
  (Region.wanted o (yielded ops a.tmps) = true ∧ ∀ w, S w → ∀ K : Value → World → Prop, (∀ w', Below w.heap.size w w' → K v w') → VGo P K ((execOp a.eval o).run P w)) ∨
  (Region.wanted o (yielded ops a.tmps) = false ∧ v = undef)

theorem Vyld.wpOp {i : Nat} {o : Oper} {v : Value} {a : Act} (hi : ops[i]? = some o) (hy : Vyld P ops S o v a)
    {K : Act → World → Prop} {w : World} (hS : S w) (h : ∀ w', Below w.heap.size w w' → K (a.put o.dst v) w') : wpOp P ops Q i K a w := by
  unfold Go.wpOp
  simp only [hi]
  rcases hy with ⟨hw, hv⟩ | ⟨hw, rfl⟩
  · simp only [hw, if_true]
    refine .inl ?_
    have h1 := hv w hS (fun u w' => u = v ∧ Below w.heap.size w w') (fun w' hb => ⟨rfl, hb⟩)
    unfold Oper.wp
    generalize (execOp a.eval o).run P w = r at *
    cases r with
    | ok n w' =>
      cases n <;> simp only [VGo] at h1 <;> simp only [Oper.upon]
      case value u => obtain ⟨rfl, hb⟩ := h1; exact h _ hb
      case skip => obtain ⟨rfl, hb⟩ := h1; exact h _ hb
      case enter f args => exact Calls.mono h1 fun e w'' ⟨u, he, hu, hb⟩ => by subst he; subst hu; exact h _ hb
    | halt x w' => simp only [VGo] at h1
  · simp only [hw, Bool.false_eq_true, if_false]
    exact h w (Below.refl _ _)

theorem Vyld.of_same {o : Oper} {v : Value} {a a' : Act} (hy : Vyld P ops S o v a) (he : execOp a'.eval o = execOp a.eval o)
    (hw : Region.wanted o (yielded ops a'.tmps) = Region.wanted o (yielded ops a.tmps)) : Vyld P ops S o v a' := by
  unfold Vyld at *
  rw [he, hw]
  exact hy

theorem wpOp_putV {j : Nat} {oi oj : Oper} {v : Value} (hj : ops[j]? = some oj) (hap : oi.apart ops oj = true)
    (hsi : ∀ cs b, oi.op ≠ .select cs b) (hsj : ∀ cs b, oj.op ≠ .select cs b)
    (hQ : ∀ c a w, Q (.panic c) (a.put oi.dst v) w → Q (.panic c) a w) {K : Act → World → Prop} {a : Act} {w : World}
    (hy : Vyld P ops S oi v a) (h : wpOp P ops Q j K (a.put oi.dst v) w) :
    wpOp P ops Q j (fun a' w' => Vyld P ops S oi v a' ∧ K (a'.put oi.dst v) w') a w := by
  obtain ⟨h1, h2, h3⟩ := Oper.apart_spec hap
  have keep : ∀ (a : Act), Vyld P ops S oi v a → ∀ u, Vyld P ops S oi v (a.put oj.dst u) := fun a hy u =>
    hy.of_same (execOp_put oi hsi a oj.dst u h3) (wanted_put oi a oj.dst u h3)
  have keepD : ∀ d, Vyld P ops S oi v { a with defers := d :: a.defers } := fun d => hy.of_same rfl rfl
  unfold wpOp at *
  simp only [hj] at *
  rw [wanted_put oj a oi.dst v h1] at h
  split
  · rename_i hw
    simp only [hw, if_true] at h
    rcases h with h | ⟨hasks, hlets⟩
    case inr => exact .inr ⟨by unfold Oper.asks at *; rw [execOp_put oj hsj a oi.dst v h1] at hasks; exact hasks, hlets⟩
    refine .inl ?_
    unfold Oper.wp at *
    rw [execOp_put oj hsj a oi.dst v h1] at h
    generalize (execOp a.eval oj).run P w = r at *
    cases r with
    | ok n w' =>
      cases n <;> simp only [Oper.upon] at h ⊢
      case value u => exact ⟨keep a hy u, by rw [← Act.put_comm a v u h2]; exact h⟩
      case skip => exact ⟨keep a hy _, by rw [← Act.put_comm a v undef h2]; exact h⟩
      case defer d =>
        refine ⟨keep _ (keepD d) _, ?_⟩
        rw [← Act.put_comm _ v undef h2, ← Act.put_defers]
        exact h
      case enter f args =>
        refine Calls.mono h fun e w'' he => ?_
        cases e with
        | returned u => exact ⟨keep a hy u, by rw [← Act.put_comm a v u h2]; exact he⟩
        | panicked c => exact hQ _ _ _ he
        | outgrown => exact he
      case row row args => exact Rows.mono h fun u w'' he => ⟨keep a hy u, by rw [← Act.put_comm a v u h2]; exact he⟩
    | halt x w' =>
      cases x <;> simp only [Oper.upon] at h ⊢
      case panic u => exact hQ _ _ _ h
  · rename_i hw
    simp only [hw] at h
    exact ⟨keep a hy _, by rw [← Act.put_comm a v undef h2]; exact h⟩

/- what is left of the region, in whatever order: in every world that meets S, and what has become true since -/
def heldAny (P : Program) (md : Region.Mode) (ops : Array Oper) (Q : Exit → Act → World → Prop) (S : World → Prop) : Nat → Array Bool → Act → World → Prop
  | 0, listed, a, w => (∀ k, k < ops.size → listed.getD k true = true) ∧ Q .normal a w
  | f + 1, listed, a, w => Region.ready md ops listed ≠ [] ∧ S w ∧ ∃ F : World → Prop, (∀ w1 w2, F w1 → Below w1.heap.size w1 w2 → F w2) ∧ F w ∧
      ∀ w1, S w1 → F w1 → ∀ i ∈ Region.ready md ops listed, wpOp P ops Q i (heldAny P md ops Q S f (listed.setIfInBounds i true)) a w1

theorem wpAny_of_heldAny : ∀ (f : Nat) (listed : Array Bool) (a : Act) (w : World), heldAny P md ops Q S f listed a w → wpAny P md ops Q f listed a w
  | 0, listed, a, w, h => by
    refine ⟨?_, h.2⟩
    rw [List.eq_nil_iff_forall_not_mem]
    intro j hj
    obtain ⟨h0, o, ho, _⟩ := mem_ready.1 hj
    have hlt : j < ops.size := (Array.getElem?_eq_some_iff.1 ho).1
    rw [h.1 j hlt] at h0
    cases h0
  | f + 1, listed, a, w, h => by
    obtain ⟨h1, hS, F, _, hF, hU⟩ := h
    exact ⟨fun h0 => absurd h0 h1, fun i hi => wpOp_mono (fun a' w' => wpAny_of_heldAny f _ a' w') (hU w hS hF i hi)⟩

theorem heldAny_first {i last : Nat} {oi : Oper} {v : Value} (hstab : ∀ w w', S w → Below w.heap.size w w' → S w') (hi : ops[i]? = some oi)
    (hsel : ∀ (j : Nat) (o : Oper) cs b, ops[j]? = some o → o.op ≠ .select cs b)
    (hQ : ∀ c a w, Q (.panic c) (a.put oi.dst v) w → Q (.panic c) a w) (hil : i ≠ last) (hlast : last < ops.size) (hwait : Region.waitsFor md ops last i = true) :
    ∀ (f : Nat) (listed : Array Bool) (a : Act) (F : World → Prop), (∀ w1 w2, F w1 → Below w1.heap.size w1 w2 → F w2) →
      listed.getD last true = false →
      (∀ j oj, ops[j]? = some oj → j ≠ i → listed.getD j true = false → (∀ e ∈ oj.after, Region.binds md e = true → e.on ≠ i) → oi.apart ops oj = true) →
      i ∈ Region.ready md ops listed → Vyld P ops S oi v a →
      (∀ w, S w → F w → heldAny P md ops Q S f (listed.setIfInBounds i true) (a.put oi.dst v) w) → ∀ w, S w → F w → heldAny P md ops Q S (f + 1) listed a w := by
  intro f
  induction f with
  | zero =>
    intro listed a F hF hun _ hr hy H w hS hFw
    have h0 := (H w hS hFw).1 last hlast
    rw [getD_set_ne true hil] at h0
    rw [hun] at h0
    cases h0
  | succ f ih =>
    intro listed a F hF hun hfree hr hy H w hS hFw
    refine ⟨fun h => (by rw [h] at hr; cases hr), hS, F, hF, hFw, fun w1 hS1 hF1 j hj => ?_⟩
    by_cases hji : j = i
    · subst hji
      exact hy.wpOp hi hS1 fun w' hb => H w' (hstab _ _ hS1 hb) (hF _ _ hF1 hb)
    · obtain ⟨hne, _, F2, hF2, hF2w, hU⟩ := H w1 hS1 hF1
      have h1 := hU w1 hS1 hF2w j (ready_mono hj hji)
      obtain ⟨hjun, oj, hoj, hall⟩ := mem_ready.1 hj
      have hiun := (mem_ready.1 hr).1
      have hnot : ∀ e ∈ oj.after, Region.binds md e = true → e.on ≠ i := fun e he hb heq => by
        have h1 := hall e he hb
        rw [heq, getD_both hiun] at h1
        cases h1
      have hjl : j ≠ last := by
        rintro rfl
        obtain ⟨ol, hol, e, he, hb, hon⟩ := Region.waitsFor_spec hwait
        have : ol = oj := Option.some.inj (hol.symm.trans hoj)
        subst this
        exact hnot e he hb hon
      have h2 := wpOp_putV hoj (hfree j oj hoj hji hjun hnot) (fun cs b => hsel i oi cs b hi) (fun cs b => hsel j oj cs b hoj) hQ hy h1
      have hfree' : ∀ k ok, ops[k]? = some ok → k ≠ i → (listed.setIfInBounds j true).getD k true = false →
          (∀ e ∈ ok.after, Region.binds md e = true → e.on ≠ i) → oi.apart ops ok = true := fun k ok hk hki hunk hno => by
        refine hfree k ok hk hki ?_ hno
        by_cases hjk : j = k
        · subst hjk; exact hjun
        · rw [getD_set_ne true hjk] at hunk; exact hunk
      have hun' : (listed.setIfInBounds j true).getD last true = false := by rw [getD_set_ne true hjl]; exact hun
      refine wpOp_mono (fun a' w' h3 => ?_) h2
      obtain ⟨hy', h4⟩ := h3
      rw [Array.setIfInBounds_comm _ _ (Ne.symm hji)] at h4
      cases f with
      | zero =>
        have h5 := h4.1 last hlast
        rw [getD_set_ne true hil, hun'] at h5
        cases h5
      | succ g =>
        obtain ⟨hne3, hS3, F3, hF3, hF3w, hU3⟩ := h4
        exact ih (listed.setIfInBounds j true) a' F3 hF3 hun' hfree' (ready_mono hr (Ne.symm hji)) hy'
          (fun w2 hS2 hF2 => ⟨hne3, hS2, F3, hF3, hF2, hU3⟩) w' hS3 hF3w

/- the operations in the order of the text -/
def wpHeld (P : Program) (ops : Array Oper) (S : World → Prop) (Fin : Act → Prop) : List Oper → Act → Prop
  | [], a => Fin a
  | o :: rest, a => ∃ v, Vyld P ops S o v a ∧ wpHeld P ops S Fin rest (a.put o.dst v)

theorem wpHeld_nil {Fin : Act → Prop} {a : Act} (h : Fin a) : wpHeld P ops S Fin [] a := h
theorem wpHeld_run {Fin : Act → Prop} {a : Act} {o : Oper} {rest : List Oper} (v : Value) (hw : Region.wanted o (yielded ops a.tmps) = true)
    (h : ∀ w, S w → ∀ K : Value → World → Prop, (∀ w', Below w.heap.size w w' → K v w') → VGo P K ((execOp a.eval o).run P w))
    (hr : wpHeld P ops S Fin rest (a.put o.dst v)) : wpHeld P ops S Fin (o :: rest) a := ⟨v, .inl ⟨hw, h⟩, hr⟩
theorem wpHeld_skip {Fin : Act → Prop} {a : Act} {o : Oper} {rest : List Oper} (hw : Region.wanted o (yielded ops a.tmps) = false)
    (hr : wpHeld P ops S Fin rest (a.put o.dst undef)) : wpHeld P ops S Fin (o :: rest) a := ⟨undef, .inr ⟨hw, rfl⟩, hr⟩

/- the last operation waits for all others -/
def lastWaits (md : Region.Mode) (ops : Array Oper) : Bool := (List.range (ops.size - 1)).all fun i => Region.waitsFor md ops (ops.size - 1) i
theorem lastWaits_spec {i : Nat} (h : lastWaits md ops = true) (hi : i < ops.size - 1) : Region.waitsFor md ops (ops.size - 1) i = true :=
  List.all_eq_true.1 h i (List.mem_range.2 hi)

/- the operations ahead of the tail may come up in the order of the text; T looks at the tail -/
def headB (md : Region.Mode) (ops : Array Oper) (T : Nat → Array Bool → Bool) : Nat → Nat → Array Bool → Bool
  | 0, k, listed => T k listed
  | f + 1, k, listed => (Region.ready md ops listed).contains k && Region.free md ops listed k && headB md ops T f (k + 1) (listed.setIfInBounds k true)
def seenB (n : Nat) (listed : Array Bool) : Bool := (List.range n).all fun k => listed.getD k true
theorem seenB_spec {n k : Nat} {listed : Array Bool} (h : seenB n listed = true) (hk : k < n) : listed.getD k true = true := List.all_eq_true.1 h k (List.mem_range.2 hk)
theorem seen_set {listed : Array Bool} (k : Nat) : (listed.setIfInBounds k true).getD k true = true := by
  rcases Nat.lt_or_ge k listed.size with h | h
  · simp [h]
  · simp [Array.getElem?_eq_none (show (listed.setIfInBounds k true).size ≤ k by simpa using h)]
theorem seen_keep {listed : Array Bool} {i k : Nat} (h : listed.getD k true = true) : (listed.setIfInBounds i true).getD k true = true := by
  by_cases e : i = k
  · subst e; exact seen_set i
  · rw [getD_set_ne true e]; exact h

theorem heldAny_lex {g : Nat} {T : Nat → Array Bool → Bool} (hstab : ∀ w w', S w → Below w.heap.size w w' → S w') (hsel : Region.noSelect ops = true) (hl : lastWaits md ops = true)
    (hQ : ∀ c a w (d : Option Tmp) (v : Value), Q (.panic c) (a.put d v) w → Q (.panic c) a w) {Fin : Act → Prop} {n : Nat} (hn : n < ops.size)
    (hfin : ∀ listed a, T n listed = true → Fin a → ∀ w, S w → heldAny P md ops Q S g listed a w) :
    ∀ (l : List Oper) (k : Nat) (listed : Array Bool) (a : Act), (∀ j, j < l.length → l[j]? = ops[k + j]?) → k + l.length = n → listed.getD (ops.size - 1) true = false →
    headB md ops T l.length k listed = true → wpHeld P ops S Fin l a → ∀ w, S w → heldAny P md ops Q S (l.length + g) listed a w
  | [], k, listed, a, _, hk, hu, hB, h => by
    have : k = n := by simpa using hk
    subst this
    simpa using hfin listed a (by simpa [headB] using hB) h
  | o :: l, k, listed, a, hlst, hk, hu, hB, h => by
    have h0 : ops[k]? = some o := by simpa using (hlst 0 (by simp)).symm
    simp only [List.length_cons, headB, Bool.and_eq_true] at hB
    obtain ⟨⟨hr, hf⟩, hB'⟩ := hB
    have hkn : k < n := by simp only [List.length_cons] at hk; omega
    have hkl : k ≠ ops.size - 1 := by omega
    have hr' : k ∈ Region.ready md ops listed := by simpa using hr
    obtain ⟨v, hy, hK⟩ := h
    rw [List.length_cons, show l.length + 1 + g = (l.length + g) + 1 by omega]
    intro w hS
    exact heldAny_first (last := ops.size - 1) (F := fun _ => True) hstab h0 (Region.noSelect_spec hsel) (fun c a w => hQ c a w _ _) hkl (by omega) (lastWaits_spec hl (by omega)) (l.length + g) listed a (fun _ _ _ _ => trivial) hu
      (Region.free_spec h0 hf) hr' hy
      (fun w hS _ => heldAny_lex hstab hsel hl hQ hn hfin l (k + 1) _ _ (fun j hj => by have := hlst (j + 1) (by simp; omega); simpa [Nat.add_assoc, Nat.add_comm 1 j] using this) (by simp only [List.length_cons] at hk; omega)
        (by rw [getD_set_ne true hkl]; exact hu) hB' hK w hS) w hS trivial

def tail1B (md : Region.Mode) (ops : Array Oper) (n : Nat) (listed : Array Bool) : Bool :=
  decide (Region.ready md ops listed = [n]) && decide (n + 1 = ops.size) && seenB n listed
def tail2B (md : Region.Mode) (ops : Array Oper) (n : Nat) (listed : Array Bool) : Bool :=
  decide (Region.ready md ops listed = [n]) && decide (n + 2 = ops.size) && seenB n listed && decide (Region.ready md ops (listed.setIfInBounds n true) = [n + 1])

theorem held_tail1 {n : Nat} {o : Oper} {listed : Array Bool} {a : Act} (ho : ops[n]? = some o) (hT : tail1B md ops n listed = true)
    (h : ∀ w, S w → wpList P ops Q [o] a w) (w : World) (hS : S w) : heldAny P md ops Q S 1 listed a w := by
  simp only [tail1B, Bool.and_eq_true, decide_eq_true_eq] at hT
  obtain ⟨⟨hr, hn⟩, hs⟩ := hT
  refine ⟨by rw [hr]; simp, hS, fun _ => True, fun _ _ _ _ => trivial, trivial, fun w1 hS1 _ i hi => ?_⟩
  rw [hr] at hi
  have hin : i = n := by simpa using hi
  subst hin
  have hw : wpOp P ops Q i (wpList P ops Q []) a w1 := by unfold wpOp; simp only [ho]; exact h w1 hS1
  refine wpOp_mono (fun a' w' h' => ⟨fun k hk => ?_, h'⟩) hw
  by_cases e : k = i
  · subst e; exact seen_set k
  · exact seen_keep (seenB_spec hs (by omega))

theorem held_tail2 {n : Nat} {oa o : Oper} {obj : Obj} {listed : Array Bool} {a : Act} {N : Nat} (hstab : ∀ w w', S w → Below w.heap.size w w' → S w') (hN : ∀ w, S w → N ≤ w.heap.size)
    (hoa : ops[n]? = some oa) (ho : ops[n + 1]? = some o) (hT : tail2B md ops n listed = true) (hg : Region.wanted oa (yielded ops a.tmps) = true)
    (hal : ∀ w, S w → ∀ K : Value → World → Prop, K (.pointer (some ⟨w.heap.size, 0, none⟩)) (w.alloc obj) → VGo P K ((execOp a.eval oa).run P w))
    (h : ∀ b w, S w → N ≤ b → w.heap[b]? = some obj → wpList P ops Q [o] (a.put oa.dst (.pointer (some ⟨b, 0, none⟩))) w) (w : World) (hS : S w) : heldAny P md ops Q S 2 listed a w := by
  simp only [tail2B, Bool.and_eq_true, decide_eq_true_eq] at hT
  obtain ⟨⟨⟨hr, hn⟩, hs⟩, hr2⟩ := hT
  refine ⟨by rw [hr]; simp, hS, fun _ => True, fun _ _ _ _ => trivial, trivial, fun w1 hS1 _ i hi => ?_⟩
  rw [hr] at hi
  have hin : i = n := by simpa using hi
  subst hin
  unfold wpOp
  simp only [hoa, hg, if_true]
  refine .inl ?_
  have h1 := hal w1 hS1 (fun u w' => u = .pointer (some ⟨w1.heap.size, 0, none⟩) ∧ w' = w1.alloc obj) ⟨rfl, rfl⟩
  have fin : ∀ w', w' = w1.alloc obj → heldAny P md ops Q S 1 (listed.setIfInBounds i true) (a.put oa.dst (.pointer (some ⟨w1.heap.size, 0, none⟩))) w' := by
    rintro w' rfl
    refine ⟨by rw [hr2]; simp, hstab _ _ hS1 ((Below.refl _ _).alloc (Nat.le_refl _) _), fun w2 => w2.heap[w1.heap.size]? = some obj, fun w2 w3 hF hb => ?_, ?_, fun w2 hS2 hF2 j hj => ?_⟩
    · have hlt : w1.heap.size < w2.heap.size := (Array.getElem?_eq_some_iff.1 hF).1
      show w3.heap[w1.heap.size]? = some obj
      rw [hb.block _ hlt]; exact hF
    · show (w1.heap.push obj)[w1.heap.size]? = some obj
      simp
    · rw [hr2] at hj
      have hjn : j = i + 1 := by simpa using hj
      subst hjn
      have hw : wpOp P ops Q (i + 1) (wpList P ops Q []) (a.put oa.dst (.pointer (some ⟨w1.heap.size, 0, none⟩))) w2 := by
        unfold wpOp; simp only [ho]; exact h _ w2 hS2 (hN _ hS1) hF2
      refine wpOp_mono (fun a' w' h' => ⟨fun k hk => ?_, h'⟩) hw
      by_cases e : k = i + 1
      · subst e; exact seen_set _
      · by_cases e2 : k = i
        · subst e2; exact seen_keep (seen_set _)
        · exact seen_keep (seen_keep (seenB_spec hs (by omega)))
  unfold Oper.wp
  generalize (execOp a.eval oa).run P w1 = r at *
  cases r with
  | ok n w' =>
    cases n <;> simp only [VGo] at h1 <;> simp only [Oper.upon]
    case value u => obtain ⟨rfl, hw⟩ := h1; exact fin _ hw
    case skip =>
      obtain ⟨hu, hw⟩ := h1
      rw [hu]
      exact fin _ hw
    case enter f args => exact Calls.mono h1 fun e w'' ⟨u, he, hu, hw⟩ => by subst he; subst hu; exact fin _ hw
  | halt x w' => simp only [VGo] at h1

theorem new_last (m : Nat) (h : 0 < m) : (Array.replicate m false).getD (m - 1) true = false := getD_in (by simp; omega) (getD_replicate_false m (m - 1))
theorem below_stab (W : World) (w w' : World) (h : Below W.heap.size W w) (k : Below w.heap.size w w') : Below W.heap.size W w' := h.trans (k.mono h.size)

def held1B (ops : Array Oper) (n : Nat) : Bool :=
  Region.noSelect ops && lastWaits .any ops && decide (n < ops.size) && headB .any ops (tail1B .any ops) n 0 (Array.replicate ops.size false)
def held2B (ops : Array Oper) (n : Nat) : Bool :=
  Region.noSelect ops && lastWaits .any ops && decide (n < ops.size) && headB .any ops (tail2B .any ops) n 0 (Array.replicate ops.size false)

/- the tail is one operation -/
theorem wp_region_held1 {id : Nat} {a : Act} {w : World} {l : List Oper} {o : Oper} (n : Nat) (hm : P.follows .mixedOrders = true) (hB : held1B l.toArray n = true) (hd : l[n]? = some o)
    (hQ : ∀ c a w (d : Option Tmp) (v : Value), Q (.panic c) (a.put d v) w → Q (.panic c) a w)
    (h : ∀ Fin : Act → Prop, (∀ a', (∀ w1, Below w.drew.heap.size w.drew w1 → wpList P l.toArray Q [o] a' w1) → Fin a') → wpHeld P l.toArray (Below w.drew.heap.size w.drew) Fin (l.take n) a) : (Code.region id l.toArray true).wp P Q a w := by
  replace h := h _ (fun _ hf => hf)
  simp only [held1B, Bool.and_eq_true, decide_eq_true_eq] at hB
  obtain ⟨⟨⟨hsel, hl⟩, hn⟩, hh⟩ := hB
  have hn' : n < l.length := by simpa using hn
  have htl : (l.take n).length = n := by simp; omega
  have hT1 : n + 1 = l.toArray.size := by
    have : ∀ (f k : Nat) (listed : Array Bool), headB .any l.toArray (tail1B .any l.toArray) f k listed = true → k + f + 1 = l.toArray.size := by
      intro f
      induction f with
      | zero => intro k listed hb; simp only [headB, tail1B, Bool.and_eq_true, decide_eq_true_eq] at hb; omega
      | succ f ih => intro k listed hb; simp only [headB, Bool.and_eq_true] at hb; have := ih (k + 1) _ hb.2; omega
    have := this n 0 _ hh
    omega
  refine wp_region_any hm (wpAny_of_heldAny (md := .any) (S := Below w.drew.heap.size w.drew) _ _ _ _ ?_)
  have := heldAny_lex (md := .any) (P := P) (ops := l.toArray) (Q := Q) (S := Below w.drew.heap.size w.drew) (g := 1) (T := tail1B .any l.toArray) (below_stab w.drew) hsel hl hQ hn
    (Fin := fun a' => ∀ w1, Below w.drew.heap.size w.drew w1 → wpList P l.toArray Q [o] a' w1)
    (fun listed a' hT hF w' hS => held_tail1 (by simpa using hd) hT hF w' hS) (l.take n) 0 (Array.replicate l.toArray.size false) a
    (fun j hj => by have hj' : j < n := by rw [htl] at hj; exact hj
                    simp [hj']) (by simpa using htl) (new_last _ (by omega)) (by rw [htl]; exact hh) h w.drew (Below.refl _ _)
  rw [htl, hT1] at this
  exact this

/- the tail is the making of a variable and one operation -/
theorem wp_region_held2 {id : Nat} {a : Act} {w : World} {l : List Oper} {oa o : Oper} (n : Nat) (hm : P.follows .mixedOrders = true) (hB : held2B l.toArray n = true) (hda : l[n]? = some oa) (hd : l[n + 1]? = some o)
    (hQ : ∀ c a w (d : Option Tmp) (v : Value), Q (.panic c) (a.put d v) w → Q (.panic c) a w) (obj : Obj)
    (h : ∀ Fin : Act → Prop, (∀ a', (Region.wanted oa (yielded l.toArray a'.tmps) = true ∧
      (∀ w1, Below w.drew.heap.size w.drew w1 → ∀ K : Value → World → Prop, K (.pointer (some ⟨w1.heap.size, 0, none⟩)) (w1.alloc obj) → VGo P K ((execOp a'.eval oa).run P w1)) ∧
      ∀ b w1, Below w.drew.heap.size w.drew w1 → w.heap.size ≤ b → w1.heap[b]? = some obj → wpList P l.toArray Q [o] (a'.put oa.dst (.pointer (some ⟨b, 0, none⟩))) w1) → Fin a') →
      wpHeld P l.toArray (Below w.drew.heap.size w.drew) Fin (l.take n) a) : (Code.region id l.toArray true).wp P Q a w := by
  replace h := h _ (fun _ hf => hf)
  simp only [held2B, Bool.and_eq_true, decide_eq_true_eq] at hB
  obtain ⟨⟨⟨hsel, hl⟩, hn⟩, hh⟩ := hB
  have hn' : n < l.length := by simpa using hn
  have htl : (l.take n).length = n := by simp; omega
  have hT1 : n + 2 = l.toArray.size := by
    have : ∀ (f k : Nat) (listed : Array Bool), headB .any l.toArray (tail2B .any l.toArray) f k listed = true → k + f + 2 = l.toArray.size := by
      intro f
      induction f with
      | zero => intro k listed hb; simp only [headB, tail2B, Bool.and_eq_true, decide_eq_true_eq] at hb; omega
      | succ f ih => intro k listed hb; simp only [headB, Bool.and_eq_true] at hb; have := ih (k + 1) _ hb.2; omega
    have := this n 0 _ hh
    omega
  refine wp_region_any hm (wpAny_of_heldAny (md := .any) (S := Below w.drew.heap.size w.drew) _ _ _ _ ?_)
  have := heldAny_lex (md := .any) (P := P) (ops := l.toArray) (Q := Q) (S := Below w.drew.heap.size w.drew) (g := 2) (T := tail2B .any l.toArray) (below_stab w.drew) hsel hl hQ hn
    (fun listed a' hT hF w' hS => held_tail2 (N := w.heap.size) (below_stab w.drew) (fun w2 h2 => h2.size) (by simpa using hda) (by simpa using hd) hT hF.1 hF.2.1 hF.2.2 w' hS) (l.take n) 0 (Array.replicate l.toArray.size false) a
    (fun j hj => by have hj' : j < n := by rw [htl] at hj; exact hj
                    simp [hj']) (by simpa using htl) (new_last _ (by omega)) (by rw [htl]; exact hh) h w.drew (Below.refl _ _)
  rw [htl, hT1] at this
  exact this

/- no tail: each operation gives the same value in every such world -/
def heldAll (P : Program) (md : Region.Mode) (ops : Array Oper) (Q : Exit → Act → World → Prop) (S : World → Prop) : Nat → Array Bool → Act → Prop
  | 0, listed, a => Region.ready md ops listed = [] ∧ ∀ w, S w → Q .normal a w
  | f + 1, listed, a => (Region.ready md ops listed = [] → ∀ w, S w → Q .normal a w) ∧
      ∀ w, S w → ∀ i ∈ Region.ready md ops listed, wpOp P ops Q i (fun a' w' => S w' ∧ heldAll P md ops Q S f (listed.setIfInBounds i true) a') a w
theorem wpAny_of_heldAll : ∀ (f : Nat) (listed : Array Bool) (a : Act) (w : World), S w → heldAll P md ops Q S f listed a → wpAny P md ops Q f listed a w
  | 0, _, _, w, hS, h => ⟨h.1, h.2 w hS⟩
  | f + 1, _, _, w, hS, h => ⟨fun h0 => h.1 h0 w hS, fun i hi => wpOp_mono (fun a' w' h' => wpAny_of_heldAll f _ a' w' h'.1 h'.2) (h.2 w hS i hi)⟩
theorem heldAll_first {i : Nat} {oi : Oper} {v : Value} (hstab : ∀ w w', S w → Below w.heap.size w w' → S w') (hi : ops[i]? = some oi)
    (hsel : ∀ (j : Nat) (o : Oper) cs b, ops[j]? = some o → o.op ≠ .select cs b)
    (hQ : ∀ c a w, Q (.panic c) (a.put oi.dst v) w → Q (.panic c) a w) :
    ∀ (f : Nat) (listed : Array Bool) (a : Act),
      (∀ j oj, ops[j]? = some oj → j ≠ i → listed.getD j true = false → (∀ e ∈ oj.after, Region.binds md e = true → e.on ≠ i) → oi.apart ops oj = true) →
      i ∈ Region.ready md ops listed → Vyld P ops S oi v a →
      heldAll P md ops Q S f (listed.setIfInBounds i true) (a.put oi.dst v) → heldAll P md ops Q S (f + 1) listed a := by
  intro f
  induction f with
  | zero =>
    intro listed a _ hr hy H
    refine ⟨fun h => (by rw [h] at hr; cases hr), fun w hS j hj => ?_⟩
    by_cases hji : j = i
    · subst hji; exact hy.wpOp hi hS fun w' hb => ⟨hstab _ _ hS hb, H⟩
    · have := ready_mono hj hji
      rw [H.1] at this
      cases this
  | succ f ih =>
    intro listed a hfree hr hy H
    refine ⟨fun h => (by rw [h] at hr; cases hr), fun w hS j hj => ?_⟩
    by_cases hji : j = i
    · subst hji; exact hy.wpOp hi hS fun w' hb => ⟨hstab _ _ hS hb, H⟩
    · have h1 := H.2 w hS j (ready_mono hj hji)
      obtain ⟨hjun, oj, hoj, hall⟩ := mem_ready.1 hj
      have hiun := (mem_ready.1 hr).1
      have hnot : ∀ e ∈ oj.after, Region.binds md e = true → e.on ≠ i := fun e he hb heq => by
        have h1 := hall e he hb
        rw [heq, getD_both hiun] at h1
        cases h1
      have h2 := wpOp_putV hoj (hfree j oj hoj hji hjun hnot) (fun cs b => hsel i oi cs b hi) (fun cs b => hsel j oj cs b hoj) hQ hy h1
      have hfree' : ∀ k ok, ops[k]? = some ok → k ≠ i → (listed.setIfInBounds j true).getD k true = false →
          (∀ e ∈ ok.after, Region.binds md e = true → e.on ≠ i) → oi.apart ops ok = true := fun k ok hk hki hunk hno => by
        refine hfree k ok hk hki ?_ hno
        by_cases hjk : j = k
        · subst hjk; exact hjun
        · rw [getD_set_ne true hjk] at hunk; exact hunk
      refine wpOp_mono (fun a' w' h3 => ⟨h3.2.1, ih (listed.setIfInBounds j true) a' hfree' (ready_mono hr (Ne.symm hji)) h3.1 ?_⟩) h2
      rw [Array.setIfInBounds_comm _ _ hji]
      exact h3.2.2
theorem heldAll_lex (hstab : ∀ w w', S w → Below w.heap.size w w' → S w') (hsel : Region.noSelect ops = true)
    (hQ : ∀ c a w (d : Option Tmp) (v : Value), Q (.panic c) (a.put d v) w → Q (.panic c) a w) :
    ∀ (l : List Oper) (k : Nat) (listed : Array Bool) (a : Act), (∀ j, j < l.length → l[j]? = ops[k + j]?) →
    headB md ops (fun _ listed => (Region.ready md ops listed).isEmpty) l.length k listed = true → wpHeld P ops S (fun a' => ∀ w, S w → Q .normal a' w) l a → heldAll P md ops Q S l.length listed a
  | [], k, listed, a, _, hB, h => ⟨by simpa [headB] using hB, h⟩
  | o :: l, k, listed, a, hlst, hB, h => by
    have h0 : ops[k]? = some o := by simpa using (hlst 0 (by simp)).symm
    simp only [List.length_cons, headB, Bool.and_eq_true] at hB
    obtain ⟨⟨hr, hf⟩, hB'⟩ := hB
    obtain ⟨v, hy, hK⟩ := h
    exact heldAll_first hstab h0 (Region.noSelect_spec hsel) (fun c a w => hQ c a w _ _) l.length listed a (Region.free_spec h0 hf) (by simpa using hr) hy
      (heldAll_lex hstab hsel hQ l (k + 1) _ _ (fun j hj => by have := hlst (j + 1) (by simp; omega); simpa [Nat.add_assoc, Nat.add_comm 1 j] using this) hB' hK)
def held0B (ops : Array Oper) : Bool :=
  Region.noSelect ops && headB .any ops (fun _ listed => (Region.ready .any ops listed).isEmpty) ops.size 0 (Array.replicate ops.size false)
theorem wp_region_held0 {id : Nat} {a : Act} {w : World} {l : List Oper} (hm : P.follows .mixedOrders = true) (hB : held0B l.toArray = true)
    (hQ : ∀ c a w (d : Option Tmp) (v : Value), Q (.panic c) (a.put d v) w → Q (.panic c) a w)
    (h : ∀ Fin : Act → Prop, (∀ a', (∀ w1, Below w.drew.heap.size w.drew w1 → Q .normal a' w1) → Fin a') → wpHeld P l.toArray (Below w.drew.heap.size w.drew) Fin l a) : (Code.region id l.toArray true).wp P Q a w := by
  replace h := h _ (fun _ hf => hf)
  simp only [held0B, Bool.and_eq_true] at hB
  refine wp_region_any hm (wpAny_of_heldAll (md := .any) (S := Below w.drew.heap.size w.drew) _ _ _ w.drew (Below.refl _ _) ?_)
  have := heldAll_lex (md := .any) (P := P) (ops := l.toArray) (Q := Q) (S := Below w.drew.heap.size w.drew) (below_stab w.drew) hB.1 hQ l 0 (Array.replicate l.toArray.size false) a (fun j hj => by simp) (by simpa using hB.2) h
  simpa using this
end

/- the same for a region whose order is the text's -/
section
variable {P : Program} {ops : Array Oper} {Q : Exit → Act → World → Prop} {S : World → Prop}
theorem wpList_held (hstab : ∀ w w', S w → Below w.heap.size w w' → S w') {Fin : Act → Prop} {t : List Oper} (ht : ∀ a', Fin a' → ∀ w, S w → wpList P ops Q t a' w) :
    ∀ (l : List Oper) (a : Act), wpHeld P ops S Fin l a → ∀ w, S w → wpList P ops Q (l ++ t) a w
  | [], a, h, w, hS => ht a h w hS
  | o :: l, a, h, w, hS => by
    obtain ⟨v, hy, hr⟩ := h
    show (if Region.wanted o (yielded ops a.tmps) then o.wp P a w (wpList P ops Q (l ++ t)) Q ∨ (o.asks P a w ∧ LetsOut Q) else wpList P ops Q (l ++ t) (a.put o.dst undef) w)
    have go : ∀ w', Below w.heap.size w w' → wpList P ops Q (l ++ t) (a.put o.dst v) w' := fun w' hb => wpList_held hstab ht l _ hr w' (hstab _ _ hS hb)
    rcases hy with ⟨hw, hv⟩ | ⟨hw, rfl⟩
    · rw [if_pos hw]
      refine .inl ?_
      have h1 := hv w hS (fun u w' => u = v ∧ Below w.heap.size w w') (fun w' hb => ⟨rfl, hb⟩)
      unfold Oper.wp
      generalize (execOp a.eval o).run P w = r at *
      cases r with
      | ok n w' =>
        cases n <;> simp only [VGo] at h1 <;> simp only [Oper.upon]
        case value u => obtain ⟨rfl, hb⟩ := h1; exact go _ hb
        case skip => obtain ⟨rfl, hb⟩ := h1; exact go _ hb
        case enter f args => exact Calls.mono h1 fun e w'' ⟨u, he, hu, hb⟩ => by subst he; subst hu; exact go _ hb
      | halt x w' => simp only [VGo] at h1
    · rw [if_neg (by simp [hw])]
      exact go w (Below.refl _ _)
theorem wp_region_plain1 {id : Nat} {a : Act} {w : World} {l : List Oper} {o : Oper} (n : Nat) (hd : l.drop n = [o])
    (h : ∀ Fin : Act → Prop, (∀ a', (∀ w1, Below w.heap.size w w1 → wpList P l.toArray Q [o] a' w1) → Fin a') → wpHeld P l.toArray (Below w.heap.size w) Fin (l.take n) a) : (Code.region id l.toArray false).wp P Q a w := by
  replace h := h _ (fun _ hf => hf)
  refine wp_region_lit ?_
  have := wpList_held (P := P) (ops := l.toArray) (Q := Q) (S := Below w.heap.size w) (t := [o]) (fun w1 w2 h1 h2 => h1.trans (h2.mono h1.size)) (fun a' hf w1 h1 => hf w1 h1) (l.take n) a h w (Below.refl _ _)
  rwa [← hd, List.take_append_drop] at this
theorem wp_region_plain2 {id : Nat} {a : Act} {w : World} {l : List Oper} {oa o : Oper} (n : Nat) (hd : l.drop n = [oa, o]) (obj : Obj)
    (h : ∀ Fin : Act → Prop, (∀ a', (Region.wanted oa (yielded l.toArray a'.tmps) = true ∧
      (∀ w1, Below w.heap.size w w1 → ∀ K : Value → World → Prop, K (.pointer (some ⟨w1.heap.size, 0, none⟩)) (w1.alloc obj) → VGo P K ((execOp a'.eval oa).run P w1)) ∧
      ∀ b w1, Below w.heap.size w w1 → w.heap.size ≤ b → w1.heap[b]? = some obj → wpList P l.toArray Q [o] (a'.put oa.dst (.pointer (some ⟨b, 0, none⟩))) w1) → Fin a') →
      wpHeld P l.toArray (Below w.heap.size w) Fin (l.take n) a) : (Code.region id l.toArray false).wp P Q a w := by
  replace h := h _ (fun _ hf => hf)
  refine wp_region_lit ?_
  have := wpList_held (P := P) (ops := l.toArray) (Q := Q) (S := Below w.heap.size w) (t := [oa, o]) (fun w1 w2 h1 h2 => h1.trans (h2.mono h1.size)) (fun a' hf w1 h1 => by
    obtain ⟨hg, hal, hlast⟩ := hf
    show (if Region.wanted oa (yielded l.toArray a'.tmps) then oa.wp P a' w1 (wpList P l.toArray Q [o]) Q ∨ (oa.asks P a' w1 ∧ LetsOut Q) else wpList P l.toArray Q [o] (a'.put oa.dst undef) w1)
    rw [if_pos hg]
    refine .inl ?_
    have h2 := hal w1 h1 (fun u w' => u = .pointer (some ⟨w1.heap.size, 0, none⟩) ∧ w' = w1.alloc obj) ⟨rfl, rfl⟩
    have fin := hlast w1.heap.size (w1.alloc obj) (h1.trans ((Below.refl _ _).alloc h1.size obj)) h1.size (by show (w1.heap.push obj)[w1.heap.size]? = some obj; simp)
    unfold Oper.wp
    generalize (execOp a'.eval oa).run P w1 = r at *
    cases r with
    | ok n w' =>
      cases n <;> simp only [VGo] at h2 <;> simp only [Oper.upon]
      case value u => obtain ⟨rfl, rfl⟩ := h2; exact fin
      case skip =>
        obtain ⟨hu, rfl⟩ := h2
        rw [hu]; exact fin
      case enter f args => exact Calls.mono h2 fun e w'' ⟨u, he, hu, hw⟩ => by subst he; subst hu; subst hw; exact fin
    | halt x w' => simp only [VGo] at h2) (l.take n) a h w (Below.refl _ _)
  rwa [← hd, List.take_append_drop] at this
end

/- a block that is known whole -/
def Has (w : World) (b : Nat) (cs : Array Value) (T : TypeId) : Prop := w.heap[b]? = some (.cells cs T (0, 0))
theorem Has.lt {w : World} {b : Nat} {cs : Array Value} {T : TypeId} (h : Has w b cs T) : b < w.heap.size := (Array.getElem?_eq_some_iff.1 h).1
theorem Has.below {w w' : World} {b : Nat} {cs : Array Value} {T : TypeId} (h : Has w b cs T) (hb : Below w.heap.size w w') : Has w' b cs T := (hb.block b h.lt).trans h
theorem Has.drew {w : World} {b : Nat} {cs : Array Value} {T : TypeId} (h : Has w b cs T) : Has w.drew b cs T := h
theorem Has.drewN {w : World} {b : Nat} {cs : Array Value} {T : TypeId} (h : Has w b cs T) (n : Nat) : Has (w.drewN n) b cs T := h
theorem Has.alloc {w : World} {b : Nat} {cs : Array Value} {T : TypeId} (h : Has w b cs T) (o : Obj) : Has (w.alloc o) b cs T := (Below.heap_alloc w o b h.lt).trans h
theorem Has.new (w : World) (cs : Array Value) (T : TypeId) : Has (w.alloc (.cells cs T (0, 0))) w.heap.size cs T := by
  show (w.heap.push _)[w.heap.size]? = _
  simp
theorem Has.new1 (w : World) (o : Obj) (cs : Array Value) (T : TypeId) : Has ((w.alloc o).alloc (.cells cs T (0, 0))) (w.heap.size + 1) cs T := by
  have h := Has.new (w.alloc o) cs T
  rwa [World.size_alloc] at h
theorem Has.new2 (w : World) (o o' : Obj) (cs : Array Value) (T : TypeId) : Has (((w.alloc o).alloc o').alloc (.cells cs T (0, 0))) (w.heap.size + 1 + 1) cs T := by
  have h := Has.new ((w.alloc o).alloc o') cs T
  rwa [World.size_alloc, World.size_alloc] at h
theorem Has.new3 (w : World) (o o' o'' : Obj) (cs : Array Value) (T : TypeId) : Has ((((w.alloc o).alloc o').alloc o'').alloc (.cells cs T (0, 0))) (w.heap.size + 1 + 1 + 1) cs T := by
  have h := Has.new (((w.alloc o).alloc o').alloc o'') cs T
  rwa [World.size_alloc, World.size_alloc, World.size_alloc] at h
theorem Has.new4 (w : World) (o o' o'' o3 : Obj) (cs : Array Value) (T : TypeId) : Has (((((w.alloc o).alloc o').alloc o'').alloc o3).alloc (.cells cs T (0, 0))) (w.heap.size + 1 + 1 + 1 + 1) cs T := by
  have h := Has.new ((((w.alloc o).alloc o').alloc o'').alloc o3) cs T
  rwa [World.size_alloc, World.size_alloc, World.size_alloc, World.size_alloc] at h
theorem Has.same {w : World} {b : Nat} {cs : Array Value} {T : TypeId} (h : Has w b cs T) (i : Nat) (v : Value) : Has (w.setCell ⟨b, i, none⟩ v) b (cs.setIfInBounds i v) T := heap_setCell_same w b i cs T v h
theorem Has.other {w : World} {b b' : Nat} {cs : Array Value} {T : TypeId} (hne : b ≠ b') (h : Has w b cs T) (i : Nat) (v : Value) : Has (w.setCell ⟨b', i, none⟩ v) b cs T :=
  (Below.heap_setCell w ⟨b', i, none⟩ v b hne).trans h
theorem Has.cell {w : World} {b : Nat} {cs : Array Value} {T : TypeId} (h : Has w b cs T) : ∀ i, w.cell? ⟨b, i, none⟩ = cs[i]? := fun i => cell_of_row w b i cs T (0, 0) h
theorem Has.frozen {w : World} {b : Nat} {cs : Array Value} {T : TypeId} (h : Has w b cs T) : ∀ i, w.frozen? ⟨b, i, none⟩ = false := fun i => frozen_of_row w b i cs T h

theorem lowAlloc {a w : World} (h : Below a.heap.size a w) (o : Obj) : Below a.heap.size a (w.alloc o) := h.alloc h.size o
theorem lowCall {a w w1 : World} (h : Below a.heap.size a w) (k : Below w.heap.size w w1) : Below a.heap.size a w1 := h.trans (k.mono h.size)
theorem lowSet {a w : World} (h : Below a.heap.size a w) {p : Addr} (hp : a.heap.size ≤ p.block) (u : Value) : Below a.heap.size a (w.setCell p u) := h.setCell hp u
theorem lowDrew {a w : World} (h : Below a.heap.size a w) : Below a.heap.size a w.drew := h.drew
theorem lowDrewN {a w : World} (h : Below a.heap.size a w) (n : Nat) : Below a.heap.size a (w.drewN n) := ⟨h.os, h.tape, h.output, h.size, h.block⟩
theorem lowRefl (a : World) : Below a.heap.size a a := Below.refl _ _
end Go.Proofs.Ytegibpepdndocaa
