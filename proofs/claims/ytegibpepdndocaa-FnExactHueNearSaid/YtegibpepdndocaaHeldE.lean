
import Derived.Test.YtegibpepdndocaaHeldN
import Derived.Test.YtegibpepdndocaaUnd
namespace Go.Proofs.Ytegibpepdndocaa
open Go Go.RowKit

/- A region whose order is open: held operations (a mask tells which); two operations that may come in either order: a call that makes memory of its own (op), and the making of one block (oa); behind these, one after another, the rest. -/
section
variable {P : Program} {ops : Array Oper} {Q : Exit → Act → World → Prop} {md : Region.Mode} {S : World → Prop}
def pairB (md : Region.Mode) (ops : Array Oper) (n0 ip ia : Nat) (listed : Array Bool) : Bool :=
  decide (Region.ready md ops listed = [ip, ia]) && decide (Region.ready md ops (listed.setIfInBounds ip true) = [ia]) && decide (Region.ready md ops (listed.setIfInBounds ia true) = [ip]) && decide (ip ≠ ia) &&
    ((ops[ip]?).map (·.guard.isNone)).getD false && ((ops[ia]?).map (·.guard.isNone)).getD false && ((ops[ip]?).map fun x => ((ops[ia]?).map (x.apart ops ·)).getD false).getD false &&
    seenB n0 ((listed.setIfInBounds ip true).setIfInBounds ia true) && linB md ops (ops.size - n0) n0 ((listed.setIfInBounds ip true).setIfInBounds ia true)
/- what is to be known of the two operations and of the rest -/
def PairK (P : Program) (ops : Array Oper) (Q : Exit → Act → World → Prop) (S : World → Prop) (N : Nat) (op oa : Oper) (tl : List Oper) (a : Act) : Prop :=
  ∃ (obj : Obj) (mk : Nat → Value) (R : Value → World → Prop), (∀ v w1 w2, R v w1 → Below w1.heap.size w1 w2 → R v w2) ∧
    (∀ w, S w → ∀ K : Value → World → Prop, K (mk w.heap.size) (w.alloc obj) → VGo P K ((execOp a.eval oa).run P w)) ∧
    (∀ w, S w → ∀ K : Value → World → Prop, (∀ v w', Below w.heap.size w w' → R v w' → K v w') → VGo P K ((execOp a.eval op).run P w)) ∧
    ∀ v b w, S w → R v w → N ≤ b → w.heap[b]? = some obj → wpList P ops Q tl ((a.put op.dst v).put oa.dst (mk b)) w
theorem held_pair {N n0 ip ia : Nat} {op oa : Oper} {tl : List Oper} {listed : Array Bool} {a : Act} (hstab : ∀ w w', S w → Below w.heap.size w w' → S w') (hN : ∀ w, S w → N ≤ w.heap.size)
    (hop : ops[ip]? = some op) (hoa : ops[ia]? = some oa) (hsel : Region.noSelect ops = true) (htl : ∀ j, j < ops.size - n0 → tl[j]? = ops[n0 + j]?) (hlen : tl.length = ops.size - n0)
    (hB : pairB md ops n0 ip ia listed = true) (h : PairK P ops Q S N op oa tl a) (w : World) (hS : S w) : heldN P md ops Q S n0 2 listed a w := by
  simp only [pairB, Bool.and_eq_true, decide_eq_true_eq] at hB
  obtain ⟨⟨⟨⟨⟨⟨⟨⟨hr, hr1⟩, hr2⟩, hne⟩, hgp⟩, hga⟩, hap⟩, hs⟩, hlin⟩ := hB
  simp only [hop, hoa, Option.map_some, Option.getD_some] at hgp hga hap
  obtain ⟨obj, mk, R, hR, hal, hcall, htail⟩ := h
  obtain ⟨h1, h2, h3⟩ := Oper.apart_spec hap
  have hsp : ∀ cs b, op.op ≠ .select cs b := fun cs b => Region.noSelect_spec hsel ip op cs b hop
  have hsa : ∀ cs b, oa.op ≠ .select cs b := fun cs b => Region.noSelect_spec hsel ia oa cs b hoa
  have hsw : (listed.setIfInBounds ia true).setIfInBounds ip true = (listed.setIfInBounds ip true).setIfInBounds ia true := Array.setIfInBounds_comm _ _ (Ne.symm hne)
  have stabA : ∀ (b : Nat) (v : Value) (w1 w2 : World), (R v w1 ∧ N ≤ b ∧ w1.heap[b]? = some obj) → Below w1.heap.size w1 w2 → (R v w2 ∧ N ≤ b ∧ w2.heap[b]? = some obj) := fun b v w1 w2 hh k => by
    refine ⟨hR v _ _ hh.1 k, hh.2.1, ?_⟩
    have hlt : b < w1.heap.size := (Array.getElem?_eq_some_iff.1 hh.2.2).1
    rw [k.block _ hlt]; exact hh.2.2
  have hpush : ∀ w1 : World, (w1.alloc obj).heap[w1.heap.size]? = some obj := fun w1 => by
    show (w1.heap.push obj)[w1.heap.size]? = some obj
    simp
  have hba : ∀ w1 : World, Below w1.heap.size w1 (w1.alloc obj) := fun w1 => (Below.refl _ _).alloc (Nat.le_refl _) _
  have fin : ∀ v b w1, S w1 → (R v w1 ∧ N ≤ b ∧ w1.heap[b]? = some obj) → heldN P md ops Q S n0 0 ((listed.setIfInBounds ip true).setIfInBounds ia true) ((a.put op.dst v).put oa.dst (mk b)) w1 := fun v b w1 hS1 hh =>
    ⟨fun k hk => seenB_spec hs hk, hS1, fun w2 => R v w2 ∧ N ≤ b ∧ w2.heap[b]? = some obj, stabA b v, hh, fun w2 hS2 hF2 => lin_any _ n0 _ _ w2 tl htl hlen hlin (htail v b w2 hS2 hF2.1 hF2.2.1 hF2.2.2)⟩
  refine ⟨by rw [hr]; simp, hS, fun _ => True, fun _ _ _ _ => trivial, trivial, fun w1 hS1 _ j hj => ?_⟩
  rw [hr] at hj
  have hj2 : j = ip ∨ j = ia := by simpa using hj
  rcases hj2 with rfl | rfl
  · unfold wpOp
    simp only [hop, want_none hgp, if_true]
    refine .inl (upon_VGo2 (hcall w1 hS1 _ fun v w2 hb hRv => ?_))
    have hS2 := hstab _ _ hS1 hb
    refine ⟨by rw [hr1]; simp, hS2, R v, fun w3 w4 h5 k => hR v _ _ h5 k, hRv, fun w3 hS3 hR3 i hi => ?_⟩
    rw [hr1] at hi
    have hin : i = ia := by simpa using hi
    subst hin
    unfold wpOp
    simp only [hoa, want_none hga, if_true]
    refine .inl (upon_VGo2 ?_)
    rw [execOp_put oa hsa a op.dst v h1]
    exact hal w3 hS3 _ (fin v _ _ (hstab _ _ hS3 (hba w3)) ⟨hR v _ _ hR3 (hba w3), hN _ hS3, hpush w3⟩)
  · unfold wpOp
    simp only [hoa, want_none hga, if_true]
    refine .inl (upon_VGo2 (hal w1 hS1 _ ?_))
    refine ⟨by rw [hr2]; simp, hstab _ _ hS1 (hba w1), fun w3 => w3.heap[w1.heap.size]? = some obj, fun w3 w4 h5 k => ?_, hpush w1, fun w3 hS3 hF3 i hi => ?_⟩
    · have hlt : w1.heap.size < w3.heap.size := (Array.getElem?_eq_some_iff.1 h5).1
      show w4.heap[w1.heap.size]? = some obj
      rw [k.block _ hlt]; exact h5
    rw [hr2] at hi
    have hin : i = ip := by simpa using hi
    subst hin
    unfold wpOp
    simp only [hop, want_none hgp, if_true]
    refine .inl (upon_VGo2 ?_)
    rw [execOp_put op hsp a oa.dst (mk w1.heap.size) h3]
    refine hcall w3 hS3 _ fun v w4 hb hRv => ?_
    have hlt : w1.heap.size < w3.heap.size := (Array.getElem?_eq_some_iff.1 hF3).1
    rw [hsw, ← Act.put_comm a v _ h2]
    refine fin v _ _ (hstab _ _ hS3 hb) ⟨hRv, hN _ hS1, ?_⟩
    rw [hb.block _ hlt]; exact hF3
end
def heldEB (ops : Array Oper) (m : List Bool) (ip ia : Nat) : Bool :=
  Region.noSelect ops && tailWaits .any ops m.length && decide (m.length ≤ ops.size) && decide ((maskI 0 m).length + 2 = m.length) &&
  headN .any ops m.length (pairB .any ops m.length ip ia) (maskI 0 m) (Array.replicate ops.size false)
theorem wp_region_heldE {P : Program} {Q : Exit → Act → World → Prop} {id : Nat} {a : Act} {w : World} {l : List Oper} {op oa : Oper} (m : List Bool) (ip ia : Nat) (hm : P.follows .mixedOrders = true) (hB : heldEB l.toArray m ip ia = true)
    (hop : l[ip]? = some op) (hoa : l[ia]? = some oa) (hQ : ∀ c a w (d : Option Tmp) (v : Value), Q (.panic c) (a.put d v) w → Q (.panic c) a w)
    (h : ∀ Fin : Act → Prop, (∀ a', PairK P l.toArray Q (Below w.drew.heap.size w.drew) w.heap.size op oa (l.drop m.length) a' → Fin a') →
      wpHeld P l.toArray (Below w.drew.heap.size w.drew) Fin (maskL m l) a) : (Code.region id l.toArray true).wp P Q a w := by
  replace h := h _ (fun _ hf => hf)
  simp only [heldEB, Bool.and_eq_true, decide_eq_true_eq] at hB
  obtain ⟨⟨⟨⟨hsel, htw⟩, hle⟩, hlen⟩, hh⟩ := hB
  have hsz : l.toArray.size = l.length := by simp
  have e1 := mask_map (ops := l.toArray) m l 0 (by omega) (fun j hj => by simp)
  refine wp_region_any hm ?_
  have := heldN_lex (md := .any) (P := P) (ops := l.toArray) (Q := Q) (S := Below w.drew.heap.size w.drew) (g := 2) (T := pairB .any l.toArray m.length ip ia) (F := fun _ => True) (fun _ _ _ _ => trivial) (below_stab w.drew) hsel htw hQ
    (Fin := PairK P l.toArray Q (Below w.drew.heap.size w.drew) w.heap.size op oa (l.drop m.length))
    (fun listed a' _ hT hf w' hS _ => held_pair (N := w.heap.size) (below_stab w.drew) (fun w1 h1 => h1.size) (by simpa using hop) (by simpa using hoa) hsel (fun j hj => by rw [List.getElem?_drop]; simp) (by simp) hT hf w' hS)
    (maskI 0 m) (maskL m l) (Array.replicate l.toArray.size false) a closed_none e1 hh h w.drew (Below.refl _ _) trivial
  have h2 := wpAny_of_heldN _ _ _ _ this
  rw [hlen, show m.length + (l.toArray.size - m.length) = l.toArray.size by omega] at h2
  exact h2
end Go.Proofs.Ytegibpepdndocaa
