
import Derived.Test.YtegibpepdndocaaHeldE
namespace Go.Proofs.Ytegibpepdndocaa
open Go Go.RowKit

/- A region whose order is open: held operations (a mask tells which), one call that makes memory of its own; behind these, one after another, the rest. -/
section
variable {P : Program} {ops : Array Oper} {Q : Exit → Act → World → Prop} {md : Region.Mode} {S : World → Prop}
def soloB (md : Region.Mode) (ops : Array Oper) (n0 ip : Nat) (listed : Array Bool) : Bool :=
  decide (Region.ready md ops listed = [ip]) && seenB n0 (listed.setIfInBounds ip true) && linB md ops (ops.size - n0) n0 (listed.setIfInBounds ip true)
def SoloK (P : Program) (ops : Array Oper) (Q : Exit → Act → World → Prop) (S : World → Prop) (op : Oper) (tl : List Oper) (a : Act) : Prop :=
  ∃ (R : Value → World → Prop), (∀ v w1 w2, R v w1 → Below w1.heap.size w1 w2 → R v w2) ∧ Region.wanted op (yielded ops a.tmps) = true ∧
    (∀ w, S w → ∀ K : Value → World → Prop, (∀ v w', Below w.heap.size w w' → R v w' → K v w') → VGo P K ((execOp a.eval op).run P w)) ∧
    ∀ v w, S w → R v w → wpList P ops Q tl (a.put op.dst v) w
theorem held_solo {n0 ip : Nat} {op : Oper} {tl : List Oper} {listed : Array Bool} {a : Act} (hstab : ∀ w w', S w → Below w.heap.size w w' → S w')
    (hop : ops[ip]? = some op) (htl : ∀ j, j < ops.size - n0 → tl[j]? = ops[n0 + j]?) (hlen : tl.length = ops.size - n0)
    (hB : soloB md ops n0 ip listed = true) (h : SoloK P ops Q S op tl a) (w : World) (hS : S w) : heldN P md ops Q S n0 1 listed a w := by
  simp only [soloB, Bool.and_eq_true, decide_eq_true_eq] at hB
  obtain ⟨⟨hr, hs⟩, hlin⟩ := hB
  obtain ⟨R, hR, hw, hcall, htail⟩ := h
  refine ⟨by rw [hr]; simp, hS, fun _ => True, fun _ _ _ _ => trivial, trivial, fun w1 hS1 _ j hj => ?_⟩
  rw [hr] at hj
  have hin : j = ip := by simpa using hj
  subst hin
  unfold wpOp
  simp only [hop, hw, if_true]
  refine .inl (upon_VGo2 (hcall w1 hS1 _ fun v w2 hb hRv => ?_))
  have hS2 := hstab _ _ hS1 hb
  exact ⟨fun k hk => seenB_spec hs hk, hS2, R v, fun w3 w4 h5 k => hR v _ _ h5 k, hRv, fun w3 hS3 hR3 => lin_any _ n0 _ _ w3 tl htl hlen hlin (htail v w3 hS3 hR3)⟩
end
def heldFB (ops : Array Oper) (m : List Bool) (ip : Nat) : Bool :=
  Region.noSelect ops && tailWaits .any ops m.length && decide (m.length ≤ ops.size) && decide ((maskI 0 m).length + 1 = m.length) &&
  headN .any ops m.length (soloB .any ops m.length ip) (maskI 0 m) (Array.replicate ops.size false)
theorem wp_region_heldF {P : Program} {Q : Exit → Act → World → Prop} {id : Nat} {a : Act} {w : World} {l : List Oper} {op : Oper} (m : List Bool) (ip : Nat) (hm : P.follows .mixedOrders = true) (hB : heldFB l.toArray m ip = true)
    (hop : l[ip]? = some op) (hQ : ∀ c a w (d : Option Tmp) (v : Value), Q (.panic c) (a.put d v) w → Q (.panic c) a w)
    (h : ∀ Fin : Act → Prop, (∀ a', SoloK P l.toArray Q (Below w.drew.heap.size w.drew) op (l.drop m.length) a' → Fin a') →
      wpHeld P l.toArray (Below w.drew.heap.size w.drew) Fin (maskL m l) a) : (Code.region id l.toArray true).wp P Q a w := by
  replace h := h _ (fun _ hf => hf)
  simp only [heldFB, Bool.and_eq_true, decide_eq_true_eq] at hB
  obtain ⟨⟨⟨⟨hsel, htw⟩, hle⟩, hlen⟩, hh⟩ := hB
  have hsz : l.toArray.size = l.length := by simp
  have e1 := mask_map (ops := l.toArray) m l 0 (by omega) (fun j hj => by simp)
  refine wp_region_any hm ?_
  have := heldN_lex (md := .any) (P := P) (ops := l.toArray) (Q := Q) (S := Below w.drew.heap.size w.drew) (g := 1) (T := soloB .any l.toArray m.length ip) (F := fun _ => True) (fun _ _ _ _ => trivial) (below_stab w.drew) hsel htw hQ
    (Fin := SoloK P l.toArray Q (Below w.drew.heap.size w.drew) op (l.drop m.length))
    (fun listed a' _ hT hf w' hS _ => held_solo (below_stab w.drew) (by simpa using hop) (fun j hj => by rw [List.getElem?_drop]; simp) (by simp) hT hf w' hS)
    (maskI 0 m) (maskL m l) (Array.replicate l.toArray.size false) a closed_none e1 hh h w.drew (Below.refl _ _) trivial
  have h2 := wpAny_of_heldN _ _ _ _ this
  rw [hlen, show m.length + (l.toArray.size - m.length) = l.toArray.size by omega] at h2
  exact h2
end Go.Proofs.Ytegibpepdndocaa
