import Derived.OrdersIn
import Derived.Sort.CutIn
import Derived.Test.YtegibpepdndocabGreatStMk
namespace Go.Proofs.YtegibpepdndocabGreat
open Go Go.RowKit Go.Shelf
set_option linter.unusedSimpArgs false
set_option linter.unusedVariables false

/- a region of open order in a round of a range over a function: as elsewhere, if no operation is a defer statement -/
section
variable {P : Program} {ops : Array Oper} {Q : Exit → Act → World → Prop} {md : Region.Mode} {lo n : Nat}
def noDefer (ops : Array Oper) : Bool := ops.toList.all fun o => match o.op with | .defer _ => false | _ => true
theorem semAt_of {l : Nat} {o : Oper} {ρ : Operand → Value} (h : (match o.op with | .defer _ => false | _ => true) = true) : Oper.semAt (some l) ρ o = execOp ρ o := by
  unfold Oper.semAt
  cases ho : o.op <;> simp_all
theorem wpOpIn_of (hQ : ¬ LetsOut Q) (hd : noDefer ops = true) {i : Nat} {K : Act → World → Prop} {a : Act} {w : World} (h : wpOp P ops Q i K a w) : wpOpIn (Fence.wide.inRound lo) n P ops Q i K a w := by
  unfold wpOp at h
  unfold wpOpIn
  cases ho : ops[i]? with
  | none => simp only [ho] at h ⊢; exact h
  | some o =>
    simp only [ho] at h ⊢
    have hm : o ∈ ops.toList := by
      have := Array.mem_of_getElem? ho
      simpa using this
    have hdo := List.all_eq_true.1 hd o hm
    split
    · rename_i hw
      simp only [hw, if_true] at h
      rcases h with h | ⟨_, h⟩
      · refine ⟨fun _ _ => trivial, ?_⟩
        unfold Oper.wp at h
        show o.uponIn _ n P a K Q ((o.semAt (some lo) a.eval).run P w)
        rw [semAt_of hdo]
        generalize (execOp a.eval o).run P w = r at h
        cases r with
        | ok x w' =>
          cases x <;> simp only [Oper.upon, Oper.uponIn] at h ⊢ <;> try exact h
          · exact ⟨fun h0 => by simp [Fence.inRound, Fence.wide] at h0, CallsIn.inRound lo (callsIn_wide.2 h)⟩
          · exact ⟨fun h0 => by simp [Fence.inRound, Fence.wide] at h0, fun c cs _ => let ⟨v, w2, r, s⟩ := h c cs; ⟨v, w2, r, stepsIn_wide.2 s⟩⟩
        | halt x w' => cases x <;> simp only [Oper.upon, Oper.uponIn] at h ⊢ <;> exact h
      · exact absurd h hQ
    · rename_i hw
      simp only [hw] at h
      exact ⟨fun _ _ => trivial, h⟩
theorem wpAnyIn_of (hQ : ¬ LetsOut Q) (hd : noDefer ops = true) : ∀ (f : Nat) (listed : Array Bool) (a : Act) (w : World), wpAny P md ops Q f listed a w → wpAnyIn (Fence.wide.inRound lo) n P md ops Q f listed a w
  | 0, _, _, _, h => h
  | f + 1, listed, a, w, h => ⟨h.1, fun i hi => wpOpIn_mono (fun a' w' => wpAnyIn_of hQ hd f _ a' w') (wpOpIn_of hQ hd (h.2 i hi))⟩
/- the held rule (the tail is one operation) in a round -/
theorem wpIn_region_held1 {id lo m : Nat} {Q : Exit → Act → World → Prop} {a : Act} {w : World} {l : List Oper} {o : Oper} (n : Nat) (hL : ¬ LetsOut Q) (hD : noDefer l.toArray = true) (hm : P.follows .mixedOrders = true) (hB : held1B l.toArray n = true) (hd : l[n]? = some o)
    (hQ : ∀ c a w (d : Option Tmp) (v : Value), Q (.panic c) (a.put d v) w → Q (.panic c) a w)
    (h : ∀ Fin : Act → Prop, (∀ a', (∀ w1, Below w.drew.heap.size w.drew w1 → wpList P l.toArray Q [o] a' w1) → Fin a') → wpHeld P l.toArray (Below w.drew.heap.size w.drew) Fin (l.take n) a) : (Code.region id l.toArray true).wpIn (Fence.wide.inRound lo) m P Q a w := by
  replace h := h _ (fun _ hf => hf)
  simp only [held1B, Bool.and_eq_true, decide_eq_true_eq] at hB
  obtain ⟨⟨⟨hsel, hl⟩, hn⟩, hh⟩ := hB
  have hn' : n < l.length := by simpa using hn
  have htl : (l.take n).length = n := by simp; omega
  have hT1 : n + 1 = l.toArray.size := by
    have : ∀ (f k : Nat) (listed : Array Bool), headB .any l.toArray (tail1B .any l.toArray) f k listed = true → k + f + 1 = l.toArray.size := by
      intro f
      induction f with
      | zero => intro k listed hb; simp only [headB, tail1B, Bool.and_eq_true, decide_eq_true_eq] at hb; omega
      | succ f ih => intro k listed hb; simp only [headB, Bool.and_eq_true] at hb; have := ih (k + 1) _ hb.2; omega
    have := this n 0 _ hh
    omega
  refine wpIn_region_any hm (wpAnyIn_of hL hD _ _ _ _ (wpAny_of_heldAny (md := .any) (S := Below w.drew.heap.size w.drew) _ _ _ _ ?_))
  have := heldAny_lex (md := .any) (P := P) (ops := l.toArray) (Q := Q) (S := Below w.drew.heap.size w.drew) (g := 1) (T := tail1B .any l.toArray) (below_stab w.drew) hsel hl hQ hn
    (Fin := fun a' => ∀ w1, Below w.drew.heap.size w.drew w1 → wpList P l.toArray Q [o] a' w1)
    (fun listed a' hT hF w' hS => held_tail1 (by simpa using hd) hT hF w' hS) (l.take n) 0 (Array.replicate l.toArray.size false) a
    (fun j hj => by have hj' : j < n := by rw [htl] at hj; exact hj
                    simp [hj']) (by simpa using htl) (new_last _ (by omega)) (by rw [htl]; exact hh) h w.drew (Below.refl _ _)
  rw [htl, hT1] at this
  exact this
end
/- what a round leaves as it was -/
structure RB (n0 B Bs : Nat) (w W V : World) : Prop where
  kf : KeepsFrom B W V
  bw : Below n0 W V
  bs : V.heap[Bs]? = W.heap[Bs]?
  lo : Below n0 w V
theorem RB.alloc {n0 B Bs : Nat} {w W V : World} (h : RB n0 B Bs w W V) (hn : n0 ≤ w.heap.size) (hW : n0 ≤ W.heap.size) (hs : Bs < V.heap.size) (o : Obj) : RB n0 B Bs w W (V.alloc o) :=
  ⟨h.kf.trans ((KeepsOthers.alloc _ _).from _), h.bw.alloc (Nat.le_trans hW h.bw.size) _, (Below.heap_alloc V o Bs hs).trans h.bs, h.lo.alloc (Nat.le_trans hn h.lo.size) _⟩
theorem RB.drew {n0 B Bs : Nat} {w W V : World} (h : RB n0 B Bs w W V) : RB n0 B Bs w W V.drew :=
  ⟨h.kf.trans ((KeepsOthers.drew V).from _), h.bw.drew, h.bs, h.lo.drew⟩
theorem RB.grown {n0 B Bs : Nat} {w W V V' : World} {r : Option Nat} (h : RB n0 B Bs w W V) (hn : n0 ≤ w.heap.size) (hW : n0 ≤ W.heap.size) (hs : Bs < V.heap.size) (hg : V.grownBy V' r) (hr : ∀ k, r = some k → n0 ≤ k ∧ k ≠ Bs ∧ (∀ o : Obj, V.heap[k]? = some o → o.isCells = true)) : RB n0 B Bs w W V' :=
  ⟨h.kf.trans ((KeepsOthers.of_grownBy hg fun j o e ho => (hr j e).2.2 o ho).from _), h.bw.grown hg (Nat.le_trans hW h.bw.size) (fun k e => (hr k e).1), (hg.block Bs hs (fun e => (hr Bs e.symm).2.1 rfl)).trans h.bs, h.lo.grown hg (Nat.le_trans hn h.lo.size) (fun k e => (hr k e).1)⟩
theorem belowGrown {V V' : World} (hb : Below V.heap.size V V') (r : Option Nat) : V.grownBy V' r := ⟨hb.os, hb.tape, hb.output, hb.size, fun k hk _ => hb.block k hk⟩
theorem RB.call {n0 B Bs : Nat} {w W V V' : World} (h : RB n0 B Bs w W V) (hn : n0 ≤ w.heap.size) (hW : n0 ≤ W.heap.size) (hs : Bs < V.heap.size) (hb : Below V.heap.size V V') : RB n0 B Bs w W V' :=
  h.grown hn hW hs (belowGrown hb none) (fun k e => by cases e)
theorem hasCells {V : World} {b : Nat} {cs : Array Value} {T : TypeId} (h : Has V b cs T) : ∀ o : Obj, V.heap[b]? = some o → o.isCells = true := fun o ho => by
  unfold Has at h; rw [h] at ho; cases ho; rfl
theorem RB.cells {n0 B Bs b : Nat} {w W V : World} {cs : Array Value} {T : TypeId} (h : RB n0 B Bs w W V) (hn : n0 ≤ w.heap.size) (hW : n0 ≤ W.heap.size) (hs : Bs < V.heap.size) (hB : Has V b cs T) (hb : n0 ≤ b) (hne : b ≠ Bs) (o : Nat) (vs : List Value) : RB n0 B Bs w W (V.setCells b o vs) :=
  h.grown hn hW hs (grownCells V b o vs) (fun k e => by cases e; exact ⟨hb, hne, hasCells hB⟩)
theorem RB.cell {n0 B Bs b : Nat} {w W V : World} {cs : Array Value} {T : TypeId} (h : RB n0 B Bs w W V) (hn : n0 ≤ w.heap.size) (hW : n0 ≤ W.heap.size) (hs : Bs < V.heap.size) (hB : Has V b cs T) (hb : n0 ≤ b) (hne : b ≠ Bs) (o : Nat) (v : Value) : RB n0 B Bs w W (V.setCell ⟨b, o, none⟩ v) :=
  h.grown hn hW hs (r := some b) ⟨rfl, rfl, rfl, by simp, fun k _ hk => Below.heap_setCell V ⟨b, o, none⟩ v k (fun e => hk (by rw [e]))⟩ (fun k e => by cases e; exact ⟨hb, hne, hasCells hB⟩)
theorem grownRow (V : World) (b : Nat) (cs : Array Value) : V.grownBy (V.setRow b cs) (some b) :=
  ⟨rfl, rfl, rfl, by simp, fun k _ hk => setRow_other V b k cs (fun e => hk (by rw [e]))⟩
theorem RB.row {n0 B Bs b : Nat} {w W V : World} {cs : Array Value} {T : TypeId} (h : RB n0 B Bs w W V) (hn : n0 ≤ w.heap.size) (hW : n0 ≤ W.heap.size) (hs : Bs < V.heap.size) (hB : Has V b cs T) (hb : n0 ≤ b) (hne : b ≠ Bs) (cs' : Array Value) : RB n0 B Bs w W (V.setRow b cs') :=
  h.grown hn hW hs (grownRow V b cs') (fun k e => by cases e; exact ⟨hb, hne, hasCells hB⟩)
/- what speaks of cells alone abides whatever is no cells -/
theorem hasOwn {A B : World} {row : Option Nat} {b : Nat} {cs : Array Value} {T : TypeId} (h : Has A b cs T) (hg : A.grownBy B row) (hr : ∀ r, row = some r → ∃ o : Obj, A.heap[r]? = some o ∧ o.isCells = false) : Has B b cs T :=
  h.grown hg (fun e => by obtain ⟨o, ho, hc⟩ := hr b e.symm; rw [hasCells h o ho] at hc; cases hc)
theorem prowOwn {A B : World} {row : Option Nat} {n : Nat} {v : Value} {l : List Pt} (h : PRow A n v l) (hg : A.grownBy B row) (hr : ∀ r, row = some r → ∃ o : Obj, A.heap[r]? = some o ∧ o.isCells = false) : PRow B n v l := by
  refine h.kept hg ?_
  rcases h.own.2 with ⟨rfl, _⟩ | ⟨g, cap, cur, rfl, _, hh, _⟩
  · exact .inl rfl
  · refine .inr fun e => ?_
    obtain ⟨o, ho, hc⟩ := hr g e.symm
    rw [hh] at ho; cases ho; cases hc
end Go.Proofs.YtegibpepdndocabGreat
