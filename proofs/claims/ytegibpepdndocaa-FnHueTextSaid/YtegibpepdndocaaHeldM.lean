
import Derived.Test.YtegibpepdndocaaHeldN
namespace Go.Proofs.Ytegibpepdndocaa
open Go Go.RowKit

/- The rule HeldN by a schedule: each step is a held operation (true: it may come up as soon as its turn is, whatever else is ready) or one of the chain (false: then nothing else is ready). A held operation may hang on what the chain has drawn. -/
section
variable {P : Program} {ops : Array Oper} {Q : Exit → Act → World → Prop} {md : Region.Mode} {S : World → Prop}
def wpM (P : Program) (ops : Array Oper) (Q : Exit → Act → World → Prop) (S : World → Prop) (g : Nat) (Fin : Act → (World → Prop) → Prop) : List (Bool × Oper) → Act → (World → Prop) → Prop
  | [], a, F => Fin a F
  | (true, o) :: rest, a, F => ∃ v, Vyld P ops S o v a ∧ wpM P ops Q S g Fin rest (a.put o.dst v) F
  | (false, o) :: rest, a, F => ∀ w, S w → F w → o.wp P a w (fun a' w' => w.grownBy w' (some g) ∧ ∃ F', Stab F' ∧ F' w' ∧ wpM P ops Q S g Fin rest a' F') Q
def schL (l : List Oper) : List (Bool × Nat) → List (Bool × Oper)
  | [] => []
  | (b, k) :: r => match l[k]? with
    | some o => (b, o) :: schL l r
    | none => []
def schB (md : Region.Mode) (ops : Array Oper) (n0 : Nat) : List (Bool × Nat) → Array Bool → Bool
  | [], listed => seenB n0 listed && linB md ops (ops.size - n0) n0 listed
  | (true, k) :: r, listed => (Region.ready md ops listed).contains k && Region.free md ops listed k && decide (k < n0) && decide (k < ops.size) && schB md ops n0 r (listed.setIfInBounds k true)
  | (false, i) :: r, listed => decide (Region.ready md ops listed = [i]) && ((ops[i]?).map (·.guard.isNone)).getD false && decide (i < ops.size) && schB md ops n0 r (listed.setIfInBounds i true)
theorem held_sched {n0 g : Nat} {tl l : List Oper} (hops : ops = l.toArray) (hstab : ∀ w w', S w → Below w.heap.size w w' → S w') (hby : ∀ w w', S w → w.grownBy w' (some g) → S w') (hsel : Region.noSelect ops = true) (htw : tailWaits md ops n0 = true)
    (hQ : ∀ c a w (d : Option Tmp) (v : Value), Q (.panic c) (a.put d v) w → Q (.panic c) a w) (htl : ∀ j, j < ops.size - n0 → tl[j]? = ops[n0 + j]?) (hlen : tl.length = ops.size - n0) :
    ∀ (sch : List (Bool × Nat)) (listed : Array Bool) (a : Act) (F : World → Prop), Closed md ops listed → schB md ops n0 sch listed = true → Stab F →
    wpM P ops Q S g (fun a F => ∀ w, S w → F w → wpList P ops Q tl a w) (schL l sch) a F → ∀ w, S w → F w → heldN P md ops Q S n0 sch.length listed a w
  | [], listed, a, F, hcl, hB, hF, h => fun w hS hFw => by
    simp only [schB, Bool.and_eq_true] at hB
    exact ⟨fun k hk => seenB_spec hB.1 hk, hS, F, hF, hFw, fun w1 hS1 hF1 => lin_any _ n0 listed a w1 tl htl hlen hB.2 (h w1 hS1 hF1)⟩
  | (true, k) :: r, listed, a, F, hcl, hB, hF, h => fun w hS hFw => by
    simp only [schB, Bool.and_eq_true, decide_eq_true_eq] at hB
    obtain ⟨⟨⟨⟨hr, hf⟩, hk⟩, hks⟩, hB'⟩ := hB
    have h0 : ops[k]? = some (ops[k]) := Array.getElem?_eq_getElem hks
    have hl0 : l[k]? = some (ops[k]) := by rw [← h0, hops]; simp
    simp only [schL, hl0, wpM] at h
    obtain ⟨v, hy, hK⟩ := h
    have hr' : k ∈ Region.ready md ops listed := by simpa using hr
    exact heldN_first (F := F) hstab h0 (Region.noSelect_spec hsel) (fun c a w => hQ c a w _ _) hk htw r.length listed a hcl hF (Region.free_spec h0 hf) hr' hy
      (fun w hS hFw => held_sched hops hstab hby hsel htw hQ htl hlen r _ _ F (closed_set hcl hr') hB' hF hK w hS hFw) w hS hFw
  | (false, i) :: r, listed, a, F, hcl, hB, hF, h => fun w hS hFw => by
    simp only [schB, Bool.and_eq_true, decide_eq_true_eq] at hB
    obtain ⟨⟨⟨hr, hgi⟩, his⟩, hB'⟩ := hB
    have h0 : ops[i]? = some (ops[i]) := Array.getElem?_eq_getElem his
    have hl0 : l[i]? = some (ops[i]) := by rw [← h0, hops]; simp
    simp only [schL, hl0, wpM] at h
    simp only [h0, Option.map_some, Option.getD_some] at hgi
    refine ⟨by rw [hr]; simp, hS, F, hF, hFw, fun w1 hS1 hF1 j hj => ?_⟩
    have hj0 := hj
    rw [hr] at hj
    have hin : j = i := by simpa using hj
    subst hin
    unfold wpOp
    simp only [h0, want_none hgi, if_true]
    refine .inl (Oper.wp_mono (fun a' w' h' => ?_) (h w1 hS1 hF1))
    obtain ⟨hgr, F', hF', hFw', hC⟩ := h'
    exact held_sched hops hstab hby hsel htw hQ htl hlen r (listed.setIfInBounds j true) a' F' (closed_set hcl hj0) hB' hF' hC w' (hby _ _ hS1 hgr) hFw'
end
def heldMB (ops : Array Oper) (sch : List (Bool × Nat)) : Bool :=
  Region.noSelect ops && tailWaits .any ops sch.length && decide (sch.length ≤ ops.size) && schB .any ops sch.length sch (Array.replicate ops.size false)
theorem wp_region_heldM {P : Program} {Q : Exit → Act → World → Prop} {id : Nat} {a : Act} {w : World} {l : List Oper} (sch : List (Bool × Nat)) (g : Nat) (hm : P.follows .mixedOrders = true) (hB : heldMB l.toArray sch = true)
    (hQ : ∀ c a w (d : Option Tmp) (v : Value), Q (.panic c) (a.put d v) w → Q (.panic c) a w)
    (F : World → Prop) (hF : Stab F) (hFw : F w.drew)
    (h : ∀ Fin : Act → (World → Prop) → Prop, (∀ a' F', (∀ w', w.drew.grownBy w' (some g) → F' w' → wpList P l.toArray Q (l.drop sch.length) a' w') → Fin a' F') →
      wpM P l.toArray Q (fun w' => w.drew.grownBy w' (some g)) g Fin (schL l sch) a F) : (Code.region id l.toArray true).wp P Q a w := by
  replace h := h _ (fun _ _ hf => hf)
  simp only [heldMB, Bool.and_eq_true, decide_eq_true_eq] at hB
  obtain ⟨⟨⟨hsel, htw⟩, hle⟩, hh⟩ := hB
  refine wp_region_any hm ?_
  have := held_sched (md := .any) (P := P) (ops := l.toArray) (Q := Q) (S := fun w' => w.drew.grownBy w' (some g)) rfl grown_stab (fun w1 w2 h1 h2 => trans_by h1 h2) hsel htw hQ
    (tl := l.drop sch.length) (fun j hj => by rw [List.getElem?_drop]; simp) (by simp) sch (Array.replicate l.toArray.size false) a F closed_none hh hF h w.drew ⟨rfl, rfl, rfl, Nat.le_refl _, fun _ _ _ => rfl⟩ hFw
  have h2 := wpAny_of_heldN _ _ _ _ this
  rw [show sch.length + (l.toArray.size - sch.length) = l.toArray.size by omega] at h2
  exact h2
theorem wpM_nil {P : Program} {ops : Array Oper} {Q : Exit → Act → World → Prop} {S : World → Prop} {g : Nat} {Fin : Act → (World → Prop) → Prop} {a : Act} {F : World → Prop} (h : Fin a F) : wpM P ops Q S g Fin [] a F := h
theorem wpM_op {P : Program} {ops : Array Oper} {Q : Exit → Act → World → Prop} {S : World → Prop} {g : Nat} {Fin : Act → (World → Prop) → Prop} {o : Oper} {rest : List (Bool × Oper)} {a : Act} {F : World → Prop} (R : Value → World → Prop)
    (h : ∀ w, S w → F w → ∀ K : Value → World → Prop, (∀ v w', w.grownBy w' (some g) → R v w' → K v w') → VGo P K ((execOp a.eval o).run P w))
    (hr : ∀ v w', R v w' → ∃ F', Stab F' ∧ F' w' ∧ wpM P ops Q S g Fin rest (a.put o.dst v) F') : wpM P ops Q S g Fin ((false, o) :: rest) a F := fun w hS hF =>
  upon_VGo2 (h w hS hF _ fun v w' hg hR => ⟨hg, hr v w' hR⟩)
theorem wpM_run {P : Program} {ops : Array Oper} {Q : Exit → Act → World → Prop} {S : World → Prop} {g : Nat} {Fin : Act → (World → Prop) → Prop} {a : Act} {F : World → Prop} {o : Oper} {rest : List (Bool × Oper)} (v : Value) (hw : Region.wanted o (yielded ops a.tmps) = true)
    (h : ∀ w, S w → ∀ K : Value → World → Prop, (∀ w', Below w.heap.size w w' → K v w') → VGo P K ((execOp a.eval o).run P w))
    (hr : wpM P ops Q S g Fin rest (a.put o.dst v) F) : wpM P ops Q S g Fin ((true, o) :: rest) a F := ⟨v, .inl ⟨hw, h⟩, hr⟩
end Go.Proofs.Ytegibpepdndocaa
