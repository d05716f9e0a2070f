
import Derived.Test.YtegibpepdndocaaHeldD
namespace Go.Proofs.Ytegibpepdndocaa
open Go Go.RowKit

/- A region whose order is open: held operations (a mask tells which), a chain of calls that may draw from the reader in block g, and behind all of these, one after another, the last operations (stores): these are walked in the order of the text, with nothing asked of the world between them. -/
section
variable {P : Program} {ops : Array Oper} {Q : Exit → Act → World → Prop} {md : Region.Mode} {S : World → Prop}
def linB (md : Region.Mode) (ops : Array Oper) : Nat → Nat → Array Bool → Bool
  | 0, _, listed => decide (Region.ready md ops listed = [])
  | m + 1, k, listed => decide (Region.ready md ops listed = [k]) && linB md ops m (k + 1) (listed.setIfInBounds k true)
theorem lin_any : ∀ (m k : Nat) (listed : Array Bool) (a : Act) (w : World) (l : List Oper), (∀ j, j < m → l[j]? = ops[k + j]?) → l.length = m → linB md ops m k listed = true → wpList P ops Q l a w → wpAny P md ops Q m listed a w
  | 0, k, listed, a, w, l, _, hl, hB, h => by
    have : l = [] := by simpa using hl
    subst this
    exact ⟨by simpa [linB] using hB, h⟩
  | m + 1, k, listed, a, w, [], _, hl, _, _ => by simp at hl
  | m + 1, k, listed, a, w, o :: l, hlst, hl, hB, h => by
    simp only [linB, Bool.and_eq_true, decide_eq_true_eq] at hB
    obtain ⟨hr, hB⟩ := hB
    have ho : ops[k]? = some o := by simpa using (hlst 0 (by omega)).symm
    refine ⟨fun h0 => by rw [hr] at h0; simp at h0, fun i hi => ?_⟩
    rw [hr] at hi
    have hin : i = k := by simpa using hi
    subst hin
    have hw : wpOp P ops Q i (wpList P ops Q l) a w := by unfold wpOp; simp only [ho]; exact h
    exact wpOp_mono (fun a' w' h' => lin_any m (i + 1) _ a' w' l (fun j hj => by have := hlst (j + 1) (by omega); simpa [Nat.add_assoc, Nat.add_comm 1 j] using this) (by simpa using hl) hB h') hw
/- what is left of the first part -/
def heldN (P : Program) (md : Region.Mode) (ops : Array Oper) (Q : Exit → Act → World → Prop) (S : World → Prop) (n0 : Nat) : Nat → Array Bool → Act → World → Prop
  | 0, listed, a, w => (∀ k, k < n0 → listed.getD k true = true) ∧ S w ∧ ∃ F : World → Prop, (∀ w1 w2, F w1 → Below w1.heap.size w1 w2 → F w2) ∧ F w ∧ ∀ w1, S w1 → F w1 → wpAny P md ops Q (ops.size - n0) listed a w1
  | f + 1, listed, a, w => Region.ready md ops listed ≠ [] ∧ S w ∧ ∃ F : World → Prop, (∀ w1 w2, F w1 → Below w1.heap.size w1 w2 → F w2) ∧ F w ∧
      ∀ w1, S w1 → F w1 → ∀ i ∈ Region.ready md ops listed, wpOp P ops Q i (heldN P md ops Q S n0 f (listed.setIfInBounds i true)) a w1
theorem wpAny_of_heldN {n0 : Nat} : ∀ (f : Nat) (listed : Array Bool) (a : Act) (w : World), heldN P md ops Q S n0 f listed a w → wpAny P md ops Q (f + (ops.size - n0)) listed a w
  | 0, listed, a, w, h => by
    obtain ⟨_, hS, F, _, hF, hU⟩ := h
    simpa using hU w hS hF
  | f + 1, listed, a, w, h => by
    obtain ⟨h1, hS, F, _, hF, hU⟩ := h
    rw [show f + 1 + (ops.size - n0) = (f + (ops.size - n0)) + 1 by omega]
    exact ⟨fun h0 => absurd h0 h1, fun i hi => wpOp_mono (fun a' w' => wpAny_of_heldN f _ a' w') (hU w hS hF i hi)⟩
/- the last operations wait for all ahead of them, at once or through others -/
def preds (md : Region.Mode) (o : Oper) : List Nat := (o.after.toList.filter (Region.binds md)).map (·.on)
def reach (md : Region.Mode) (ops : Array Oper) : Nat → Nat → Nat → Bool
  | 0, _, _ => false
  | f + 1, t, i => match ops[t]? with
    | none => false
    | some o => (preds md o).any fun e => e == i || reach md ops f e i
def Closed (md : Region.Mode) (ops : Array Oper) (listed : Array Bool) : Prop := ∀ (k : Nat) (o : Oper), ops[k]? = some o → listed.getD k false = true → ∀ e ∈ preds md o, listed.getD e false = true
theorem reach_listed {listed : Array Bool} (hc : Closed md ops listed) : ∀ (f t i : Nat) (o : Oper), ops[t]? = some o → reach md ops f t i = true → (∀ e ∈ preds md o, listed.getD e false = true) → listed.getD i false = true
  | 0, t, i, o, _, h, _ => by simp [reach] at h
  | f + 1, t, i, o, ho, h, hl => by
    simp only [reach, ho, List.any_eq_true, Bool.or_eq_true, beq_iff_eq] at h
    obtain ⟨e, he, rfl | hr⟩ := h
    · exact hl e he
    · have hel := hl e he
      cases hoe : ops[e]? with
      | none =>
        cases f with
        | zero => simp [reach] at hr
        | succ f => simp [reach, hoe] at hr
      | some oe => exact reach_listed hc f e i oe hoe hr (hc e oe hoe hel)
theorem preds_mem {o : Oper} {listed : Array Bool} (h : ∀ e ∈ o.after, Region.binds md e = true → listed.getD e.on false = true) : ∀ e ∈ preds md o, listed.getD e false = true := fun e he => by
  simp only [preds, List.mem_map, List.mem_filter, Array.mem_toList_iff] at he
  obtain ⟨x, ⟨hx, hb⟩, rfl⟩ := he
  exact h x hx hb
theorem closed_none : Closed md ops (Array.replicate ops.size false) := fun k o _ h => by
  exfalso
  rcases Nat.lt_or_ge k ops.size with h' | h'
  · simp [h'] at h
  · simp [Array.getElem?_eq_none (show (Array.replicate ops.size false).size ≤ k by simpa using h')] at h
theorem closed_set {listed : Array Bool} {j : Nat} (hc : Closed md ops listed) (hj : j ∈ Region.ready md ops listed) : Closed md ops (listed.setIfInBounds j true) := fun k o ho hk e he => by
  obtain ⟨_, oj, hoj, hall⟩ := mem_ready.1 hj
  have keep : listed.getD e false = true → (listed.setIfInBounds j true).getD e false = true := fun h => getD_set_true h
  by_cases hkj : j = k
  · subst hkj
    have : oj = o := Option.some.inj (hoj.symm.trans ho)
    subst this
    exact keep (preds_mem hall e he)
  · refine keep (hc k o ho ?_ e he)
    rw [getD_set_ne false hkj] at hk
    exact hk
def tailWaits (md : Region.Mode) (ops : Array Oper) (n0 : Nat) : Bool := (List.range (ops.size - n0)).all fun t => (List.range n0).all fun i => reach md ops ops.size (n0 + t) i
theorem tailWaits_spec {n0 t i : Nat} (h : tailWaits md ops n0 = true) (h1 : n0 ≤ t) (h2 : t < ops.size) (hi : i < n0) : reach md ops ops.size t i = true := by
  have := List.all_eq_true.1 (List.all_eq_true.1 h (t - n0) (List.mem_range.2 (by omega))) i (List.mem_range.2 hi)
  rwa [show n0 + (t - n0) = t by omega] at this
theorem heldN_first {n0 i : Nat} {oi : Oper} {v : Value} (hstab : ∀ w w', S w → Below w.heap.size w w' → S w') (hi : ops[i]? = some oi)
    (hsel : ∀ (j : Nat) (o : Oper) cs b, ops[j]? = some o → o.op ≠ .select cs b)
    (hQ : ∀ c a w, Q (.panic c) (a.put oi.dst v) w → Q (.panic c) a w) (hin : i < n0) (hw : tailWaits md ops n0 = true) :
    ∀ (f : Nat) (listed : Array Bool) (a : Act) (F : World → Prop), Closed md ops listed → (∀ w1 w2, F w1 → Below w1.heap.size w1 w2 → F w2) →
      (∀ j oj, ops[j]? = some oj → j ≠ i → listed.getD j true = false → (∀ e ∈ oj.after, Region.binds md e = true → e.on ≠ i) → oi.apart ops oj = true) →
      i ∈ Region.ready md ops listed → Vyld P ops S oi v a →
      (∀ w, S w → F w → heldN P md ops Q S n0 f (listed.setIfInBounds i true) (a.put oi.dst v) w) → ∀ w, S w → F w → heldN P md ops Q S n0 (f + 1) listed a w := by
  have notail : ∀ (listed : Array Bool) (j : Nat), Closed md ops listed → j ∈ Region.ready md ops listed → i ∈ Region.ready md ops listed → j ≠ i → j < n0 := fun listed j hc hj hr hne => by
    refine Classical.byContradiction fun hge => ?_
    obtain ⟨_, oj, hoj, hall⟩ := mem_ready.1 hj
    have hlt : j < ops.size := (Array.getElem?_eq_some_iff.1 hoj).1
    have h1 := reach_listed hc _ j i oj hoj (tailWaits_spec hw (by omega : n0 ≤ j) hlt hin) (preds_mem hall)
    rw [getD_both (mem_ready.1 hr).1] at h1
    cases h1
  intro f
  induction f with
  | zero =>
    intro listed a F hcl hF hfree hr hy H w hS hFw
    refine ⟨fun h => (by rw [h] at hr; cases hr), hS, F, hF, hFw, fun w1 hS1 hF1 j hj => ?_⟩
    by_cases hji : j = i
    · subst hji
      exact hy.wpOp hi hS1 fun w' hb => H w' (hstab _ _ hS1 hb) (hF _ _ hF1 hb)
    · have hjn := notail listed j hcl hj hr hji
      have h1 := (H w hS hFw).1 j hjn
      rw [getD_set_ne true (Ne.symm hji)] at h1
      rw [(mem_ready.1 hj).1] at h1
      cases h1
  | succ f ih =>
    intro listed a F hcl hF hfree hr hy H w hS hFw
    refine ⟨fun h => (by rw [h] at hr; cases hr), hS, F, hF, hFw, fun w1 hS1 hF1 j hj => ?_⟩
    by_cases hji : j = i
    · subst hji
      exact hy.wpOp hi hS1 fun w' hb => H w' (hstab _ _ hS1 hb) (hF _ _ hF1 hb)
    · obtain ⟨hne, _, F2, hF2, hF2w, hU⟩ := H w1 hS1 hF1
      have h1 := hU w1 hS1 hF2w j (ready_mono hj hji)
      obtain ⟨hjun, oj, hoj, hall⟩ := mem_ready.1 hj
      have hiun := (mem_ready.1 hr).1
      have hnot : ∀ e ∈ oj.after, Region.binds md e = true → e.on ≠ i := fun e he hb heq => by
        have h1 := hall e he hb
        rw [heq, getD_both hiun] at h1
        cases h1
      have h2 := wpOp_putV hoj (hfree j oj hoj hji hjun hnot) (fun cs b => hsel i oi cs b hi) (fun cs b => hsel j oj cs b hoj) hQ hy h1
      have hfree' : ∀ k ok, ops[k]? = some ok → k ≠ i → (listed.setIfInBounds j true).getD k true = false →
          (∀ e ∈ ok.after, Region.binds md e = true → e.on ≠ i) → oi.apart ops ok = true := fun k ok hk hki hunk hno => by
        refine hfree k ok hk hki ?_ hno
        by_cases hjk : j = k
        · subst hjk; exact hjun
        · rw [getD_set_ne true hjk] at hunk; exact hunk
      refine wpOp_mono (fun a' w' h3 => ?_) h2
      obtain ⟨hy', h4⟩ := h3
      rw [Array.setIfInBounds_comm _ _ (Ne.symm hji)] at h4
      cases f with
      | zero =>
        obtain ⟨hall3, hS3, F3, hF3, hF3w, hU3⟩ := h4
        exact ih (listed.setIfInBounds j true) a' F3 (closed_set hcl hj) hF3 hfree' (ready_mono hr (Ne.symm hji)) hy'
          (fun w2 hS2 hF2 => ⟨hall3, hS2, F3, hF3, hF2, hU3⟩) w' hS3 hF3w
      | succ g =>
        obtain ⟨hne3, hS3, F3, hF3, hF3w, hU3⟩ := h4
        exact ih (listed.setIfInBounds j true) a' F3 (closed_set hcl hj) hF3 hfree' (ready_mono hr (Ne.symm hji)) hy'
          (fun w2 hS2 hF2 => ⟨hne3, hS2, F3, hF3, hF2, hU3⟩) w' hS3 hF3w
def headN (md : Region.Mode) (ops : Array Oper) (n0 : Nat) (T : Array Bool → Bool) : List Nat → Array Bool → Bool
  | [], listed => T listed
  | k :: ks, listed => (Region.ready md ops listed).contains k && Region.free md ops listed k && decide (k < n0) && headN md ops n0 T ks (listed.setIfInBounds k true)
theorem heldN_lex {n0 g : Nat} {T : Array Bool → Bool} {F : World → Prop} (hstabF : ∀ w1 w2, F w1 → Below w1.heap.size w1 w2 → F w2) (hstab : ∀ w w', S w → Below w.heap.size w w' → S w') (hsel : Region.noSelect ops = true) (htw : tailWaits md ops n0 = true)
    (hQ : ∀ c a w (d : Option Tmp) (v : Value), Q (.panic c) (a.put d v) w → Q (.panic c) a w) {Fin : Act → Prop}
    (hfin : ∀ listed a, Closed md ops listed → T listed = true → Fin a → ∀ w, S w → F w → heldN P md ops Q S n0 g listed a w) :
    ∀ (ks : List Nat) (l : List Oper) (listed : Array Bool) (a : Act), Closed md ops listed → ks.map (fun k => ops[k]?) = l.map some →
    headN md ops n0 T ks listed = true → wpHeld P ops S Fin l a → ∀ w, S w → F w → heldN P md ops Q S n0 (ks.length + g) listed a w
  | [], [], listed, a, hcl, _, hB, h => by simpa using hfin listed a hcl (by simpa [headN] using hB) h
  | [], _ :: _, _, _, _, hm, _, _ => by simp at hm
  | _ :: _, [], _, _, _, hm, _, _ => by simp at hm
  | k :: ks, o :: l, listed, a, hcl, hm, hB, h => by
    simp only [List.map_cons, List.cons.injEq] at hm
    obtain ⟨h0, hm⟩ := hm
    simp only [headN, Bool.and_eq_true, decide_eq_true_eq] at hB
    obtain ⟨⟨⟨hr, hf⟩, hk⟩, hB'⟩ := hB
    have hr' : k ∈ Region.ready md ops listed := by simpa using hr
    obtain ⟨v, hy, hK⟩ := h
    rw [List.length_cons, show ks.length + 1 + g = (ks.length + g) + 1 by omega]
    intro w hS hFw
    exact heldN_first (F := F) hstab h0 (Region.noSelect_spec hsel) (fun c a w => hQ c a w _ _) hk htw (ks.length + g) listed a hcl hstabF
      (Region.free_spec h0 hf) hr' hy
      (fun w hS hFw => heldN_lex hstabF hstab hsel htw hQ hfin ks l _ _ (closed_set hcl hr') hm hB' hK w hS hFw) w hS hFw
def chainN (md : Region.Mode) (ops : Array Oper) (n0 : Nat) : List Nat → Array Bool → Bool
  | [], listed => seenB n0 listed && linB md ops (ops.size - n0) n0 listed
  | i :: is, listed => decide (Region.ready md ops listed = [i]) && ((ops[i]?).map (·.guard.isNone)).getD false && chainN md ops n0 is (listed.setIfInBounds i true)
theorem held_chainN {n0 g : Nat} {tl : List Oper} (hby : ∀ w w', S w → w.grownBy w' (some g) → S w') (htl : ∀ j, j < ops.size - n0 → tl[j]? = ops[n0 + j]?) (hlen : tl.length = ops.size - n0) :
    ∀ (is : List Nat) (l : List Oper) (listed : Array Bool) (a : Act) (F : World → Prop), is.map (fun k => ops[k]?) = l.map some → chainN md ops n0 is listed = true → Stab F →
    wpC P ops Q S g (fun a F => ∀ w, S w → F w → wpList P ops Q tl a w) l a F → ∀ w, S w → F w → heldN P md ops Q S n0 is.length listed a w
  | [], _ :: _, _, _, _, hm, _, _, _ => by simp at hm
  | _ :: _, [], _, _, _, hm, _, _, _ => by simp at hm
  | [], [], listed, a, F, _, hB, hF, h => fun w hS hFw => by
    simp only [chainN, Bool.and_eq_true] at hB
    exact ⟨fun k hk => seenB_spec hB.1 hk, hS, F, hF, hFw, fun w1 hS1 hF1 => lin_any _ n0 listed a w1 tl htl hlen hB.2 (h w1 hS1 hF1)⟩
  | i :: is, o :: l, listed, a, F, hm, hB, hF, h => fun w hS hFw => by
    simp only [List.map_cons, List.cons.injEq] at hm
    obtain ⟨h0, hm⟩ := hm
    simp only [chainN, Bool.and_eq_true, decide_eq_true_eq] at hB
    obtain ⟨⟨hr, hgi⟩, hB'⟩ := hB
    simp only [h0, Option.map_some, Option.getD_some] at hgi
    refine ⟨by rw [hr]; simp, hS, F, hF, hFw, fun w1 hS1 hF1 j hj => ?_⟩
    rw [hr] at hj
    have hin : j = i := by simpa using hj
    subst hin
    unfold wpOp
    simp only [h0, want_none hgi, if_true]
    refine .inl (Oper.wp_mono (fun a' w' h' => ?_) (h w1 hS1 hF1))
    obtain ⟨hgr, F', hF', hFw', hC⟩ := h'
    exact held_chainN hby htl hlen is l (listed.setIfInBounds j true) a' F' hm hB' hF' hC w' (hby _ _ hS1 hgr) hFw'
end
/- the operations that a mask tells, and their numbers -/
def maskL {α : Type} : List Bool → List α → List α
  | true :: m, x :: l => x :: maskL m l
  | false :: m, _ :: l => maskL m l
  | _, _ => []
def maskI : Nat → List Bool → List Nat
  | k, true :: m => k :: maskI (k + 1) m
  | k, false :: m => maskI (k + 1) m
  | _, [] => []
theorem mask_map {ops : Array Oper} : ∀ (m : List Bool) (l : List Oper) (k : Nat), m.length ≤ l.length → (∀ j, j < l.length → l[j]? = ops[k + j]?) → (maskI k m).map (fun i => ops[i]?) = (maskL m l).map some
  | [], l, k, _, _ => by simp [maskI, maskL]
  | _ :: m, [], k, h, _ => by simp at h
  | b :: m, x :: l, k, h, hl => by
    have h0 : ops[k]? = some x := by simpa using (hl 0 (by simp)).symm
    have ih := mask_map m l (k + 1) (by simpa using h) (fun j hj => by have := hl (j + 1) (by simpa using hj); simpa [Nat.add_assoc, Nat.add_comm 1 j] using this)
    cases b
    · simpa [maskI, maskL] using ih
    · simp [maskI, maskL, h0, ih]
def heldNB (ops : Array Oper) (m : List Bool) : Bool :=
  Region.noSelect ops && tailWaits .any ops m.length && decide (m.length ≤ ops.size) && decide ((maskI 0 m).length + (maskI 0 (m.map not)).length = m.length) &&
  headN .any ops m.length (chainN .any ops m.length (maskI 0 (m.map not))) (maskI 0 m) (Array.replicate ops.size false)
theorem wp_region_heldN {P : Program} {Q : Exit → Act → World → Prop} {id : Nat} {a : Act} {w : World} {l : List Oper} (m : List Bool) (g : Nat) (hm : P.follows .mixedOrders = true) (hB : heldNB l.toArray m = true)
    (hQ : ∀ c a w (d : Option Tmp) (v : Value), Q (.panic c) (a.put d v) w → Q (.panic c) a w)
    (F : World → Prop) (hF : Stab F) (hFw : F w.drew)
    (h : ∀ Fin : Act → Prop, (∀ a', wpC P l.toArray Q (fun w' => w.drew.grownBy w' (some g)) g (fun a F => ∀ w', w.drew.grownBy w' (some g) → F w' → wpList P l.toArray Q (l.drop m.length) a w') (maskL (m.map not) l) a' F → Fin a') →
      wpHeld P l.toArray (fun w' => w.drew.grownBy w' (some g)) Fin (maskL m l) a) : (Code.region id l.toArray true).wp P Q a w := by
  replace h := h _ (fun _ hf => hf)
  simp only [heldNB, Bool.and_eq_true, decide_eq_true_eq] at hB
  obtain ⟨⟨⟨⟨hsel, htw⟩, hle⟩, hlen⟩, hh⟩ := hB
  have hsz : l.toArray.size = l.length := by simp
  have e1 := mask_map (ops := l.toArray) m l 0 (by omega) (fun j hj => by simp)
  have e2 := mask_map (ops := l.toArray) (m.map not) l 0 (by rw [List.length_map]; omega) (fun j hj => by simp)
  refine wp_region_any hm ?_
  have := heldN_lex (md := .any) (P := P) (ops := l.toArray) (Q := Q) (S := fun w' => w.drew.grownBy w' (some g)) (g := (maskI 0 (m.map not)).length) (T := chainN .any l.toArray m.length (maskI 0 (m.map not))) (F := F) hF grown_stab hsel htw hQ
    (Fin := fun a' => wpC P l.toArray Q (fun w' => w.drew.grownBy w' (some g)) g (fun a F => ∀ w', w.drew.grownBy w' (some g) → F w' → wpList P l.toArray Q (l.drop m.length) a w') (maskL (m.map not) l) a' F)
    (fun listed a' _ hT hf w' hS hFw' => held_chainN (fun w1 w2 h1 h2 => trans_by h1 h2) (fun j hj => by rw [List.getElem?_drop]; simp) (by simp) _ _ listed a' F e2 hT hF hf w' hS hFw')
    (maskI 0 m) (maskL m l) (Array.replicate l.toArray.size false) a closed_none e1 hh h w.drew ⟨rfl, rfl, rfl, Nat.le_refl _, fun _ _ _ => rfl⟩ hFw
  have h2 := wpAny_of_heldN _ _ _ _ this
  rw [hlen, show m.length + (l.toArray.size - m.length) = l.toArray.size by omega] at h2
  exact h2
/- the rule HeldC by a mask: the variable is made by the operation behind the masked ones, and stored into by the one behind that -/
theorem wp_region_heldCM {P : Program} {Q : Exit → Act → World → Prop} {id : Nat} {a : Act} {w : World} {l : List Oper} {oa ol : Oper} (m : List Bool) (g : Nat) (hm : P.follows .mixedOrders = true)
    (hB : heldCB l.toArray (maskI 0 m) (maskI 0 (m.map not)) m.length (m.length + 1) = true) (hle : m.length ≤ l.length) (hoa : l[m.length]? = some oa) (hol : l[m.length + 1]? = some ol)
    (hQ : ∀ c a w (d : Option Tmp) (v : Value), Q (.panic c) (a.put d v) w → Q (.panic c) a w) (hQ2 : ∀ c a w (d : Option Tmp) (v : Value), Q (.panic c) a w → Q (.panic c) (a.put d v) w) (obj : Obj)
    (hal : ∀ (a : Act) (w : World) (K : Value → World → Prop), K (ptr w.heap.size) (w.alloc obj) → VGo P K ((execOp a.eval oa).run P w))
    (F : World → Prop) (hF : Stab F) (hFw : F w.drew) (hg : g < w.heap.size)
    (h : ∀ Fin : Act → Prop, (∀ a', wpC P l.toArray Q (fun w' => w.drew.grownBy w' (some g)) g (FinC P l.toArray Q (fun w' => w.drew.grownBy w' (some g)) w.heap.size obj oa ol) (maskL (m.map not) l) a' F → Fin a') →
      wpHeld P l.toArray (fun w' => w.drew.grownBy w' (some g)) Fin (maskL m l) a) : (Code.region id l.toArray true).wp P Q a w :=
  wp_region_heldC (maskI 0 m) (maskI 0 (m.map not)) m.length (m.length + 1) g hm hB (mask_map m l 0 hle (fun j hj => by simp)) (mask_map (m.map not) l 0 (by rw [List.length_map]; exact hle) (fun j hj => by simp)) (by simpa using hoa) (by simpa using hol) hQ hQ2 obj hal F hF hFw hg h
end Go.Proofs.Ytegibpepdndocaa
