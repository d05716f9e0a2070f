import Derived.Test.YtfcafomjldomfaaBckq
import Derived.Test.YtfcafomjldomfaaJnCq
namespace Go.Proofs.Ytfcafomjldomfaa
open Go.ChangeShapes Go.WideShapes Go.ChangeAt Go.RowKit
set_option linter.unusedSimpArgs false
set_option linter.unusedVariables false

/- the loop over the parts, whatever order they come in -/
def st2 (l : List Pt) (s : (Nat → Mo) × List Pt) (x : Ix l) : (Nat → Mo) × List Pt :=
  (spread s.1 (made (pa l x.1)) (own (pa l x.1) (s.1 x.1)), if (pa l x.1).k ≤ 2 then s.2.set x.1 (leafAt (s.1 x.1) (pa l x.1)) else s.2)
def Sf (l : List Pt) (pre : List (Ix l)) : (Nat → Mo) × List Pt := pre.foldl (st2 l) (Jn Mo.zero l 0, l)
theorem Sf_snoc (l : List Pt) (pre : List (Ix l)) (x : Ix l) : Sf l (pre ++ [x]) = st2 l (Sf l pre) x := by simp [Sf]
theorem Sf_len (l : List Pt) : ∀ pre : List (Ix l), (Sf l pre).2.length = l.length := by
  intro pre
  suffices h : ∀ (pre : List (Ix l)) (s : (Nat → Mo) × List Pt), s.2.length = l.length → (pre.foldl (st2 l) s).2.length = l.length from h pre _ rfl
  intro pre
  induction pre with
  | nil => intro s h; exact h
  | cons x pre ih =>
    intro s h
    refine ih _ ?_
    unfold st2
    simp only
    split <;> simp [h]
/- whether a round lets the loop go on -/
def PassJ (l : List Pt) (J : Nat → Mo) (i : Nat) : Prop :=
  (J i).ok ∧ ((pa l i).k = 6 → (pa l i).m.ok ∧ (tog (pa l i).m (J i)).ok) ∧ ((pa l i).k ≤ 2 → LeafP (leafAt (J i) (pa l i)))
def AllP (l : List Pt) (pre : List (Ix l)) : Prop := ∀ ini x rest, pre = ini ++ x :: rest → PassJ l (Sf l ini).1 x.1
theorem AllP_nil (l : List Pt) : AllP l [] := fun ini x rest h => by cases ini <;> cases h
theorem AllP_snoc {l : List Pt} {pre : List (Ix l)} {x : Ix l} (h : AllP l pre) (hx : PassJ l (Sf l pre).1 x.1) : AllP l (pre ++ [x]) := by
  intro ini y rest e
  rcases List.eq_nil_or_concat rest with rfl | ⟨r, z, rfl⟩
  · obtain ⟨rfl, e2⟩ := List.append_inj' e rfl
    cases e2; exact hx
  · rw [List.concat_eq_append, ← List.cons_append, ← List.append_assoc] at e
    obtain ⟨e1, _⟩ := List.append_inj' e rfl
    exact h ini y r e1
/- from the last part on it is the motions of the tree, and the leaves where they stand -/
def stL (l : List Pt) (t : Nat) : List Pt := (List.range l.length).map fun i => if l.length - t ≤ i then lv l i else pa l i
theorem Sf_J (l : List Pt) (h1 : 1 ≤ l.length) : ∀ t, (Sf l (upto (bk l h1) t)).1 = Jn Mo.zero l t
  | 0 => rfl
  | t + 1 => by
    rw [upto_succ, Sf_snoc]
    simp only [st2, Sf_J l h1 t, bk, Jn]
theorem Sf_R {l : List Pt} (hF : Form l) (h1 : 1 ≤ l.length) : ∀ t, t ≤ l.length → (Sf l (upto (bk l h1) t)).2 = stL l t
  | 0, _ => by
    apply List.ext_getElem
    · simp [Sf, upto, stL]
    · intro i hi hj
      simp only [stL, List.length_map, List.length_range] at hj
      simp only [Sf, upto, List.range_zero, List.map_nil, List.foldl_nil, stL, List.getElem_map, List.getElem_range]
      rw [if_neg (by omega), pa_get l i hj]
  | t + 1, ht => by
    rw [upto_succ, Sf_snoc]
    have ih := Sf_R hF h1 t (by omega)
    simp only [st2, Sf_J l h1 t, bk, ih]
    have hm := jn_mo hF Mo.zero (i := l.length - 1 - t) (by omega)
    rw [show l.length - 1 - (l.length - 1 - t) = t by omega] at hm
    rw [hm]
    apply List.ext_getElem
    · split <;> simp [stL]
    · intro i hi hj
      simp only [stL, List.length_map, List.length_range] at hj
      by_cases e : i = l.length - 1 - t
      · subst e
        by_cases hk : (pa l (l.length - 1 - t)).k ≤ 2
        · simp only [hk, if_true, List.getElem_set_self]
          simp only [stL, List.getElem_map, List.getElem_range]
          rw [if_pos (by omega), lv, if_pos hk]
        · simp only [hk, if_false]
          simp only [stL, List.getElem_map, List.getElem_range]
          rw [if_neg (by omega), if_pos (by omega), lv, if_neg hk]
      · have e2 : (stL l t)[i]'(by simp [stL]; exact hj) = (stL l (t + 1))[i]'(by simp [stL]; exact hj) := by
          simp only [stL, List.getElem_map, List.getElem_range]
          by_cases h3 : l.length - t ≤ i
          · rw [if_pos h3, if_pos (by omega)]
          · rw [if_neg h3, if_neg (by omega)]
        rw [← e2]
        split
        · rw [List.getElem_set_ne (by omega)]
        · rfl
theorem stL_all (l : List Pt) : stL l l.length = lvs l := by
  unfold stL lvs
  apply List.map_congr_left
  intro i _
  rw [if_pos (by omega)]
theorem pass_iff {l : List Pt} (hF : Form l) (h1 : 1 ≤ l.length) {t : Nat} (ht : t < l.length) (hm : (mo l (l.length - 1 - t)).ok) :
    PassJ l (Sf l (upto (bk l h1) t)).1 (bk l h1 t).1 ↔ (MOk l (l.length - 1 - t) ∧ ((pa l (l.length - 1 - t)).k ≤ 2 → LeafP (leafAt (mo l (l.length - 1 - t)) (pa l (l.length - 1 - t))))) := by
  have hj := jn_mo hF Mo.zero (i := l.length - 1 - t) (by omega)
  rw [show l.length - 1 - (l.length - 1 - t) = t by omega] at hj
  rw [Sf_J]
  show PassJ l (Jn Mo.zero l t) (l.length - 1 - t) ↔ _
  unfold PassJ MOk
  rw [hj]
  exact ⟨fun h => ⟨h.2.1, h.2.2⟩, fun h => ⟨hm, h.1, h.2⟩⟩
theorem upto_split {α : Type} (f : Nat → α) {t n : Nat} (h : t < n) : upto f n = upto f t ++ f t :: (upto (fun i => f (t + 1 + i)) (n - t - 1)) := by
  have e : n = t + (1 + (n - t - 1)) := by omega
  unfold upto
  conv => lhs; rw [e, List.range_add, List.map_append, List.range_add]
  simp [Function.comp_def, Nat.add_assoc]
theorem all_ok {l : List Pt} (hF : Form l) (h1 : 1 ≤ l.length) : ∀ k, k ≤ l.length → AllP l (upto (bk l h1) k) →
    ∀ t, t < k → MOk l (l.length - 1 - t) ∧ ((pa l (l.length - 1 - t)).k ≤ 2 → LeafP (leafAt (mo l (l.length - 1 - t)) (pa l (l.length - 1 - t)))) := by
  intro k hk hA t
  induction t using Nat.strongRecOn with
  | _ t ih =>
    intro ht
    have hm : (mo l (l.length - 1 - t)).ok := mo_ok hF (by omega) fun j hj hij => by
      have := (ih (l.length - 1 - j) (by omega) (by omega)).1
      rwa [show l.length - 1 - (l.length - 1 - j) = j by omega] at this
    exact (pass_iff hF h1 (by omega) hm).1 (hA _ _ _ (upto_split (bk l h1) ht))
theorem solid_of_all {l : List Pt} (hF : Form l) (h1 : 1 ≤ l.length) (hA : AllP l (upto (bk l h1) l.length)) : SolidP l := by
  have h := all_ok hF h1 l.length (Nat.le_refl _) hA
  refine ⟨hF, fun i hi => ?_, fun i hi => ?_⟩
  · have := (h (l.length - 1 - i) (by omega)).1
    rwa [show l.length - 1 - (l.length - 1 - i) = i by omega] at this
  · have := (h (l.length - 1 - i) (by omega)).2
    rwa [show l.length - 1 - (l.length - 1 - i) = i by omega] at this
theorem not_solid {l : List Pt} (hF : Form l) (h1 : 1 ≤ l.length) {k : Nat} (hk : k ≤ l.length) {ini : List (Ix l)} {x : Ix l} (he : upto (bk l h1) k = ini ++ [x]) (hx : ¬ PassJ l (Sf l ini).1 x.1) : ¬ SolidP l := by
  intro hS
  obtain ⟨t, rfl⟩ : ∃ t, k = t + 1 := by
    cases k with
    | zero => simp [upto] at he
    | succ t => exact ⟨t, rfl⟩
  rw [upto_succ] at he
  obtain ⟨rfl, e2⟩ := List.append_inj' he rfl
  cases e2
  have hm : (mo l (l.length - 1 - t)).ok := mo_ok hF (by omega) fun j hj _ => hS.2.1 j hj
  exact hx ((pass_iff hF h1 (by omega) hm).2 ⟨hS.2.1 _ (by omega), hS.2.2 _ (by omega)⟩)
end Go.Proofs.Ytfcafomjldomfaa
