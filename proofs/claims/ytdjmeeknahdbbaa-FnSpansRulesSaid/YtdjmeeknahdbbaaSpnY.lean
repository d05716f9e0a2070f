
import Derived.Test.YtdjmeeknahdbbaaSpnT
namespace Go.Proofs.Ytdjmeeknahdbbaa

/- spans with the same parts are the same spans, but for their surfaces -/
theorem chain_ok {l : List Sp} (h : SpsGood l) : Ch (-1073741825) l := chain_of h fun h0 => by
  have := (h 0 h0).1
  unfold SpGood at this; omega
theorem canon : ∀ {k l : List Sp} {lo : Int}, Ch lo k → Ch lo l → (∀ u, hits k u = hits l u) → k.map (fun s => (s.f, s.t)) = l.map (fun s => (s.f, s.t))
  | [], [], _, _, _, _ => rfl
  | [], y :: l, lo, _, ⟨h1, h2, h3⟩, h => by
    have := h y.f
    rw [hits_cons] at this
    unfold SpGood at h2
    have e1 : decide (y.f ≤ y.f) = true := by simp
    have e2 : decide (y.f < y.t) = true := decide_eq_true (by omega)
    rw [e1, e2] at this
    simp [hits] at this
  | x :: k, [], lo, ⟨h1, h2, h3⟩, _, h => by
    have := h x.f
    rw [hits_cons] at this
    unfold SpGood at h2
    have e1 : decide (x.f ≤ x.f) = true := by simp
    have e2 : decide (x.f < x.t) = true := decide_eq_true (by omega)
    rw [e1, e2] at this
    simp [hits] at this
  | x :: k, y :: l, lo, ⟨a1, a2, a3⟩, ⟨b1, b2, b3⟩, h => by
    have ga := a2
    have gb := b2
    unfold SpGood at ga gb
    have at_ : ∀ u, ((decide (x.f ≤ u) && decide (u < x.t)) || hits k u) = ((decide (y.f ≤ u) && decide (u < y.t)) || hits l u) := fun u => by rw [← hits_cons, ← hits_cons]; exact h u
    have hf : x.f = y.f := by
      rcases Int.lt_trichotomy x.f y.f with hlt | he | hgt
      · have := at_ x.f
        have e1 : decide (x.f ≤ x.f) = true := by simp
        have e2 : decide (x.f < x.t) = true := decide_eq_true (by omega)
        have e3 : decide (y.f ≤ x.f) = false := decide_eq_false (by omega)
        rw [e1, e2, e3, b3.above (by omega)] at this
        simp at this
      · exact he
      · have := at_ y.f
        have e1 : decide (y.f ≤ y.f) = true := by simp
        have e2 : decide (y.f < y.t) = true := decide_eq_true (by omega)
        have e3 : decide (x.f ≤ y.f) = false := decide_eq_false (by omega)
        rw [e1, e2, e3, a3.above (by omega)] at this
        simp at this
    have ht : x.t = y.t := by
      rcases Int.lt_trichotomy x.t y.t with hlt | he | hgt
      · have := at_ x.t
        have e1 : decide (x.t < x.t) = false := by simp
        have e2 : decide (y.f ≤ x.t) = true := decide_eq_true (by omega)
        have e3 : decide (x.t < y.t) = true := decide_eq_true (by omega)
        rw [e1, e2, e3, a3.above (Int.le_refl _)] at this
        simp at this
      · exact he
      · have := at_ y.t
        have e1 : decide (y.t < y.t) = false := by simp
        have e2 : decide (x.f ≤ y.t) = true := decide_eq_true (by omega)
        have e3 : decide (y.t < x.t) = true := decide_eq_true (by omega)
        rw [e1, e2, e3, b3.above (Int.le_refl _)] at this
        simp at this
    have ih := canon a3 (by rw [ht]; exact b3) fun u => by
      by_cases hu : u ≤ x.t
      · rw [a3.above hu, b3.above (by omega)]
      · have := at_ u
        have e1 : decide (u < x.t) = false := decide_eq_false (by omega)
        have e2 : decide (u < y.t) = false := decide_eq_false (by omega)
        rw [e1, e2, Bool.and_false, Bool.and_false, Bool.false_or, Bool.false_or] at this
        exact this
    simp only [List.map_cons, hf, ht, ih]
theorem same_parts {k l : List Sp} (hk : SpsGood k) (hl : SpsGood l) (h : ∀ u, hits k u = hits l u) : ∃ (e : k.length = l.length), ∀ i (hi : i < l.length), (k[i]'(by omega)).f = l[i].f ∧ (k[i]'(by omega)).t = l[i].t := by
  have hm := canon (chain_ok hk) (chain_ok hl) h
  have e : k.length = l.length := by have := congrArg List.length hm; simpa using this
  refine ⟨e, fun i hi => ?_⟩
  have hi2 : i < k.length := by omega
  have h1 : (k.map (fun s => (s.f, s.t)))[i]? = (l.map (fun s => (s.f, s.t)))[i]? := by rw [hm]
  rw [List.getElem?_map, List.getElem?_map, List.getElem?_eq_getElem hi, List.getElem?_eq_getElem hi2] at h1
  simpa using h1
/- spans put together with themselves -/
theorem run_self {a : List Sp} : ∀ (d n j : Nat) (f s : Int), a.length = j + d → 2 * d ≤ n → spRun 1 a a n (2 * j) (2 * j) false f s = a.drop j := by
  intro d
  induction d with
  | zero =>
    intro n j f s h hn
    rw [run_done ⟨by omega, by omega⟩, List.drop_eq_nil_of_le (by omega)]
  | succ d ih =>
    intro n j f s h hn
    obtain ⟨m, rfl⟩ : ∃ m, n = m + 1 + 1 := ⟨n - 2, by omega⟩
    have hj : j < a.length := by omega
    have n1 : spNx a (2 * j) = a[j].f := by unfold spNx; rw [if_neg (by omega), en_even a j hj]
    have n2 : spNx a (2 * j + 1) = a[j].t := by unfold spNx; rw [if_neg (by omega), en_odd a j hj]
    have s1 : spSx a (2 * j) = a[j].i := by unfold spSx; rw [if_neg (by omega), su_even a j hj]
    have s2 : spSx a (2 * j + 1) = a[j].o := by unfold spSx; rw [if_neg (by omega), su_odd a j hj]
    have hp : ∀ p, pA a a p p = p + 1 := fun p => by unfold pA; rw [if_pos (Int.le_refl _)]
    have hq : ∀ p, qB a a p p = p + 1 := fun p => by unfold qB; rw [if_pos (Int.le_refl _)]
    have ht : ∀ p, atN a a p p = spNx a p := fun p => by unfold atN; rw [if_pos (Int.le_refl _)]
    have hs : ∀ p, suN 1 a a p p = spSx a p := fun p => by unfold suN; rw [if_pos (Int.le_refl _)]
    have o1 := (odd_two j).2
    have o2 : spOdd (2 * j + 1 + 1) = false := by have := (odd_two (j + 1)).1; rwa [show 2 * (j + 1) = 2 * j + 1 + 1 by omega] at this
    rw [run_open (by omega) (by rw [hp, hq, o1]; rfl), run_shut (by rw [hp, hq]; omega) (by rw [hp, hq, hp, hq, o2]; rfl)]
    rw [hp, hq, hp, hq, ht, ht, hs, hs, n1, n2, s1, s2, show 2 * j + 1 + 1 = 2 * (j + 1) by omega, ih m (j + 1) _ _ (by omega) (by omega), List.drop_eq_getElem_cons hj]
theorem total_self (a : List Sp) : spTotal 1 a a = a := by
  unfold spTotal
  have := run_self (a := a) a.length (2 * a.length + 2 * a.length) 0 0 0 (by omega) (by omega)
  simpa using this
theorem total_none {a : List Sp} (ha : SpsGood a) : spTotal 2 a a = [] := by
  obtain ⟨h1, h2⟩ := total_good (op := 2) ha ha
  have hm := canon h1 (l := []) trivial fun u => by
    rw [h2 u]
    show (hits a u && !hits a u) = hits [] u
    cases hits a u <;> rfl
  simpa using hm
end Go.Proofs.Ytdjmeeknahdbbaa
