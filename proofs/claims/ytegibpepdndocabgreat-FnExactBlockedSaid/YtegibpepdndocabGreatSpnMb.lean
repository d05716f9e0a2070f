import Derived.Outline
namespace Go.Proofs.YtegibpepdndocabGreat

/- spans, as plain mathematics: one span is four integers -/
structure Sp where
  f : Int
  t : Int
  i : Int
  o : Int
def Sp.z : Sp := ⟨0, 0, 0, 0⟩
def SpGood (s : Sp) : Prop := -1073741824 ≤ s.f ∧ s.f ≤ 1073741824 ∧ -1073741824 ≤ s.t ∧ s.t ≤ 1073741824 ∧ s.f < s.t ∧ -1000 ≤ s.i ∧ s.i ≤ 1000 ∧ -1000 ≤ s.o ∧ s.o ≤ 1000
def SpsGood (l : List Sp) : Prop := ∀ k, (h : k < l.length) → SpGood l[k] ∧ ∀ j, (hj : j + 1 = k) → (l[j]'(by omega)).t < l[k].f
def SOk (l : List Sp) : Prop := l.length ≤ 200 ∧ SpsGood l

instance (s : Sp) : Decidable (SpGood s) := by unfold SpGood; infer_instance
def sOk (l : List Sp) : Bool := decide (l.length ≤ 200) && (List.range l.length).all fun k => decide (SpGood (l.getD k Sp.z)) && (decide (k = 0) || decide ((l.getD (k - 1) Sp.z).t < (l.getD k Sp.z).f))
theorem sOk_iff (l : List Sp) : sOk l = true ↔ SOk l := by
  unfold sOk SOk SpsGood
  simp only [Bool.and_eq_true, Bool.or_eq_true, decide_eq_true_eq, List.all_eq_true, List.mem_range]
  refine ⟨fun ⟨h1, h2⟩ => ⟨h1, fun k hk => ?_⟩, fun ⟨h1, h2⟩ => ⟨h1, fun k hk => ?_⟩⟩
  · obtain ⟨h3, h4⟩ := h2 k hk
    simp only [List.getD, List.getElem?_eq_getElem hk, Option.getD_some] at h3 h4
    refine ⟨h3, fun j hj => ?_⟩
    subst hj
    have hj' : j < l.length := by omega
    simpa [hj'] using h4
  · obtain ⟨h3, h4⟩ := h2 k hk
    simp only [List.getD, List.getElem?_eq_getElem hk, Option.getD_some]
    refine ⟨h3, ?_⟩
    cases k with
    | zero => exact .inl rfl
    | succ j =>
      have hj' : j < l.length := by omega
      right; simpa [hj'] using h4 j rfl
theorem sOk_true {l : List Sp} (h : SOk l) : sOk l = true := (sOk_iff l).2 h
theorem sOk_false {l : List Sp} (h : ¬ SOk l) : sOk l = false := by
  cases hb : sOk l with
  | false => rfl
  | true => exact absurd ((sOk_iff l).1 hb) h

/- the ends, by their index, and their surfaces -/
def spEn (l : List Sp) (k : Nat) : Int := if k % 2 = 0 then (l.getD (k / 2) Sp.z).f else (l.getD (k / 2) Sp.z).t
def spSu (l : List Sp) (k : Nat) : Int := if k % 2 = 0 then (l.getD (k / 2) Sp.z).i else (l.getD (k / 2) Sp.z).o
theorem getD_lt {l : List Sp} {k : Nat} (h : k < l.length) : l.getD k Sp.z = l[k] := by simp [List.getD, h]
theorem en_even (l : List Sp) (k : Nat) (h : k < l.length) : spEn l (2 * k) = l[k].f := by
  unfold spEn; rw [if_pos (by omega), show 2 * k / 2 = k by omega, getD_lt h]
theorem en_odd (l : List Sp) (k : Nat) (h : k < l.length) : spEn l (2 * k + 1) = l[k].t := by
  unfold spEn; rw [if_neg (by omega), show (2 * k + 1) / 2 = k by omega, getD_lt h]
theorem su_even (l : List Sp) (k : Nat) (h : k < l.length) : spSu l (2 * k) = l[k].i := by
  unfold spSu; rw [if_pos (by omega), show 2 * k / 2 = k by omega, getD_lt h]
theorem su_odd (l : List Sp) (k : Nat) (h : k < l.length) : spSu l (2 * k + 1) = l[k].o := by
  unfold spSu; rw [if_neg (by omega), show (2 * k + 1) / 2 = k by omega, getD_lt h]
theorem two_cases (k : Nat) : (∃ j, k = 2 * j) ∨ ∃ j, k = 2 * j + 1 := by
  rcases Nat.mod_two_eq_zero_or_one k with h | h
  · exact .inl ⟨k / 2, by omega⟩
  · exact .inr ⟨k / 2, by omega⟩
theorem en_bd {l : List Sp} (hl : SpsGood l) {k : Nat} (h : k < 2 * l.length) : -1073741824 ≤ spEn l k ∧ spEn l k ≤ 1073741824 ∧ -1000 ≤ spSu l k ∧ spSu l k ≤ 1000 := by
  rcases two_cases k with ⟨j, rfl⟩ | ⟨j, rfl⟩
  · have hj : j < l.length := by omega
    have := (hl j hj).1
    unfold SpGood at this
    rw [en_even l j hj, su_even l j hj]; omega
  · have hj : j < l.length := by omega
    have := (hl j hj).1
    unfold SpGood at this
    rw [en_odd l j hj, su_odd l j hj]; omega
theorem en_succ {l : List Sp} (hl : SpsGood l) {k : Nat} (h : k + 1 < 2 * l.length) : spEn l k < spEn l (k + 1) := by
  rcases two_cases k with ⟨j, rfl⟩ | ⟨j, rfl⟩
  · have hj : j < l.length := by omega
    have := (hl j hj).1
    unfold SpGood at this
    rw [en_even l j hj, en_odd l j hj]; omega
  · have hj : j + 1 < l.length := by omega
    have := (hl (j + 1) hj).2 j rfl
    rw [en_odd l j (by omega), show 2 * j + 1 + 1 = 2 * (j + 1) by omega, en_even l (j + 1) hj]; exact this
theorem en_lt {l : List Sp} (hl : SpsGood l) : ∀ {k m : Nat}, k < m → m < 2 * l.length → spEn l k < spEn l m
  | k, 0, h, _ => by omega
  | k, m + 1, h, hm => by
    rcases Nat.lt_or_ge k m with h1 | h1
    · exact Int.lt_trans (en_lt hl h1 (by omega)) (en_succ hl hm)
    · obtain rfl : k = m := by omega
      exact en_succ hl hm

/- which span a part is in -/
def spHit (s : Sp) (t : Int) : Bool := decide (s.f ≤ t) && decide (t < s.t)
def spAt (l : List Sp) (t : Int) : Int := match l.findIdx? (spHit · t) with
  | some k => k
  | none => -1
theorem spAt_hit {l : List Sp} {t : Int} {k : Nat} (h : k < l.length) (hh : spHit l[k] t = true) (hb : ∀ j (hj : j < k), spHit (l[j]'(by omega)) t = false) : spAt l t = k := by
  have : l.findIdx? (spHit · t) = some k := by
    rw [List.findIdx?_eq_some_iff_getElem]
    exact ⟨h, hh, fun j hj => by simp [hb j hj]⟩
  unfold spAt; rw [this]
theorem spAt_none {l : List Sp} {t : Int} (hb : ∀ j (hj : j < l.length), spHit l[j] t = false) : spAt l t = -1 := by
  have : l.findIdx? (spHit · t) = none := by
    rw [List.findIdx?_eq_none_iff]
    intro x hx
    obtain ⟨j, hj, rfl⟩ := List.getElem_of_mem hx
    simp [hb j hj]
  unfold spAt; rw [this]
theorem spAt_bd (l : List Sp) (t : Int) : -1 ≤ spAt l t ∧ spAt l t < l.length := by
  unfold spAt
  split
  · rename_i k h
    rw [List.findIdx?_eq_some_iff_getElem] at h
    obtain ⟨h, _⟩ := h
    constructor <;> omega
  · constructor <;> omega

/- p ends of l are at t or ahead of it, the others behind it -/
def SpCut (l : List Sp) (p : Nat) (t : Int) : Prop := p ≤ 2 * l.length ∧ (∀ k, k < p → spEn l k ≤ t) ∧ ∀ k, p ≤ k → k < 2 * l.length → t < spEn l k
theorem SpCut.at {l : List Sp} {p : Nat} {t : Int} (h : SpCut l p t) (_hl : SpsGood l) : spAt l t = if p % 2 = 1 then ((p / 2 : Nat) : Int) else -1 := by
  obtain ⟨hp, h1, h2⟩ := h
  have below : ∀ j (hj : j < l.length), 2 * j + 1 < p → spHit l[j] t = false := fun j hj hjp => by
    have := h1 (2 * j + 1) hjp
    rw [en_odd l j hj] at this
    simp only [spHit, Bool.and_eq_false_iff, decide_eq_false_iff_not]; omega
  have above : ∀ j (hj : j < l.length), p ≤ 2 * j → spHit l[j] t = false := fun j hj hjp => by
    have := h2 (2 * j) hjp (by omega)
    rw [en_even l j hj] at this
    simp only [spHit, Bool.and_eq_false_iff, decide_eq_false_iff_not]; omega
  rcases two_cases p with ⟨j, rfl⟩ | ⟨j, rfl⟩
  · rw [if_neg (by omega)]
    refine spAt_none fun i hi => ?_
    rcases Nat.lt_or_ge i j with h | h
    · exact below i hi (by omega)
    · exact above i hi (by omega)
  · rw [if_pos (by omega), show (2 * j + 1) / 2 = j by omega]
    have hj : j < l.length := by omega
    refine spAt_hit hj ?_ fun i hi => below i (by omega) (by omega)
    have e1 := h1 (2 * j) (by omega)
    have e2 := h2 (2 * j + 1) (by omega) (by omega)
    rw [en_even l j hj] at e1
    rw [en_odd l j hj] at e2
    simp only [spHit, Bool.and_eq_true, decide_eq_true_eq]; omega

/- the surface by which one comes into spans at a part; out of them -/
def spIn (l : List Sp) (t : Int) : Option Int := match l.findIdx? (spHit · t) with
  | some k => if (l.getD k Sp.z).f = t then some (l.getD k Sp.z).i else none
  | none => none
def spOut (l : List Sp) (t : Int) : Option Int := (l.find? fun s => s.t == t).map (·.o)
theorem spIn_at {l : List Sp} {t : Int} : spIn l t = if 0 ≤ spAt l t ∧ (l.getD (spAt l t).toNat Sp.z).f = t then some (l.getD (spAt l t).toNat Sp.z).i else none := by
  unfold spIn spAt
  split
  · rename_i k h
    simp
  · simp
theorem SpCut.in_yes {l : List Sp} {p : Nat} {t : Int} (h : SpCut l p t) (hl : SpsGood l) (h0 : 0 < p) (hp : p % 2 = 1) (ht : spEn l (p - 1) = t) : spIn l t = some (spSu l (p - 1)) := by
  rw [spIn_at, h.at hl, if_pos hp]
  obtain ⟨j, rfl⟩ : ∃ j, p = 2 * j + 1 := ⟨p / 2, by omega⟩
  have hj : j < l.length := by have := h.1; omega
  rw [show 2 * j + 1 - 1 = 2 * j by omega] at ht ⊢
  rw [en_even l j hj] at ht
  rw [su_even l j hj, show (2 * j + 1) / 2 = j by omega, if_pos ⟨by omega, by simp [hj, ht]⟩]
  simp [hj]
theorem SpCut.in_no {l : List Sp} {p : Nat} {t : Int} (h : SpCut l p t) (hl : SpsGood l) (ht : p % 2 = 1 → spEn l (p - 1) < t) : spIn l t = none := by
  rw [spIn_at, h.at hl]
  split
  · rename_i hp
    obtain ⟨j, rfl⟩ : ∃ j, p = 2 * j + 1 := ⟨p / 2, by omega⟩
    have hj : j < l.length := by have := h.1; omega
    have := ht hp
    rw [show 2 * j + 1 - 1 = 2 * j by omega, en_even l j hj] at this
    rw [show (2 * j + 1) / 2 = j by omega, if_neg]
    simp [hj]; omega
  · rw [if_neg]; omega
theorem SpCut.out_yes {l : List Sp} {p : Nat} {t : Int} (h : SpCut l p t) (hl : SpsGood l) (h0 : 0 < p) (hp : p % 2 = 0) (ht : spEn l (p - 1) = t) : spOut l t = some (spSu l (p - 1)) := by
  obtain ⟨j, rfl⟩ : ∃ j, p = 2 * j + 2 := ⟨p / 2 - 1, by omega⟩
  have hj : j < l.length := by have := h.1; omega
  rw [show 2 * j + 2 - 1 = 2 * j + 1 by omega] at ht ⊢
  rw [en_odd l j hj] at ht
  rw [su_odd l j hj]
  have : l.find? (fun s => s.t == t) = some l[j] := by
    rw [List.find?_eq_some_iff_getElem]
    refine ⟨by simp [ht], j, hj, rfl, fun i hi => ?_⟩
    have hil : i < l.length := by omega
    have := en_lt hl (k := 2 * i + 1) (m := 2 * j + 1) (by omega) (by omega)
    rw [en_odd l i hil, en_odd l j hj] at this
    simp; omega
  unfold spOut; rw [this]; rfl
theorem SpCut.out_no {l : List Sp} {p : Nat} {t : Int} (h : SpCut l p t) (hl : SpsGood l) (ht : 0 < p → p % 2 = 0 → spEn l (p - 1) < t) : spOut l t = none := by
  have : l.find? (fun s => s.t == t) = none := by
    rw [List.find?_eq_none]
    intro x hx
    obtain ⟨j, hj, rfl⟩ := List.getElem_of_mem hx
    simp only [beq_iff_eq]
    intro he
    have e := en_odd l j hj
    obtain ⟨hp, h1, h2⟩ := h
    rcases Nat.lt_or_ge (2 * j + 1) p with hlt | hge
    · rcases Nat.lt_or_ge (2 * j + 2) p with hlt2 | hge2
      · have h3 := en_lt hl (k := 2 * j + 1) (m := 2 * j + 2) (by omega) (by omega)
        have h4 := h1 (2 * j + 2) hlt2
        omega
      · have := ht (by omega) (by omega)
        rw [show p - 1 = 2 * j + 1 by omega] at this
        omega
    · have := h2 (2 * j + 1) hge (by omega)
      omega
  unfold spOut; rw [this]; rfl

/- the next end of a walk over spans; behind the last one nothing comes -/
def spNx (l : List Sp) (p : Nat) : Int := if p = 2 * l.length then 1073741825 else spEn l p
def spSx (l : List Sp) (p : Nat) : Int := if p = 2 * l.length then 0 else spSu l p
/- what is wanted: 0 in both, 1 in one of them, 2 in the first alone -/
def spHas (op : Nat) (x y : Bool) : Bool := if op = 0 then x && y else if op = 1 then x || y else x && !y
def spOdd (p : Nat) : Bool := p % 2 == 1
def pA (a b : List Sp) (p q : Nat) : Nat := if spNx a p ≤ spNx b q then p + 1 else p
def qB (a b : List Sp) (p q : Nat) : Nat := if spNx b q ≤ spNx a p then q + 1 else q
def atN (a b : List Sp) (p q : Nat) : Int := if spNx a p ≤ spNx b q then spNx a p else spNx b q
/- the surface that an end gets: that of the first list, else that of the second one, its other side if that list is taken away -/
def suN (op : Nat) (a b : List Sp) (p q : Nat) : Int := if spNx a p ≤ spNx b q then spSx a p else if op = 2 then -(spSx b q) else spSx b q
/- the spans that are still to be made behind p ends of a and q ends of b -/
def spRun (op : Nat) (a b : List Sp) : Nat → Nat → Nat → Bool → Int → Int → List Sp
  | 0, _, _, _, _, _ => []
  | n + 1, p, q, o, f, s =>
    if p = 2 * a.length ∧ q = 2 * b.length then []
    else if spHas op (spOdd (pA a b p q)) (spOdd (qB a b p q)) = o then spRun op a b n (pA a b p q) (qB a b p q) o f s
    else if o = true then ⟨f, atN a b p q, s, suN op a b p q⟩ :: spRun op a b n (pA a b p q) (qB a b p q) false f s
    else spRun op a b n (pA a b p q) (qB a b p q) true (atN a b p q) (suN op a b p q)
def spTotal (op : Nat) (a b : List Sp) : List Sp := spRun op a b (2 * a.length + 2 * b.length) 0 0 false 0 0
def spTold (l : List Sp) : List Sp := if 200 < l.length then [] else l
def putS (op : Nat) (a b : List Sp) : List Sp := spTold (spTotal op a b)

/- both walks are at t -/
def SpAt2 (a b : List Sp) (p q : Nat) : Prop := ∃ t, SpCut a p t ∧ SpCut b q t
theorem at2_start {a b : List Sp} (ha : SpsGood a) (hb : SpsGood b) : SpAt2 a b 0 0 :=
  ⟨-1073741825, ⟨by omega, fun k h => by omega, fun k _ h => by have := en_bd ha h; omega⟩, ⟨by omega, fun k h => by omega, fun k _ h => by have := en_bd hb h; omega⟩⟩
theorem SpAt2.le {a b : List Sp} {p q : Nat} (h : SpAt2 a b p q) : p ≤ 2 * a.length ∧ q ≤ 2 * b.length := by
  obtain ⟨t, h1, h2⟩ := h; exact ⟨h1.1, h2.1⟩
theorem spNx_le {l : List Sp} (hl : SpsGood l) {p : Nat} (h : p ≤ 2 * l.length) : -1073741824 ≤ spNx l p ∧ spNx l p ≤ 1073741825 ∧ (p < 2 * l.length → spNx l p ≤ 1073741824) ∧ -1000 ≤ spSx l p ∧ spSx l p ≤ 1000 := by
  unfold spNx spSx
  split
  · omega
  · have := en_bd hl (show p < 2 * l.length by omega); omega
theorem cut_step {l : List Sp} (hl : SpsGood l) {p : Nat} {t u : Int} (h : SpCut l p t) (htu : t < u) (hu : u ≤ spNx l p) (hF : u ≤ 1073741824) : SpCut l (if spNx l p ≤ u then p + 1 else p) u := by
  obtain ⟨hp, h1, h2⟩ := h
  unfold spNx at *
  by_cases he : p = 2 * l.length
  · rw [if_pos he] at hu ⊢
    rw [if_neg (by omega)]
    exact ⟨hp, fun k hk => by have := h1 k hk; omega, fun k hk hk2 => by omega⟩
  · rw [if_neg he] at hu ⊢
    split
    · rename_i hle
      refine ⟨by omega, fun k hk => ?_, fun k hk hk2 => ?_⟩
      · rcases Nat.lt_or_ge k p with h3 | h3
        · have := h1 k h3; omega
        · obtain rfl : k = p := by omega
          omega
      · have := en_lt hl (k := p) (m := k) (by omega) hk2; omega
    · rename_i hgt
      refine ⟨hp, fun k hk => by have := h1 k hk; omega, fun k hk hk2 => ?_⟩
      rcases Nat.lt_or_ge p k with h3 | h3
      · have := en_lt hl h3 hk2; omega
      · obtain rfl : k = p := by omega
        omega
theorem step_ne {a b : List Sp} (ha : SpsGood a) (hb : SpsGood b) {p q : Nat} (h : SpAt2 a b p q) (hne : ¬ (p = 2 * a.length ∧ q = 2 * b.length)) :
    SpCut a (pA a b p q) (atN a b p q) ∧ SpCut b (qB a b p q) (atN a b p q) ∧ atN a b p q ≤ 1073741824 ∧ -1073741824 ≤ atN a b p q ∧ p + q < pA a b p q + qB a b p q := by
  obtain ⟨t, h1, h2⟩ := h
  have hp := h1.1
  have hq := h2.1
  have na := spNx_le ha hp
  have nb := spNx_le hb hq
  have la : t < spNx a p ∨ p = 2 * a.length := by
    by_cases he : p = 2 * a.length
    · exact .inr he
    · left; unfold spNx; rw [if_neg he]; exact h1.2.2 p (Nat.le_refl _) (by omega)
  have lb : t < spNx b q ∨ q = 2 * b.length := by
    by_cases he : q = 2 * b.length
    · exact .inr he
    · left; unfold spNx; rw [if_neg he]; exact h2.2.2 q (Nat.le_refl _) (by omega)
  have ea : p = 2 * a.length → spNx a p = 1073741825 := fun he => by unfold spNx; rw [if_pos he]
  have eb : q = 2 * b.length → spNx b q = 1073741825 := fun he => by unfold spNx; rw [if_pos he]
  have hF : atN a b p q ≤ 1073741824 := by unfold atN; split <;> omega
  have ht : t < atN a b p q := by unfold atN; split <;> omega
  have c1 := cut_step ha h1 ht (by unfold atN; split <;> omega) hF
  have c2 := cut_step hb h2 ht (by unfold atN; split <;> omega) hF
  have e1 : (if spNx a p ≤ atN a b p q then p + 1 else p) = pA a b p q := by
    unfold atN pA; by_cases h : spNx a p ≤ spNx b q
    · simp [h]
    · simp [h]
  have e2 : (if spNx b q ≤ atN a b p q then q + 1 else q) = qB a b p q := by
    unfold atN qB; by_cases h : spNx a p ≤ spNx b q
    · simp [h]
    · have : spNx b q ≤ spNx a p := by omega
      simp [h, this]
  rw [e1] at c1
  rw [e2] at c2
  refine ⟨c1, c2, hF, by unfold atN; split <;> omega, ?_⟩
  unfold pA qB
  by_cases h : spNx a p ≤ spNx b q
  · rw [if_pos h]; split <;> omega
  · rw [if_neg h, if_pos (by omega)]; omega
theorem SpAt2.step {a b : List Sp} (ha : SpsGood a) (hb : SpsGood b) {p q : Nat} (h : SpAt2 a b p q) (hne : ¬ (p = 2 * a.length ∧ q = 2 * b.length)) : SpAt2 a b (pA a b p q) (qB a b p q) := by
  obtain ⟨c1, c2, _⟩ := step_ne ha hb h hne
  exact ⟨_, c1, c2⟩
/- the last end of all: nothing is open behind it -/
theorem has_end (op : Nat) (a b : List Sp) : spHas op (spOdd (2 * a.length)) (spOdd (2 * b.length)) = false := by
  have e1 : spOdd (2 * a.length) = false := by unfold spOdd; simp
  have e2 : spOdd (2 * b.length) = false := by unfold spOdd; simp
  rw [e1, e2]; unfold spHas; split <;> (try split) <;> rfl
/- what l5Has, l5Begin and l5End tell -/
def hasAt (op : Nat) (a b : List Sp) (t : Int) : Bool := spHas op (decide (0 ≤ spAt a t)) (decide (0 ≤ spAt b t))
def beginAt (op : Nat) (a b : List Sp) (t : Int) : Int := match spIn a t with
  | some n => n
  | none => if op = 2 then -((spOut b t).getD 0) else (spIn b t).getD 0
def endAt (op : Nat) (a b : List Sp) (t : Int) : Int := match spOut a t with
  | some n => n
  | none => if op = 2 then -((spIn b t).getD 0) else (spOut b t).getD 0
theorem odd_at {l : List Sp} {p : Nat} {t : Int} (h : SpCut l p t) (hl : SpsGood l) : decide (0 ≤ spAt l t) = spOdd p := by
  rw [h.at hl]
  unfold spOdd
  split
  · rename_i h; simp [h]; omega
  · rename_i h; simp [h]
theorem hasAt_step {op : Nat} {a b : List Sp} (ha : SpsGood a) (hb : SpsGood b) {p q : Nat} (h : SpAt2 a b p q) (hne : ¬ (p = 2 * a.length ∧ q = 2 * b.length)) :
    hasAt op a b (atN a b p q) = spHas op (spOdd (pA a b p q)) (spOdd (qB a b p q)) := by
  obtain ⟨c1, c2, _⟩ := step_ne ha hb h hne
  unfold hasAt
  rw [odd_at c1 ha, odd_at c2 hb]
/- where the walk of a stands: passed now (then its surface), or not -/
theorem in_step {l : List Sp} (hl : SpsGood l) {p : Nat} {t u : Int} (h : SpCut l p t) (htu : t < u) (c : SpCut l (if spNx l p ≤ u then p + 1 else p) u) (hF : u ≤ 1073741824) (hu : u ≤ spNx l p) :
    (spNx l p ≤ u → (p % 2 = 0 → spIn l u = some (spSx l p) ∧ spOut l u = none) ∧ (p % 2 = 1 → spOut l u = some (spSx l p) ∧ spIn l u = none)) ∧ (¬ spNx l p ≤ u → spIn l u = none ∧ spOut l u = none) := by
  refine ⟨fun hle => ?_, fun hgt => ?_⟩
  · rw [if_pos hle] at c
    have hp : p ≠ 2 * l.length := by intro he; unfold spNx at hle; rw [if_pos he] at hle; omega
    have hpl : p < 2 * l.length := by have := h.1; omega
    have hn : spNx l p = spEn l p := by unfold spNx; rw [if_neg hp]
    have hs : spSx l p = spSu l p := by unfold spSx; rw [if_neg hp]
    have he : spEn l p = u := by omega
    rw [hs]
    refine ⟨fun h0 => ⟨?_, ?_⟩, fun h1 => ⟨?_, ?_⟩⟩
    · exact c.in_yes hl (by omega) (by omega) (by simpa using he)
    · exact c.out_no hl (fun _ h2 => by omega)
    · exact c.out_yes hl (by omega) (by omega) (by simpa using he)
    · exact c.in_no hl (fun h2 => by omega)
  · rw [if_neg hgt] at c
    have hlt : ∀ k, k < p → spEn l k < u := fun k hk => by have := h.2.1 k hk; omega
    exact ⟨c.in_no hl (fun h2 => hlt _ (by omega)), c.out_no hl (fun h2 _ => hlt _ (by omega))⟩
theorem odd_not (p : Nat) : spOdd (p + 1) = !spOdd p := by
  unfold spOdd
  rcases Nat.mod_two_eq_zero_or_one p with h | h
  · have : (p + 1) % 2 = 1 := by omega
    simp [h, this]
  · have : (p + 1) % 2 = 0 := by omega
    simp [h, this]
theorem odd_mod (p : Nat) : (spOdd p = true ↔ p % 2 = 1) ∧ (spOdd p = false ↔ p % 2 = 0) := by
  unfold spOdd
  rcases Nat.mod_two_eq_zero_or_one p with h | h <;> simp [h]
theorem surf_step {op : Nat} (hop : op ≤ 2) {a b : List Sp} (ha : SpsGood a) (hb : SpsGood b) {p q : Nat} (h : SpAt2 a b p q) (hne : ¬ (p = 2 * a.length ∧ q = 2 * b.length)) :
    (spHas op (spOdd p) (spOdd q) = false → spHas op (spOdd (pA a b p q)) (spOdd (qB a b p q)) = true → beginAt op a b (atN a b p q) = suN op a b p q) ∧
    (spHas op (spOdd p) (spOdd q) = true → spHas op (spOdd (pA a b p q)) (spOdd (qB a b p q)) = false → endAt op a b (atN a b p q) = suN op a b p q) := by
  obtain ⟨c1, c2, hF, hF2, hadv⟩ := step_ne ha hb h hne
  obtain ⟨t, h1, h2⟩ := h
  have na := spNx_le ha h1.1
  have nb := spNx_le hb h2.1
  have la : t < spNx a p ∨ p = 2 * a.length := by
    by_cases he : p = 2 * a.length
    · exact .inr he
    · left; unfold spNx; rw [if_neg he]; exact h1.2.2 p (Nat.le_refl _) (by have := h1.1; omega)
  have lb : t < spNx b q ∨ q = 2 * b.length := by
    by_cases he : q = 2 * b.length
    · exact .inr he
    · left; unfold spNx; rw [if_neg he]; exact h2.2.2 q (Nat.le_refl _) (by have := h2.1; omega)
  have ea : p = 2 * a.length → spNx a p = 1073741825 := fun he => by unfold spNx; rw [if_pos he]
  have eb : q = 2 * b.length → spNx b q = 1073741825 := fun he => by unfold spNx; rw [if_pos he]
  have ht : t < atN a b p q := by unfold atN; split <;> omega
  have ua : atN a b p q ≤ spNx a p := by unfold atN; split <;> omega
  have ub : atN a b p q ≤ spNx b q := by unfold atN; split <;> omega
  have e1 : (spNx a p ≤ atN a b p q) ↔ spNx a p ≤ spNx b q := by unfold atN; split <;> omega
  have e2 : (spNx b q ≤ atN a b p q) ↔ spNx b q ≤ spNx a p := by unfold atN; split <;> omega
  have sa := in_step ha h1 ht (by simpa only [pA, e1] using c1) hF ua
  have sb := in_step hb h2 ht (by simpa only [qB, e2] using c2) hF ub
  rw [e1] at sa
  rw [e2] at sb
  obtain ⟨sa1, sa2⟩ := sa
  obtain ⟨sb1, sb2⟩ := sb
  have oa := odd_mod p
  have ob := odd_mod q
  unfold beginAt endAt suN pA qB
  have hor : spNx a p ≤ spNx b q ∨ spNx b q ≤ spNx a p := by omega
  have hop' : op = 0 ∨ op = 1 ∨ op = 2 := by omega
  by_cases x : spNx a p ≤ spNx b q
  · obtain ⟨k0, k1⟩ := sa1 x
    simp only [if_pos x, odd_not]
    cases hx : spOdd p
    · obtain ⟨r1, r2⟩ := k0 (oa.2.1 hx)
      rw [r1, r2]
      refine ⟨fun _ _ => rfl, fun g1 g2 => ?_⟩
      exfalso
      revert g1 g2
      rcases hop' with rfl | rfl | rfl <;> cases spOdd q <;> simp [spHas] <;> split <;> simp
    · obtain ⟨r1, r2⟩ := k1 (oa.1.1 hx)
      rw [r1, r2]
      refine ⟨fun g1 g2 => ?_, fun _ _ => rfl⟩
      exfalso
      revert g1 g2
      rcases hop' with rfl | rfl | rfl <;> cases spOdd q <;> simp [spHas] <;> split <;> simp
  · have y : spNx b q ≤ spNx a p := by omega
    obtain ⟨r1, r2⟩ := sa2 x
    obtain ⟨k0, k1⟩ := sb1 y
    rw [r1, r2]
    simp only [if_neg x, if_pos y, odd_not]
    cases hy : spOdd q
    · obtain ⟨s1, s2⟩ := k0 (ob.2.1 hy)
      rw [s1, s2]
      rcases hop' with rfl | rfl | rfl <;> cases spOdd p <;> simp [spHas]
    · obtain ⟨s1, s2⟩ := k1 (ob.1.1 hy)
      rw [s1, s2]
      rcases hop' with rfl | rfl | rfl <;> cases spOdd p <;> simp [spHas]

/- the walk's rounds -/
theorem run_done {op : Nat} {a b : List Sp} {n p q : Nat} {o : Bool} {f s : Int} (h : p = 2 * a.length ∧ q = 2 * b.length) : spRun op a b n p q o f s = [] := by
  cases n with
  | zero => rfl
  | succ n => rw [spRun, if_pos h]
theorem run_same {op : Nat} {a b : List Sp} {n p q : Nat} {o : Bool} {f s : Int} (h : ¬ (p = 2 * a.length ∧ q = 2 * b.length)) (he : spHas op (spOdd (pA a b p q)) (spOdd (qB a b p q)) = o) :
    spRun op a b (n + 1) p q o f s = spRun op a b n (pA a b p q) (qB a b p q) o f s := by rw [spRun, if_neg h, if_pos he]
theorem run_open {op : Nat} {a b : List Sp} {n p q : Nat} {f s : Int} (h : ¬ (p = 2 * a.length ∧ q = 2 * b.length)) (he : spHas op (spOdd (pA a b p q)) (spOdd (qB a b p q)) = true) :
    spRun op a b (n + 1) p q false f s = spRun op a b n (pA a b p q) (qB a b p q) true (atN a b p q) (suN op a b p q) := by rw [spRun, if_neg h, if_neg (by rw [he]; simp), if_neg (by simp)]
theorem run_shut {op : Nat} {a b : List Sp} {n p q : Nat} {f s : Int} (h : ¬ (p = 2 * a.length ∧ q = 2 * b.length)) (he : spHas op (spOdd (pA a b p q)) (spOdd (qB a b p q)) = false) :
    spRun op a b (n + 1) p q true f s = ⟨f, atN a b p q, s, suN op a b p q⟩ :: spRun op a b n (pA a b p q) (qB a b p q) false f s := by rw [spRun, if_neg h, if_neg (by rw [he]; simp), if_pos rfl]
theorem done_iff {a b : List Sp} (ha : SpsGood a) (hb : SpsGood b) {p q : Nat} (h : SpAt2 a b p q) : (p = 2 * a.length ∧ q = 2 * b.length) ↔ atN a b p q = 1073741825 := by
  constructor
  · rintro ⟨rfl, rfl⟩; unfold atN spNx; simp
  · intro he
    refine Classical.byContradiction fun hne => ?_
    have := (step_ne ha hb h hne).2.2.1
    omega
/- all ends of both, each once -/
def evs (a b : List Sp) : Nat → Nat → Nat → List Int
  | 0, _, _ => []
  | n + 1, p, q => if p = 2 * a.length ∧ q = 2 * b.length then [] else atN a b p q :: evs a b n (pA a b p q) (qB a b p q)
theorem evs_done {a b : List Sp} {n p q : Nat} (h : p = 2 * a.length ∧ q = 2 * b.length) : evs a b n p q = [] := by
  cases n with
  | zero => rfl
  | succ n => rw [evs, if_pos h]
theorem evs_step {a b : List Sp} {n p q : Nat} (h : ¬ (p = 2 * a.length ∧ q = 2 * b.length)) : evs a b (n + 1) p q = atN a b p q :: evs a b n (pA a b p q) (qB a b p q) := by rw [evs, if_neg h]
theorem evs_len (a b : List Sp) : ∀ (n p q : Nat), (evs a b n p q).length ≤ n
  | 0, _, _ => by simp [evs]
  | n + 1, p, q => by
    rw [evs]; split
    · simp
    · have := evs_len a b n (pA a b p q) (qB a b p q); simp; omega
def Evs (a b : List Sp) : List Int := evs a b (2 * a.length + 2 * b.length) 0 0
theorem Evs_len (a b : List Sp) : (Evs a b).length ≤ 2 * a.length + 2 * b.length := evs_len ..
/- the state of the walks behind the first ends -/
structure SpHere (op : Nat) (a b : List Sp) (k n p q : Nat) (f s : Int) (shut : List Sp) : Prop where
  ev : (Evs a b).drop k = evs a b n p q
  fuel : 2 * a.length + 2 * b.length ≤ n + p + q
  at2 : SpAt2 a b p q
  all : shut ++ spRun op a b n p q (spHas op (spOdd p) (spOdd q)) f s = spTotal op a b
theorem here_start {op : Nat} {a b : List Sp} (ha : SpsGood a) (hb : SpsGood b) : SpHere op a b 0 (2 * a.length + 2 * b.length) 0 0 0 0 [] := by
  refine ⟨rfl, by omega, at2_start ha hb, ?_⟩
  have : spHas op (spOdd 0) (spOdd 0) = false := by unfold spHas spOdd; simp
  rw [this]; rfl
theorem SpHere.over {op : Nat} {a b : List Sp} {k n p q : Nat} {f s : Int} {l : List Sp} (h : SpHere op a b k n p q f s l) (hd : p = 2 * a.length ∧ q = 2 * b.length) :
    l = spTotal op a b ∧ spHas op (spOdd p) (spOdd q) = false ∧ (Evs a b).length ≤ k := by
  refine ⟨?_, ?_, ?_⟩
  · have := h.all; rwa [run_done hd, List.append_nil] at this
  · rw [hd.1, hd.2]; exact has_end ..
  · have := h.ev; rw [evs_done hd] at this; exact List.drop_eq_nil_iff.1 this
theorem SpHere.not_over {op : Nat} {a b : List Sp} {k n p q : Nat} {f s : Int} {l : List Sp} (h : SpHere op a b k n p q f s l) (hd : ¬ (p = 2 * a.length ∧ q = 2 * b.length)) :
    ∃ m, n = m + 1 ∧ (Evs a b)[k]? = some (atN a b p q) ∧ k < (Evs a b).length := by
  obtain ⟨hev, hfuel, hat, _⟩ := h
  have := hat.le
  obtain ⟨m, rfl⟩ : ∃ m, n = m + 1 := ⟨n - 1, by omega⟩
  rw [evs_step hd] at hev
  have hl : k < (Evs a b).length := by
    refine Classical.byContradiction fun hge => ?_
    rw [List.drop_eq_nil_of_le (by omega)] at hev
    cases hev
  refine ⟨m, rfl, ?_, hl⟩
  rw [List.drop_eq_getElem_cons hl] at hev
  rw [List.getElem?_eq_getElem hl]
  injection hev with h1 h2
  rw [h1]
theorem SpHere.done_of {op : Nat} {a b : List Sp} {k n p q : Nat} {f s : Int} {l : List Sp} (h : SpHere op a b k n p q f s l) (hk : (Evs a b).length ≤ k) : p = 2 * a.length ∧ q = 2 * b.length := by
  refine Classical.byContradiction fun hne => ?_
  obtain ⟨_, _, _, hl⟩ := h.not_over hne
  omega
theorem SpHere.step {op : Nat} {a b : List Sp} (ha : SpsGood a) (hb : SpsGood b) {k n p q : Nat} {f s : Int} {l : List Sp} (h : SpHere op a b k n p q f s l) (hd : ¬ (p = 2 * a.length ∧ q = 2 * b.length)) :
    (spHas op (spOdd (pA a b p q)) (spOdd (qB a b p q)) = spHas op (spOdd p) (spOdd q) → SpHere op a b (k + 1) (n - 1) (pA a b p q) (qB a b p q) f s l) ∧
    (spHas op (spOdd (pA a b p q)) (spOdd (qB a b p q)) = true → spHas op (spOdd p) (spOdd q) = false → SpHere op a b (k + 1) (n - 1) (pA a b p q) (qB a b p q) (atN a b p q) (suN op a b p q) l) ∧
    (spHas op (spOdd (pA a b p q)) (spOdd (qB a b p q)) = false → spHas op (spOdd p) (spOdd q) = true → SpHere op a b (k + 1) (n - 1) (pA a b p q) (qB a b p q) f s (l ++ [⟨f, atN a b p q, s, suN op a b p q⟩]) ∧ l.length < (spTotal op a b).length) := by
  obtain ⟨m, rfl, hg, hl⟩ := h.not_over hd
  obtain ⟨hev, hfuel, hat, hall⟩ := h
  have hs := step_ne ha hb hat hd
  have ev' : (Evs a b).drop (k + 1) = evs a b m (pA a b p q) (qB a b p q) := by
    rw [evs_step hd, List.drop_eq_getElem_cons hl] at hev
    injection hev
  have fu' : 2 * a.length + 2 * b.length ≤ m + pA a b p q + qB a b p q := by have := hs.2.2.2.2; omega
  have at' := hat.step ha hb hd
  simp only [Nat.add_sub_cancel]
  refine ⟨fun e => ⟨ev', fu', at', ?_⟩, fun e1 e0 => ⟨ev', fu', at', ?_⟩, fun e1 e0 => ⟨⟨ev', fu', at', ?_⟩, ?_⟩⟩
  · rw [e]; rw [run_same hd e] at hall; exact hall
  · rw [e1]; rw [e0, run_open hd e1] at hall; exact hall
  · rw [e1]; rw [e0, run_shut hd e1] at hall; rw [List.append_assoc]; exact hall
  · rw [← hall, e0, run_shut hd e1]; simp
theorem shut_le {op : Nat} {a b : List Sp} {k n p q : Nat} {f s : Int} {l : List Sp} (h : SpHere op a b k n p q f s l) : l.length ≤ (spTotal op a b).length := by
  rw [← h.all, List.length_append]; omega
theorem total_le (op : Nat) (a b : List Sp) : (spTotal op a b).length ≤ 2 * a.length + 2 * b.length := by
  have : ∀ (n p q : Nat) (o : Bool) (f s : Int), (spRun op a b n p q o f s).length ≤ n := by
    intro n
    induction n with
    | zero => intros; simp [spRun]
    | succ n ih =>
      intro p q o f s
      rw [spRun]
      split
      · simp
      · split
        · exact Nat.le_succ_of_le (ih ..)
        · split
          · simpa using ih ..
          · exact Nat.le_succ_of_le (ih ..)
  exact this ..
/- the spec's list of ends: all numbers of the two lists, the last ones first looked at -/
theorem pick_iff {a b : List Sp} (ha : SpsGood a) (hb : SpsGood b) {p q : Nat} (h : SpAt2 a b p q) (hne : ¬ (p = 2 * a.length ∧ q = 2 * b.length)) :
    (q = 2 * b.length ∨ (p < 2 * a.length ∧ spEn a p ≤ spEn b q)) ↔ spNx a p ≤ spNx b q := by
  have hle := h.le
  unfold spNx
  by_cases h1 : p = 2 * a.length
  · have h2 : q ≠ 2 * b.length := fun e => hne ⟨h1, e⟩
    have := en_bd hb (show q < 2 * b.length by omega)
    rw [if_pos h1, if_neg h2]
    omega
  · by_cases h2 : q = 2 * b.length
    · have := en_bd ha (show p < 2 * a.length by omega)
      rw [if_neg h1, if_pos h2]
      omega
    · rw [if_neg h1, if_neg h2]
      omega
/- what spans have between two parts -/
def spCutS (a b : Int) (s : Sp) : Sp := ⟨if s.f < a then a else s.f, if b < s.t then b else s.t, if s.f < a then 0 else s.i, if b < s.t then 0 else s.o⟩
def spInner (l : List Sp) (a b : Int) : List Sp := (l.map (spCutS a b)).filter fun s => decide (s.f < s.t)
theorem spInner_succ {l : List Sp} {a b : Int} {j : Nat} (hj : j < l.length) : spInner (l.take (j + 1)) a b = spInner (l.take j) a b ++ if (spCutS a b l[j]).f < (spCutS a b l[j]).t then [spCutS a b l[j]] else [] := by
  unfold spInner
  rw [List.take_succ_eq_append_getElem hj, List.map_append, List.filter_append]
  congr 1
  simp [List.filter_cons]
theorem spInner_len (l : List Sp) (a b : Int) : (spInner l a b).length ≤ l.length := by
  unfold spInner
  exact Nat.le_trans (List.length_filter_le _ _) (by simp)
def spWithin (l : List Sp) (a b : Int) : List Sp := if sOk l = true ∧ -1073741824 ≤ a ∧ a ≤ 1073741824 ∧ -1073741824 ≤ b ∧ b ≤ 1073741824 then spInner l a b else []
end Go.Proofs.YtegibpepdndocabGreat
