
import Derived.Test.YtdjmeeknahdbbaaSpnM
namespace Go.Proofs.Ytdjmeeknahdbbaa

/- what is put together is spans again, has the parts that it should, and is as long together -/
def hits (l : List Sp) (u : Int) : Bool := l.any (spHit · u)
theorem hits_at (l : List Sp) (u : Int) : decide (0 ≤ spAt l u) = hits l u := by
  unfold spAt hits
  cases h : l.findIdx? (spHit · u) with
  | none =>
    rw [List.findIdx?_eq_none_iff] at h
    have : l.any (spHit · u) = false := by
      rw [List.any_eq_false]
      intro x hx
      simp [h x hx]
    rw [this]; rfl
  | some k =>
    rw [List.findIdx?_eq_some_iff_getElem] at h
    obtain ⟨hk, hh, _⟩ := h
    have : l.any (spHit · u) = true := List.any_eq_true.2 ⟨l[k], List.getElem_mem hk, hh⟩
    rw [this]; simp
theorem cut_hits {l : List Sp} (hl : SpsGood l) {p : Nat} {t u : Int} (h : SpCut l p t) (htu : t ≤ u) (hu : u < spNx l p) : hits l u = spOdd p := by
  have hc : SpCut l p u := by
    obtain ⟨hp, h1, h2⟩ := h
    refine ⟨hp, fun k hk => by have := h1 k hk; omega, fun k hk hk2 => ?_⟩
    unfold spNx at hu
    rw [if_neg (by omega)] at hu
    rcases Nat.lt_or_ge p k with h3 | h3
    · have := en_lt hl h3 hk2; omega
    · obtain rfl : k = p := by omega
      exact hu
  rw [← hits_at, odd_at hc hl]
/- a chain of spans behind lo -/
def Ch : Int → List Sp → Prop
  | _, [] => True
  | lo, s :: l => lo < s.f ∧ SpGood s ∧ Ch s.t l
theorem Ch.mono {lo lo' : Int} (h : lo' ≤ lo) : ∀ {l : List Sp}, Ch lo l → Ch lo' l
  | [], _ => trivial
  | s :: l, ⟨h1, h2, h3⟩ => ⟨by omega, h2, h3⟩
theorem Ch.good : ∀ {l : List Sp} {lo : Int}, Ch lo l → SpsGood l ∧ ∀ (h : 0 < l.length), lo < l[0].f
  | [], _, _ => ⟨fun k h => absurd h (by simp), fun h => absurd h (by simp)⟩
  | s :: l, lo, ⟨h1, h2, h3⟩ => by
    obtain ⟨i1, i2⟩ := h3.good
    refine ⟨fun k hk => ?_, fun _ => h1⟩
    cases k with
    | zero => exact ⟨h2, fun j hj => by omega⟩
    | succ k =>
      have hk' : k < l.length := by simpa using hk
      refine ⟨(i1 k hk').1, fun j hj => ?_⟩
      cases j with
      | zero =>
        obtain rfl : k = 0 := by omega
        exact i2 hk'
      | succ j => exact (i1 k hk').2 j (by omega)
theorem chain_of : ∀ {l : List Sp} {lo : Int}, SpsGood l → (∀ (h : 0 < l.length), lo < l[0].f) → Ch lo l
  | [], _, _, _ => trivial
  | s :: l, lo, hg, h0 => by
    refine ⟨h0 (by simp), (hg 0 (by simp)).1, chain_of (fun k hk => ⟨(hg (k + 1) (by simpa using hk)).1, fun j hj => (hg (k + 1) (by simpa using hk)).2 (j + 1) (by omega)⟩) fun h => ?_⟩
    exact (hg 1 (by simpa using h)).2 0 rfl
theorem Ch.above {u : Int} : ∀ {l : List Sp} {lo : Int}, Ch lo l → u ≤ lo → hits l u = false
  | [], _, _, _ => rfl
  | s :: l, lo, ⟨h1, h2, h3⟩, hu => by
    have ih := h3.above (u := u) (by unfold SpGood at h2; omega)
    unfold hits at ih ⊢
    rw [List.any_cons, ih, Bool.or_false]
    simp only [spHit, Bool.and_eq_false_iff, decide_eq_false_iff_not]; omega
theorem hits_cons (s : Sp) (l : List Sp) (u : Int) : hits (s :: l) u = ((decide (s.f ≤ u) && decide (u < s.t)) || hits l u) := rfl

/- how much of l lies behind t, where p ends are passed -/
def behind (l : List Sp) (p : Nat) (t : Int) : Int := if p % 2 = 1 then (spEn l p - t) + spSumR (l.drop (p / 2 + 1)) else spSumR (l.drop (p / 2))
where spSumR : List Sp → Int
  | [] => 0
  | s :: l => (s.t - s.f) + spSumR l
theorem behind_even (l : List Sp) (j : Nat) (t : Int) : behind l (2 * j) t = behind.spSumR (l.drop j) := by
  unfold behind; rw [if_neg (by omega), show 2 * j / 2 = j by omega]
theorem behind_odd {l : List Sp} {j : Nat} (hj : j < l.length) (t : Int) : behind l (2 * j + 1) t = (l[j].t - t) + behind.spSumR (l.drop (j + 1)) := by
  unfold behind; rw [if_pos (by omega), en_odd l j hj, show (2 * j + 1) / 2 = j by omega]
theorem behind_end (l : List Sp) (t : Int) : behind l (2 * l.length) t = 0 := by
  rw [behind_even, List.drop_length]; rfl
theorem odd_two (j : Nat) : spOdd (2 * j) = false ∧ spOdd (2 * j + 1) = true := by
  unfold spOdd
  have h1 : 2 * j % 2 = 0 := by omega
  have h2 : (2 * j + 1) % 2 = 1 := by omega
  simp [h1, h2]
theorem behind_step {l : List Sp} {p : Nat} {t u : Int} (hp : p ≤ 2 * l.length) (hu : u ≤ spNx l p) (hF : u ≤ 1073741824) :
    behind l p t = (if spOdd p = true then u - t else 0) + behind l (if spNx l p ≤ u then p + 1 else p) u := by
  by_cases hn : spNx l p ≤ u
  · have hpl : p ≠ 2 * l.length := by
      intro e; unfold spNx at hn; rw [if_pos e] at hn; omega
    have he : spEn l p = u := by unfold spNx at hn hu; rw [if_neg hpl] at hn hu; omega
    rw [if_pos hn]
    rcases two_cases p with ⟨j, rfl⟩ | ⟨j, rfl⟩
    · have hj : j < l.length := by omega
      rw [en_even l j hj] at he
      rw [(odd_two j).1, behind_even, behind_odd hj, List.drop_eq_getElem_cons hj]
      simp only [behind.spSumR]
      simp
      omega
    · have hj : j < l.length := by omega
      rw [en_odd l j hj] at he
      rw [(odd_two j).2, behind_odd hj, show 2 * j + 1 + 1 = 2 * (j + 1) by omega, behind_even]
      simp
      omega
  · rw [if_neg hn]
    rcases two_cases p with ⟨j, rfl⟩ | ⟨j, rfl⟩
    · rw [(odd_two j).1, behind_even, behind_even]; simp
    · by_cases hj : j < l.length
      · rw [(odd_two j).2, behind_odd hj, behind_odd hj]; simp; omega
      · omega
theorem sumR_eq (l : List Sp) : behind.spSumR l = spSum l := by
  induction l with
  | nil => rfl
  | cons s l ih => simp only [behind.spSumR, ih, spSum, List.map_cons, List.sum_cons]

theorem step_lt {a b : List Sp} (ha : SpsGood a) (hb : SpsGood b) {p q : Nat} {t : Int} (ca : SpCut a p t) (cb : SpCut b q t) (hne : ¬ (p = 2 * a.length ∧ q = 2 * b.length)) :
    t < atN a b p q ∧ atN a b p q ≤ spNx a p ∧ atN a b p q ≤ spNx b q := by
  have na := spNx_le ha ca.1
  have nb := spNx_le hb cb.1
  have hp := ca.1
  have hq := cb.1
  have la : t < spNx a p ∨ p = 2 * a.length := by
    by_cases he : p = 2 * a.length
    · exact .inr he
    · left; unfold spNx; rw [if_neg he]; exact ca.2.2 p (Nat.le_refl _) (by omega)
  have lb : t < spNx b q ∨ q = 2 * b.length := by
    by_cases he : q = 2 * b.length
    · exact .inr he
    · left; unfold spNx; rw [if_neg he]; exact cb.2.2 q (Nat.le_refl _) (by omega)
  have ea : p = 2 * a.length → spNx a p = 1073741825 := fun he => by unfold spNx; rw [if_pos he]
  have eb : q = 2 * b.length → spNx b q = 1073741825 := fun he => by unfold spNx; rw [if_pos he]
  unfold atN
  split <;> omega
theorem hits_far {l : List Sp} (hl : SpsGood l) {t u : Int} (h : SpCut l (2 * l.length) t) (htu : t ≤ u) : hits l u = false := by
  have hc : SpCut l (2 * l.length) u := ⟨Nat.le_refl _, fun k hk => by have := h.2.1 k hk; omega, fun k h1 h2 => by omega⟩
  rw [← hits_at, odd_at hc hl]; exact (odd_two _).1
theorem has_ff (op : Nat) : spHas op false false = false := by unfold spHas; split <;> (try split) <;> rfl
theorem suN_bd {op : Nat} {a b : List Sp} (ha : SpsGood a) (hb : SpsGood b) {p q : Nat} (hp : p ≤ 2 * a.length) (hq : q ≤ 2 * b.length) : -1000 ≤ suN op a b p q ∧ suN op a b p q ≤ 1000 := by
  have na := spNx_le ha hp
  have nb := spNx_le hb hq
  unfold suN
  split
  · omega
  · split <;> omega
/- the state of the run at t -/
theorem run_facts {op : Nat} {a b : List Sp} (ha : SpsGood a) (hb : SpsGood b) : ∀ (n p q : Nat) (f s : Int) (t : Int), SpCut a p t → SpCut b q t → 2 * a.length + 2 * b.length ≤ n + p + q →
    (spHas op (spOdd p) (spOdd q) = true → -1073741824 ≤ f ∧ f ≤ t ∧ -1000 ≤ s ∧ s ≤ 1000) →
    (spHas op (spOdd p) (spOdd q) = false → Ch t (spRun op a b n p q false f s) ∧ (∀ u, t ≤ u → hits (spRun op a b n p q false f s) u = spHas op (hits a u) (hits b u))) ∧
    (spHas op (spOdd p) (spOdd q) = true → (∃ x l, spRun op a b n p q true f s = x :: l ∧ x.f = f ∧ SpGood x ∧ t < x.t ∧ Ch x.t l) ∧ (∀ u, t ≤ u → hits (spRun op a b n p q true f s) u = spHas op (hits a u) (hits b u))) := by
  intro n
  induction n with
  | zero =>
    intro p q f s t ca cb hn hf
    have h1 := ca.1
    have h2 := cb.1
    obtain rfl : p = 2 * a.length := by omega
    obtain rfl : q = 2 * b.length := by omega
    have he := has_end op a b
    refine ⟨fun _ => ⟨trivial, fun u hu => ?_⟩, fun h => by rw [he] at h; cases h⟩
    rw [hits_far ha ca hu, hits_far hb cb hu, has_ff]; rfl
  | succ n ih =>
    intro p q f s t ca cb hn hf
    by_cases hd : p = 2 * a.length ∧ q = 2 * b.length
    · obtain ⟨rfl, rfl⟩ := hd
      have he := has_end op a b
      refine ⟨fun _ => ?_, fun h => by rw [he] at h; cases h⟩
      rw [run_done ⟨rfl, rfl⟩]
      exact ⟨trivial, fun u hu => by rw [hits_far ha ca hu, hits_far hb cb hu, has_ff]; rfl⟩
    · obtain ⟨ca', cb', hF, hF2, hadv⟩ := step_ne ha hb ⟨t, ca, cb⟩ hd
      obtain ⟨htl, hta, htb⟩ := step_lt ha hb ca cb hd
      have hsb := suN_bd (op := op) ha hb ca.1 cb.1
      have hmid : ∀ u, t ≤ u → u < atN a b p q → spHas op (hits a u) (hits b u) = spHas op (spOdd p) (spOdd q) := fun u h1 h2 => by
        rw [cut_hits ha ca h1 (by omega), cut_hits hb cb h1 (by omega)]
      refine ⟨fun ho => ?_, fun ho => ?_⟩
      · cases hn2 : spHas op (spOdd (pA a b p q)) (spOdd (qB a b p q)) with
        | false =>
          rw [run_same hd hn2]
          obtain ⟨i1, i2⟩ := (ih _ _ f s _ ca' cb' (by omega) (fun h => by rw [hn2] at h; cases h)).1 hn2
          refine ⟨i1.mono (by omega), fun u hu => ?_⟩
          by_cases hlt : u < atN a b p q
          · rw [hmid u hu hlt, ho]; exact i1.above (by omega)
          · exact i2 u (by omega)
        | true =>
          rw [run_open hd hn2]
          obtain ⟨⟨x, l, e, ef, eg, et, ec⟩, i2⟩ := (ih _ _ (atN a b p q) (suN op a b p q) _ ca' cb' (by omega) (fun _ => ⟨hF2, Int.le_refl _, hsb.1, hsb.2⟩)).2 hn2
          refine ⟨by rw [e]; exact ⟨by omega, eg, ec⟩, fun u hu => ?_⟩
          by_cases hlt : u < atN a b p q
          · rw [hmid u hu hlt, ho, e, hits_cons, ec.above (by omega)]
            have : decide (x.f ≤ u) = false := decide_eq_false (by omega)
            rw [this]; rfl
          · exact i2 u (by omega)
      · obtain ⟨f1, f2, f3, f4⟩ := hf ho
        cases hn2 : spHas op (spOdd (pA a b p q)) (spOdd (qB a b p q)) with
        | false =>
          rw [run_shut hd hn2]
          obtain ⟨i1, i2⟩ := (ih _ _ f s _ ca' cb' (by omega) (fun h => by rw [hn2] at h; cases h)).1 hn2
          refine ⟨⟨_, _, rfl, rfl, by unfold SpGood; simp only; omega, htl, i1⟩, fun u hu => ?_⟩
          rw [hits_cons]
          by_cases hlt : u < atN a b p q
          · have e1 : decide (f ≤ u) = true := decide_eq_true (by omega)
            have e2 : decide (u < atN a b p q) = true := decide_eq_true hlt
            rw [hmid u hu hlt, ho]
            simp only [e1, e2]; rfl
          · have e2 : decide (u < atN a b p q) = false := decide_eq_false hlt
            rw [← i2 u (by omega)]
            simp only [e2, Bool.and_false, Bool.false_or]
        | true =>
          rw [run_same hd hn2]
          obtain ⟨⟨x, l, e, ef, eg, et, ec⟩, i2⟩ := (ih _ _ f s _ ca' cb' (by omega) (fun _ => ⟨f1, by omega, f3, f4⟩)).2 hn2
          refine ⟨⟨x, l, e, ef, eg, by omega, ec⟩, fun u hu => ?_⟩
          by_cases hlt : u < atN a b p q
          · have e1 : decide (x.f ≤ u) = true := decide_eq_true (by omega)
            have e2 : decide (u < x.t) = true := decide_eq_true (by omega)
            rw [hmid u hu hlt, ho, e, hits_cons, e1, e2]; rfl
          · exact i2 u (by omega)
theorem cut_start {a : List Sp} (ha : SpsGood a) : SpCut a 0 (-1073741825) := ⟨by omega, fun k h => by omega, fun k _ h => by have := en_bd ha h; omega⟩
theorem hits_low {l : List Sp} (hl : SpsGood l) {u : Int} (hu : u < -1073741824) : hits l u = false := by
  unfold hits
  rw [List.any_eq_false]
  intro x hx
  obtain ⟨j, hj, rfl⟩ := List.getElem_of_mem hx
  have := (hl j hj).1
  unfold SpGood at this
  simp only [spHit, Bool.and_eq_true, decide_eq_true_eq, not_and]; omega
theorem has_zero (op : Nat) : spHas op (spOdd 0) (spOdd 0) = false := by
  have := has_end op [] []
  simpa using this
theorem total_good {op : Nat} {a b : List Sp} (ha : SpsGood a) (hb : SpsGood b) : Ch (-1073741825) (spTotal op a b) ∧ ∀ u, hits (spTotal op a b) u = spHas op (hits a u) (hits b u) := by
  obtain ⟨h1, h2⟩ := (run_facts (op := op) ha hb (2 * a.length + 2 * b.length) 0 0 0 0 _ (cut_start ha) (cut_start hb) (by omega) (fun h => by rw [has_zero] at h; cases h)).1 (has_zero op)
  refine ⟨h1, fun u => ?_⟩
  by_cases hu : -1073741825 ≤ u
  · exact h2 u hu
  · rw [hits_low ha (by omega), hits_low hb (by omega), has_ff]
    exact hits_low h1.good.1 (by omega)
/- how long what is put together is -/
def long (op : Nat) (a b : List Sp) (n p q : Nat) (f s t : Int) : Int := behind.spSumR (spRun op a b n p q (spHas op (spOdd p) (spOdd q)) f s) - (if spHas op (spOdd p) (spOdd q) = true then t - f else 0)
theorem long_step {op : Nat} {a b : List Sp} {n p q : Nat} {f s t : Int} (hd : ¬ (p = 2 * a.length ∧ q = 2 * b.length)) :
    ∃ f' s', long op a b (n + 1) p q f s t = (if spHas op (spOdd p) (spOdd q) = true then atN a b p q - t else 0) + long op a b n (pA a b p q) (qB a b p q) f' s' (atN a b p q) := by
  unfold long
  cases ho : spHas op (spOdd p) (spOdd q) <;> cases hn : spHas op (spOdd (pA a b p q)) (spOdd (qB a b p q))
  · exact ⟨f, s, by rw [run_same hd hn]; simp⟩
  · exact ⟨atN a b p q, suN op a b p q, by rw [run_open hd hn]; simp⟩
  · exact ⟨f, s, by rw [run_shut hd hn]; simp only [behind.spSumR]; simp; omega⟩
  · exact ⟨f, s, by rw [run_same hd hn]; simp; omega⟩
theorem long_sums {a b : List Sp} (ha : SpsGood a) (hb : SpsGood b) : ∀ (n p q : Nat) (f0 s0 f1 s1 f2 s2 t : Int), SpCut a p t → SpCut b q t → 2 * a.length + 2 * b.length ≤ n + p + q →
    long 0 a b n p q f0 s0 t + long 1 a b n p q f1 s1 t = behind a p t + behind b q t ∧ long 2 a b n p q f2 s2 t + long 0 a b n p q f0 s0 t = behind a p t := by
  intro n
  induction n with
  | zero =>
    intro p q f0 s0 f1 s1 f2 s2 t ca cb hn
    have h1 := ca.1
    have h2 := cb.1
    obtain rfl : p = 2 * a.length := by omega
    obtain rfl : q = 2 * b.length := by omega
    unfold long
    rw [has_end, has_end, has_end, behind_end, behind_end]
    simp [spRun, behind.spSumR]
  | succ n ih =>
    intro p q f0 s0 f1 s1 f2 s2 t ca cb hn
    by_cases hd : p = 2 * a.length ∧ q = 2 * b.length
    · obtain ⟨rfl, rfl⟩ := hd
      unfold long
      rw [has_end, has_end, has_end, behind_end, behind_end, run_done ⟨rfl, rfl⟩, run_done ⟨rfl, rfl⟩, run_done ⟨rfl, rfl⟩]
      simp [behind.spSumR]
    · obtain ⟨ca', cb', hF, hF2, hadv⟩ := step_ne ha hb ⟨t, ca, cb⟩ hd
      obtain ⟨htl, hta, htb⟩ := step_lt ha hb ca cb hd
      obtain ⟨g0, r0, e0⟩ := long_step (op := 0) (n := n) (f := f0) (s := s0) (t := t) hd
      obtain ⟨g1, r1, e1⟩ := long_step (op := 1) (n := n) (f := f1) (s := s1) (t := t) hd
      obtain ⟨g2, r2, e2⟩ := long_step (op := 2) (n := n) (f := f2) (s := s2) (t := t) hd
      obtain ⟨i1, i2⟩ := ih _ _ g0 r0 g1 r1 g2 r2 _ ca' cb' (by omega)
      have ba := behind_step (t := t) ca.1 hta hF
      have bb := behind_step (t := t) cb.1 htb hF
      have ea : (if spNx a p ≤ atN a b p q then p + 1 else p) = pA a b p q := by
        unfold atN pA; by_cases h : spNx a p ≤ spNx b q <;> simp [h]
      have eb : (if spNx b q ≤ atN a b p q then q + 1 else q) = qB a b p q := by
        unfold atN qB
        by_cases h : spNx a p ≤ spNx b q
        · simp [h]
        · have : spNx b q ≤ spNx a p := by omega
          simp [h, this]
      rw [ea] at ba
      rw [eb] at bb
      rw [e0, e1, e2, ba, bb]
      have hx0 : spHas 0 (spOdd p) (spOdd q) = (spOdd p && spOdd q) := rfl
      have hx1 : spHas 1 (spOdd p) (spOdd q) = (spOdd p || spOdd q) := rfl
      have hx2 : spHas 2 (spOdd p) (spOdd q) = (spOdd p && !spOdd q) := rfl
      rw [hx0, hx1, hx2]
      generalize atN a b p q = t' at *
      cases spOdd p <;> cases spOdd q <;> simp <;> omega
theorem total_sums {a b : List Sp} (ha : SpsGood a) (hb : SpsGood b) : spSum (spTotal 0 a b) + spSum (spTotal 1 a b) = spSum a + spSum b ∧ spSum (spTotal 2 a b) + spSum (spTotal 0 a b) = spSum a := by
  have h := long_sums ha hb (2 * a.length + 2 * b.length) 0 0 0 0 0 0 0 0 _ (cut_start ha) (cut_start hb) (by omega)
  unfold long at h
  rw [has_zero, has_zero, has_zero] at h
  have e : ∀ l : List Sp, behind l 0 (-1073741825) = spSum l := fun l => by
    have := behind_even l 0 (-1073741825)
    simpa [sumR_eq] using this
  rw [e, e, sumR_eq, sumR_eq, sumR_eq] at h
  simp only [Bool.false_eq_true, if_false, Int.sub_zero] at h
  exact h
end Go.Proofs.Ytdjmeeknahdbbaa
