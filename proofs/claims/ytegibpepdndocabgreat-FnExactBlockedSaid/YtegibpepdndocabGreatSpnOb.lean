import Derived.Deep.Cut
import Derived.Test.YtegibpepdndocabGreatPrtb
import Derived.Test.YtegibpepdndocabGreatRootb
import Derived.Test.YtegibpepdndocabGreatSpnMb
section
namespace Go.Proofs.YtegibpepdndocabGreat

/- what is put together is spans again, has the parts that it should, and is as long together -/
def hits (l : List Sp) (u : Int) : Bool := l.any (spHit · u)
theorem hits_at (l : List Sp) (u : Int) : decide (0 ≤ spAt l u) = hits l u := by
  unfold spAt hits
  cases h : l.findIdx? (spHit · u) with
  | none =>
    rw [List.findIdx?_eq_none_iff] at h
    have : l.any (spHit · u) = false := by
      rw [List.any_eq_false]
      intro x hx
      simp [h x hx]
    rw [this]; rfl
  | some k =>
    rw [List.findIdx?_eq_some_iff_getElem] at h
    obtain ⟨hk, hh, _⟩ := h
    have : l.any (spHit · u) = true := List.any_eq_true.2 ⟨l[k], List.getElem_mem hk, hh⟩
    rw [this]; simp
theorem cut_hits {l : List Sp} (hl : SpsGood l) {p : Nat} {t u : Int} (h : SpCut l p t) (htu : t ≤ u) (hu : u < spNx l p) : hits l u = spOdd p := by
  have hc : SpCut l p u := by
    obtain ⟨hp, h1, h2⟩ := h
    refine ⟨hp, fun k hk => by have := h1 k hk; omega, fun k hk hk2 => ?_⟩
    unfold spNx at hu
    rw [if_neg (by omega)] at hu
    rcases Nat.lt_or_ge p k with h3 | h3
    · have := en_lt hl h3 hk2; omega
    · obtain rfl : k = p := by omega
      exact hu
  rw [← hits_at, odd_at hc hl]
/- a chain of spans behind lo -/
def Ch : Int → List Sp → Prop
  | _, [] => True
  | lo, s :: l => lo < s.f ∧ SpGood s ∧ Ch s.t l
theorem Ch.mono {lo lo' : Int} (h : lo' ≤ lo) : ∀ {l : List Sp}, Ch lo l → Ch lo' l
  | [], _ => trivial
  | s :: l, ⟨h1, h2, h3⟩ => ⟨by omega, h2, h3⟩
theorem Ch.good : ∀ {l : List Sp} {lo : Int}, Ch lo l → SpsGood l ∧ ∀ (h : 0 < l.length), lo < l[0].f
  | [], _, _ => ⟨fun k h => absurd h (by simp), fun h => absurd h (by simp)⟩
  | s :: l, lo, ⟨h1, h2, h3⟩ => by
    obtain ⟨i1, i2⟩ := h3.good
    refine ⟨fun k hk => ?_, fun _ => h1⟩
    cases k with
    | zero => exact ⟨h2, fun j hj => by omega⟩
    | succ k =>
      have hk' : k < l.length := by simpa using hk
      refine ⟨(i1 k hk').1, fun j hj => ?_⟩
      cases j with
      | zero =>
        obtain rfl : k = 0 := by omega
        exact i2 hk'
      | succ j => exact (i1 k hk').2 j (by omega)
theorem Ch.above {u : Int} : ∀ {l : List Sp} {lo : Int}, Ch lo l → u ≤ lo → hits l u = false
  | [], _, _, _ => rfl
  | s :: l, lo, ⟨h1, h2, h3⟩, hu => by
    have ih := h3.above (u := u) (by unfold SpGood at h2; omega)
    unfold hits at ih ⊢
    rw [List.any_cons, ih, Bool.or_false]
    simp only [spHit, Bool.and_eq_false_iff, decide_eq_false_iff_not]; omega
theorem hits_cons (s : Sp) (l : List Sp) (u : Int) : hits (s :: l) u = ((decide (s.f ≤ u) && decide (u < s.t)) || hits l u) := rfl

/- how much of l lies behind t, where p ends are passed -/
def behind (l : List Sp) (p : Nat) (t : Int) : Int := if p % 2 = 1 then (spEn l p - t) + spSumR (l.drop (p / 2 + 1)) else spSumR (l.drop (p / 2))
where spSumR : List Sp → Int
  | [] => 0
  | s :: l => (s.t - s.f) + spSumR l
theorem odd_two (j : Nat) : spOdd (2 * j) = false ∧ spOdd (2 * j + 1) = true := by
  unfold spOdd
  have h1 : 2 * j % 2 = 0 := by omega
  have h2 : (2 * j + 1) % 2 = 1 := by omega
  simp [h1, h2]
theorem step_lt {a b : List Sp} (ha : SpsGood a) (hb : SpsGood b) {p q : Nat} {t : Int} (ca : SpCut a p t) (cb : SpCut b q t) (hne : ¬ (p = 2 * a.length ∧ q = 2 * b.length)) :
    t < atN a b p q ∧ atN a b p q ≤ spNx a p ∧ atN a b p q ≤ spNx b q := by
  have na := spNx_le ha ca.1
  have nb := spNx_le hb cb.1
  have hp := ca.1
  have hq := cb.1
  have la : t < spNx a p ∨ p = 2 * a.length := by
    by_cases he : p = 2 * a.length
    · exact .inr he
    · left; unfold spNx; rw [if_neg he]; exact ca.2.2 p (Nat.le_refl _) (by omega)
  have lb : t < spNx b q ∨ q = 2 * b.length := by
    by_cases he : q = 2 * b.length
    · exact .inr he
    · left; unfold spNx; rw [if_neg he]; exact cb.2.2 q (Nat.le_refl _) (by omega)
  have ea : p = 2 * a.length → spNx a p = 1073741825 := fun he => by unfold spNx; rw [if_pos he]
  have eb : q = 2 * b.length → spNx b q = 1073741825 := fun he => by unfold spNx; rw [if_pos he]
  unfold atN
  split <;> omega
theorem hits_far {l : List Sp} (hl : SpsGood l) {t u : Int} (h : SpCut l (2 * l.length) t) (htu : t ≤ u) : hits l u = false := by
  have hc : SpCut l (2 * l.length) u := ⟨Nat.le_refl _, fun k hk => by have := h.2.1 k hk; omega, fun k h1 h2 => by omega⟩
  rw [← hits_at, odd_at hc hl]; exact (odd_two _).1
theorem has_ff (op : Nat) : spHas op false false = false := by unfold spHas; split <;> (try split) <;> rfl
theorem suN_bd {op : Nat} {a b : List Sp} (ha : SpsGood a) (hb : SpsGood b) {p q : Nat} (hp : p ≤ 2 * a.length) (hq : q ≤ 2 * b.length) : -1000 ≤ suN op a b p q ∧ suN op a b p q ≤ 1000 := by
  have na := spNx_le ha hp
  have nb := spNx_le hb hq
  unfold suN
  split
  · omega
  · split <;> omega
/- the state of the run at t -/
theorem run_facts {op : Nat} {a b : List Sp} (ha : SpsGood a) (hb : SpsGood b) : ∀ (n p q : Nat) (f s : Int) (t : Int), SpCut a p t → SpCut b q t → 2 * a.length + 2 * b.length ≤ n + p + q →
    (spHas op (spOdd p) (spOdd q) = true → -1073741824 ≤ f ∧ f ≤ t ∧ -1000 ≤ s ∧ s ≤ 1000) →
    (spHas op (spOdd p) (spOdd q) = false → Ch t (spRun op a b n p q false f s) ∧ (∀ u, t ≤ u → hits (spRun op a b n p q false f s) u = spHas op (hits a u) (hits b u))) ∧
    (spHas op (spOdd p) (spOdd q) = true → (∃ x l, spRun op a b n p q true f s = x :: l ∧ x.f = f ∧ SpGood x ∧ t < x.t ∧ Ch x.t l) ∧ (∀ u, t ≤ u → hits (spRun op a b n p q true f s) u = spHas op (hits a u) (hits b u))) := by
  intro n
  induction n with
  | zero =>
    intro p q f s t ca cb hn hf
    have h1 := ca.1
    have h2 := cb.1
    obtain rfl : p = 2 * a.length := by omega
    obtain rfl : q = 2 * b.length := by omega
    have he := has_end op a b
    refine ⟨fun _ => ⟨trivial, fun u hu => ?_⟩, fun h => by rw [he] at h; cases h⟩
    rw [hits_far ha ca hu, hits_far hb cb hu, has_ff]; rfl
  | succ n ih =>
    intro p q f s t ca cb hn hf
    by_cases hd : p = 2 * a.length ∧ q = 2 * b.length
    · obtain ⟨rfl, rfl⟩ := hd
      have he := has_end op a b
      refine ⟨fun _ => ?_, fun h => by rw [he] at h; cases h⟩
      rw [run_done ⟨rfl, rfl⟩]
      exact ⟨trivial, fun u hu => by rw [hits_far ha ca hu, hits_far hb cb hu, has_ff]; rfl⟩
    · obtain ⟨ca', cb', hF, hF2, hadv⟩ := step_ne ha hb ⟨t, ca, cb⟩ hd
      obtain ⟨htl, hta, htb⟩ := step_lt ha hb ca cb hd
      have hsb := suN_bd (op := op) ha hb ca.1 cb.1
      have hmid : ∀ u, t ≤ u → u < atN a b p q → spHas op (hits a u) (hits b u) = spHas op (spOdd p) (spOdd q) := fun u h1 h2 => by
        rw [cut_hits ha ca h1 (by omega), cut_hits hb cb h1 (by omega)]
      refine ⟨fun ho => ?_, fun ho => ?_⟩
      · cases hn2 : spHas op (spOdd (pA a b p q)) (spOdd (qB a b p q)) with
        | false =>
          rw [run_same hd hn2]
          obtain ⟨i1, i2⟩ := (ih _ _ f s _ ca' cb' (by omega) (fun h => by rw [hn2] at h; cases h)).1 hn2
          refine ⟨i1.mono (by omega), fun u hu => ?_⟩
          by_cases hlt : u < atN a b p q
          · rw [hmid u hu hlt, ho]; exact i1.above (by omega)
          · exact i2 u (by omega)
        | true =>
          rw [run_open hd hn2]
          obtain ⟨⟨x, l, e, ef, eg, et, ec⟩, i2⟩ := (ih _ _ (atN a b p q) (suN op a b p q) _ ca' cb' (by omega) (fun _ => ⟨hF2, Int.le_refl _, hsb.1, hsb.2⟩)).2 hn2
          refine ⟨by rw [e]; exact ⟨by omega, eg, ec⟩, fun u hu => ?_⟩
          by_cases hlt : u < atN a b p q
          · rw [hmid u hu hlt, ho, e, hits_cons, ec.above (by omega)]
            have : decide (x.f ≤ u) = false := decide_eq_false (by omega)
            rw [this]; rfl
          · exact i2 u (by omega)
      · obtain ⟨f1, f2, f3, f4⟩ := hf ho
        cases hn2 : spHas op (spOdd (pA a b p q)) (spOdd (qB a b p q)) with
        | false =>
          rw [run_shut hd hn2]
          obtain ⟨i1, i2⟩ := (ih _ _ f s _ ca' cb' (by omega) (fun h => by rw [hn2] at h; cases h)).1 hn2
          refine ⟨⟨_, _, rfl, rfl, by unfold SpGood; simp only; omega, htl, i1⟩, fun u hu => ?_⟩
          rw [hits_cons]
          by_cases hlt : u < atN a b p q
          · have e1 : decide (f ≤ u) = true := decide_eq_true (by omega)
            have e2 : decide (u < atN a b p q) = true := decide_eq_true hlt
            rw [hmid u hu hlt, ho]
            simp only [e1, e2]; rfl
          · have e2 : decide (u < atN a b p q) = false := decide_eq_false hlt
            rw [← i2 u (by omega)]
            simp only [e2, Bool.and_false, Bool.false_or]
        | true =>
          rw [run_same hd hn2]
          obtain ⟨⟨x, l, e, ef, eg, et, ec⟩, i2⟩ := (ih _ _ f s _ ca' cb' (by omega) (fun _ => ⟨f1, by omega, f3, f4⟩)).2 hn2
          refine ⟨⟨x, l, e, ef, eg, by omega, ec⟩, fun u hu => ?_⟩
          by_cases hlt : u < atN a b p q
          · have e1 : decide (x.f ≤ u) = true := decide_eq_true (by omega)
            have e2 : decide (u < x.t) = true := decide_eq_true (by omega)
            rw [hmid u hu hlt, ho, e, hits_cons, e1, e2]; rfl
          · exact i2 u (by omega)
theorem cut_start {a : List Sp} (ha : SpsGood a) : SpCut a 0 (-1073741825) := ⟨by omega, fun k h => by omega, fun k _ h => by have := en_bd ha h; omega⟩
theorem hits_low {l : List Sp} (hl : SpsGood l) {u : Int} (hu : u < -1073741824) : hits l u = false := by
  unfold hits
  rw [List.any_eq_false]
  intro x hx
  obtain ⟨j, hj, rfl⟩ := List.getElem_of_mem hx
  have := (hl j hj).1
  unfold SpGood at this
  simp only [spHit, Bool.and_eq_true, decide_eq_true_eq, not_and]; omega
theorem has_zero (op : Nat) : spHas op (spOdd 0) (spOdd 0) = false := by
  have := has_end op [] []
  simpa using this
theorem total_good {op : Nat} {a b : List Sp} (ha : SpsGood a) (hb : SpsGood b) : Ch (-1073741825) (spTotal op a b) ∧ ∀ u, hits (spTotal op a b) u = spHas op (hits a u) (hits b u) := by
  obtain ⟨h1, h2⟩ := (run_facts (op := op) ha hb (2 * a.length + 2 * b.length) 0 0 0 0 _ (cut_start ha) (cut_start hb) (by omega) (fun h => by rw [has_zero] at h; cases h)).1 (has_zero op)
  refine ⟨h1, fun u => ?_⟩
  by_cases hu : -1073741825 ≤ u
  · exact h2 u hu
  · rw [hits_low ha (by omega), hits_low hb (by omega), has_ff]
    exact hits_low h1.good.1 (by omega)
end Go.Proofs.YtegibpepdndocabGreat
end
section
namespace Go.Proofs.YtegibpepdndocabGreat
open Go.ChangeShapes Go.WideShapes Go.ChangeAt Go.RowKit
set_option maxHeartbeats 1000000
set_option linter.unusedSimpArgs false

def Sp.cells (s : Sp) : List Value := [.int .i64 s.f, .int .i64 s.t, .int .i64 s.i, .int .i64 s.o]
abbrev Sp.val (s : Sp) : Value := .agg #[.int .i64 (s.f), .int .i64 (s.t), .int .i64 (s.i), .int .i64 (s.o)]
/- the four cells of a span from k on in block b -/
def Four (w : World) (b k : Nat) (s : Sp) : Prop :=
  w.cell? ⟨b, k, none⟩ = some (.int .i64 s.f) ∧ w.cell? ⟨b, k + 1, none⟩ = some (.int .i64 s.t) ∧ w.cell? ⟨b, k + 2, none⟩ = some (.int .i64 s.i) ∧ w.cell? ⟨b, k + 3, none⟩ = some (.int .i64 s.o)
theorem cell_lift {w w' : World} {a : Addr} {u : Value} (h : w.cell? a = some u) (he : w'.heap[a.block]? = w.heap[a.block]?) : w'.cell? a = some u := by rw [World.cell?_of_block he]; exact h
theorem Four.lift {w w' : World} {b k : Nat} {s : Sp} (h : Four w b k s) (he : w'.heap[b]? = w.heap[b]?) : Four w' b k s := by
  obtain ⟨h0, h1, h2, h3⟩ := h
  exact ⟨cell_lift h0 he, cell_lift h1 he, cell_lift h2 he, cell_lift h3 he⟩
theorem Four.lt {w : World} {b k : Nat} {s : Sp} (h : Four w b k s) : b < w.heap.size := block_lt_of_cell h.1
theorem Four.below {w w' : World} {b k : Nat} {s : Sp} (h : Four w b k s) (hb : Below w.heap.size w w') : Four w' b k s := h.lift (hb.block b h.lt)
/- the slice value v reads as spans -/
def SIn (w : World) (v : Value) (l : List Sp) : Prop := ∃ A c, v = .slice A l.length c ∧ (0 < l.length → ∃ b off, A = some ⟨b, off, none⟩ ∧ ∀ i (h : i < l.length), Four w b (off + i * 4) l[i])
theorem SIn.lift {w w' : World} {v : Value} {l : List Sp} (h : SIn w v l) (he : ∀ b, v.ownBlock = some b → b < w.heap.size → w'.heap[b]? = w.heap[b]?) : SIn w' v l := by
  obtain ⟨A, c, rfl, h⟩ := h
  refine ⟨A, c, rfl, fun h0 => ?_⟩
  obtain ⟨b, off, rfl, hf⟩ := h h0
  exact ⟨b, off, rfl, fun i hi => (hf i hi).lift (he b rfl (hf i hi).lt)⟩
theorem SIn.below {w w' : World} {v : Value} {l : List Sp} (h : SIn w v l) (hb : Below w.heap.size w w') : SIn w' v l := h.lift fun b _ hlt => hb.block b hlt
abbrev SRow (w : World) (B : Nat) (v : Value) (l : List Sp) : Prop := RowK w B 87 4 v (l.map Sp.cells)
theorem SRow.seen {w : World} {B : Nat} {v : Value} {l : List Sp} (h : SRow w B v l) : SIn w v l := by
  obtain ⟨A, c, rfl, hA, _⟩ := h.shape
  rw [List.length_map] at hA h ⊢
  refine ⟨A, c, rfl, fun h0 => ?_⟩
  obtain ⟨g, rfl, _⟩ := hA h0
  refine ⟨g, 0, rfl, fun i hi => ?_⟩
  have hc : ∀ j, j < 4 → w.cell? ⟨g, i * 4 + j, none⟩ = (l[i].cells)[j]? := fun j hj => by
    have := h.cell (by simp) i j (by simpa using hi) hj
    simpa using this
  rw [Nat.zero_add]
  exact ⟨hc 0 (by omega), hc 1 (by omega), hc 2 (by omega), hc 3 (by omega)⟩
theorem SRow.shape0 {w : World} {B : Nat} {v : Value} {l : List Sp} (h : SRow w B v l) : ∃ A c, v = .slice A l.length c ∧ (0 < l.length → ∃ g, A = some ⟨g, 0, none⟩ ∧ B ≤ g ∧ g < w.heap.size) := by
  obtain ⟨A, c, hv, hA, _⟩ := h.shape
  rw [List.length_map] at hA hv
  exact ⟨A, c, hv, hA⟩
theorem SRow.four {w : World} {B g n c : Nat} {l : List Sp} (h : SRow w B (.slice (some ⟨g, 0, none⟩) n c) l) (hn : n = l.length) (i : Nat) (hi : i < l.length) : Four w g (i * 4) l[i] := by
  obtain ⟨A, c', hv, h'⟩ := h.seen
  subst hn
  simp only [Value.slice.injEq] at hv
  obtain ⟨b, off, hA, hf⟩ := h' (by omega)
  rw [← hv.1] at hA
  simp only [Option.some.injEq, Addr.mk.injEq] at hA
  obtain ⟨rfl, rfl, _⟩ := hA
  have := hf i hi
  rwa [Nat.zero_add] at this

theorem infoSp : (Tryz.prog.info? 87).map (fun i => (i.zero, i.size, i.bytes)) = some (some (.agg #[.int .i64 0, .int .i64 0, .int .i64 0, .int .i64 0]), 4, 32) := by kernel_rfl
end Go.Proofs.YtegibpepdndocabGreat
end
section
namespace Go.Proofs.YtegibpepdndocabGreat
open Has renaming new → J0, new1 → J1, new2 → J2, new3 → J3, new4 → J4, drew → J5, drewN → J6, alloc → J7, same → J8, other → J9, cell → Jc, frozen → Jf, below → Jb
open Go.ChangeShapes Go.WideShapes Go.ChangeAt Go.RowKit
set_option maxHeartbeats 1000000
set_option linter.unusedSimpArgs false
attribute [local go_sem] VGo_value VGo_skip VGo_enter

/- whether one span is one -/
theorem isSpan_yes (s : Sp) (w : World) (h : SpGood s) : Calls Tryz.prog 102 #[s.val] w fun e w' => e = .returned (.bool true) ∧ Below w.heap.size w w' := by
  obtain ⟨h1, h2, h3, h4, h5, h6, h7, h8, h9⟩ := h
  go_enter Tryz.func102, Tryz.ntmps102
  go_wp2_with (go_at_call 79; ((with_reducible refine (within_yes _ _ _ _ (by omega) (by omega)).mono ?_); rintro e w' ⟨rfl, rfl⟩))
  go_ret; refine ⟨rfl, ?_⟩; (repeat' (first|with_reducible (first|exact lowRefl _|apply lowSet|apply lowDrew|apply lowDrewN|apply lowAlloc)|(with_reducible refine lowCall ?_ (by assumption))|(show (_ : Nat) ≤ _;first|(simp;done)|(simp;omega)|omega)))
theorem isSpan_no (s : Sp) (w : World) (h : ¬ SpGood s) : Calls Tryz.prog 102 #[s.val] w fun e w' => e = .returned (.bool false) ∧ Below w.heap.size w w' := by
  unfold SpGood at h
  by_cases a1 : -1073741824 ≤ s.f ∧ s.f ≤ 1073741824
  · by_cases a2 : -1073741824 ≤ s.t ∧ s.t ≤ 1073741824
    · by_cases a3 : s.f < s.t
      · by_cases a4 : -1000 ≤ s.i ∧ s.i ≤ 1000
        · have a5 : s.o < -1000 ∨ 1000 < s.o := by omega
          clear h
          go_enter Tryz.func102, Tryz.ntmps102
          go_wp2_with (first | (go_at_call 79; ((with_reducible refine (within_yes s.f _ _ _ (by omega) (by omega)).mono ?_); rintro e w' ⟨rfl, rfl⟩)) | (go_at_call 79; ((with_reducible refine (within_yes s.t _ _ _ (by omega) (by omega)).mono ?_); rintro e w' ⟨rfl, rfl⟩)) | (go_at_call 79; ((with_reducible refine (within_yes s.i _ _ _ (by omega) (by omega)).mono ?_); rintro e w' ⟨rfl, rfl⟩)) | (go_at_call 79; ((with_reducible refine (within_no s.o _ _ _ a5).mono ?_); rintro e w' ⟨rfl, rfl⟩)))
          go_ret; refine ⟨rfl, ?_⟩; (repeat' (first|with_reducible (first|exact lowRefl _|apply lowSet|apply lowDrew|apply lowDrewN|apply lowAlloc)|(with_reducible refine lowCall ?_ (by assumption))|(show (_ : Nat) ≤ _;first|(simp;done)|(simp;omega)|omega)))
        · have a5 : s.i < -1000 ∨ 1000 < s.i := by omega
          clear h
          go_enter Tryz.func102, Tryz.ntmps102
          go_wp2_with (first | (go_at_call 79; ((with_reducible refine (within_yes s.f _ _ _ (by omega) (by omega)).mono ?_); rintro e w' ⟨rfl, rfl⟩)) | (go_at_call 79; ((with_reducible refine (within_yes s.t _ _ _ (by omega) (by omega)).mono ?_); rintro e w' ⟨rfl, rfl⟩)) | (go_at_call 79; ((with_reducible refine (within_no s.i _ _ _ a5).mono ?_); rintro e w' ⟨rfl, rfl⟩)))
          go_ret; refine ⟨rfl, ?_⟩; (repeat' (first|with_reducible (first|exact lowRefl _|apply lowSet|apply lowDrew|apply lowDrewN|apply lowAlloc)|(with_reducible refine lowCall ?_ (by assumption))|(show (_ : Nat) ≤ _;first|(simp;done)|(simp;omega)|omega)))
      · have a5 : decide (s.f < s.t) = false := by simpa using a3
        clear h
        go_enter Tryz.func102, Tryz.ntmps102
        go_wp2_with (first | (go_at_call 79; ((with_reducible refine (within_yes s.f _ _ _ (by omega) (by omega)).mono ?_); rintro e w' ⟨rfl, rfl⟩)) | (go_at_call 79; ((with_reducible refine (within_yes s.t _ _ _ (by omega) (by omega)).mono ?_); rintro e w' ⟨rfl, rfl⟩)))
        go_ret; refine ⟨rfl, ?_⟩; (repeat' (first|with_reducible (first|exact lowRefl _|apply lowSet|apply lowDrew|apply lowDrewN|apply lowAlloc)|(with_reducible refine lowCall ?_ (by assumption))|(show (_ : Nat) ≤ _;first|(simp;done)|(simp;omega)|omega)))
    · have a5 : s.t < -1073741824 ∨ 1073741824 < s.t := by omega
      clear h
      go_enter Tryz.func102, Tryz.ntmps102
      go_wp2_with (first | (go_at_call 79; ((with_reducible refine (within_yes s.f _ _ _ (by omega) (by omega)).mono ?_); rintro e w' ⟨rfl, rfl⟩)) | (go_at_call 79; ((with_reducible refine (within_no s.t _ _ _ a5).mono ?_); rintro e w' ⟨rfl, rfl⟩)))
      go_ret; refine ⟨rfl, ?_⟩; (repeat' (first|with_reducible (first|exact lowRefl _|apply lowSet|apply lowDrew|apply lowDrewN|apply lowAlloc)|(with_reducible refine lowCall ?_ (by assumption))|(show (_ : Nat) ≤ _;first|(simp;done)|(simp;omega)|omega)))
  · have a5 : s.f < -1073741824 ∨ 1073741824 < s.f := by omega
    clear h
    go_enter Tryz.func102, Tryz.ntmps102
    go_wp2_with (go_at_call 79; ((with_reducible refine (within_no s.f _ _ _ a5).mono ?_); rintro e w' ⟨rfl, rfl⟩))
    go_ret; refine ⟨rfl, ?_⟩; (repeat' (first|with_reducible (first|exact lowRefl _|apply lowSet|apply lowDrew|apply lowDrewN|apply lowAlloc)|(with_reducible refine lowCall ?_ (by assumption))|(show (_ : Nat) ≤ _;first|(simp;done)|(simp;omega)|omega)))
/- the first spans are ones -/
def PreGood (l : List Sp) (n : Nat) : Prop := ∀ k, (h : k < l.length) → k < n → SpGood l[k] ∧ ∀ j, (hj : j + 1 = k) → (l[j]'(by omega)).t < l[k].f
theorem preGood_all {l : List Sp} : PreGood l l.length ↔ SpsGood l := ⟨fun h k hk => h k hk hk, fun h k hk _ => h k hk⟩
theorem preGood_zero (l : List Sp) : PreGood l 0 := fun k _ h => by omega
theorem preGood_succ {l : List Sp} {n : Nat} (h : PreGood l n) (hn : n < l.length) (hg : SpGood l[n]) (hs : ∀ j, (hj : j + 1 = n) → (l[j]'(by omega)).t < l[n].f) : PreGood l (n + 1) := fun k hk hlt => by
  rcases Nat.lt_or_ge k n with h1 | h1
  · exact h k hk h1
  · obtain rfl : k = n := by omega
    exact ⟨hg, hs⟩
theorem preGood_gap {l : List Sp} {i : Nat} (h : PreGood l (i + 1)) (hn : i + 1 < l.length) (hg : SpGood l[i + 1]) (hs : l[i].t < l[i + 1].f) : PreGood l (i + 1 + 1) :=
  preGood_succ h hn hg fun j hj => by
    have e : j = i := by omega
    subst e; exact hs
theorem sok_gap {l : List Sp} {i : Nat} (hc : i + 1 < l.length) (h : l[i + 1].f ≤ l[i].t) : sOk l = false := sOk_false fun hk => by have := (hk.2 (i + 1) hc).2 i rfl; omega
theorem sok_bad {l : List Sp} {j : Nat} (hc : j < l.length) (h : ¬ SpGood l[j]) : sOk l = false := sOk_false fun hk => h (hk.2 j hc).1
theorem retB {b c : Bool} (h : b = c) : Ending.returned (.bool c) = .returned (.bool b) := by rw [h]
theorem ispansOk_any (l : List Sp) (v : Value) (w : World) (h : SIn w v l) (hl : l.length ≤ 9223372036854775807) :
    Calls Tryz.prog 43 #[v] w fun e w' => e = .returned (.bool (sOk l)) ∧ Below w.heap.size w w' := by
  obtain ⟨A, c, rfl, hA⟩ := h
  have HA := Lib.hid hA
  clear hA
  by_cases hlen : 200 < l.length
  · go_enter Tryz.func43, Tryz.ntmps43
    go_wp2
    go_ret
    exact ⟨retB (sOk_false fun h => by have := h.1; omega), lowRefl w⟩
  · go_enter Tryz.func43, Tryz.ntmps43
    go_wp2
    go_loopw [10] (fun i wr => ∃ j : Nat, j ≤ l.length ∧ i = .int .i64 j ∧ PreGood l j ∧ Below w.heap.size w wr) (fun i _ => l.length - (intOf i).toNat)
    case atStart => exact ⟨0, by omega, rfl, preGood_zero l, lowRefl w⟩
    case round =>
      obtain ⟨j, hj, rfl, hp, hb⟩ := hrel
      have HP := Lib.hid hp
      clear hp
      by_cases hc : j < l.length
      · obtain ⟨b, off, rfl, hf⟩ := HA.out (by omega)
        obtain ⟨c0, c1, c2, c3⟩ := (hf j hc).below hb
        have HF := Lib.hid hf
        clear hf
        go_upto_region 6 with fail
        refine (fun (k : ∀ wm, Has wm wr.heap.size #[.int .i64 l[j].f, .int .i64 l[j].t, .int .i64 l[j].i, .int .i64 l[j].o] 87 → Below w.heap.size w wm → Code.wp _ _ _ _ wm) => k _ ?_ ?_) ?_
        · (refine Has.as (by repeat' (first|with_reducible (first|assumption|apply J0|apply J1|apply J2|apply J3|apply J4|apply J5|apply J6|apply J7|apply J8|apply J9)|(with_reducible show _ ≠ _;first|omega|(simp;done)))) ?_; first | (with_reducible rfl) | (simp only [List.setIfInBounds_toArray, List.set_cons_zero, List.set_cons_succ]; first | done | rfl) | rfl | (simp; done))
        · repeat' (first|with_reducible (first|exact lowRefl _|apply lowSet|apply lowDrew|apply lowDrewN|apply lowAlloc)|(with_reducible refine lowCall ?_ (by assumption))|(show (_ : Nat) ≤ _;first|(simp;done)|(simp;omega)|omega))
        generalize wr.heap.size = bX
        clear hb c0 c1 c2 c3 wr
        intro wr BX hb
        by_cases hg : SpGood l[j]
        · cases j with
          | zero =>
            (refine wp_region_held0 (by kernel_rfl) (by kernel_rfl) (fun _ _ _ d _ h => by cases d <;> exact h) ?_; intro Fq hFq)
            have e1 : decide ((0 : Int) < ((0 : Nat) : Int)) = false := by simp
            repeat (first | (refine wpHeld_skip (by rfl) ?_; ((try simp only [Act.put, List.setIfInBounds_toArray, List.set_cons_zero, List.set_cons_succ]))) | (refine wpHeld_run ?_ rfl ?_ ?_; rotate_left; (focus (intro w' hbq Kq hKq; go_simp; (try simp only [e1]); (try (rw [IntWalk.i64_in]; rotate_left; focus (constructor <;> omega))); first | exact hKq _ (Below.refl _ _) | first | (go_at_call 102; ((with_reducible refine (isSpan_yes l[0] _ hg).mono ?_); rintro e w2 ⟨rfl, hbr⟩; refine back ?_; exact hKq _ hbr)) | ((first | have CX := Jc (BX.below hbq) | have CX := Jc (BX.below (undrew hbq))); go_simp; exact hKq _ (Below.refl _ _)))); ((try simp only [Act.put, List.setIfInBounds_toArray, List.set_cons_zero, List.set_cons_succ]))))
            (refine wpHeld_nil (hFq _ ?_); clear hFq; intro w' hbq; ((try (have B0 := Jb (b := w.heap.size) (by repeat' (first|with_reducible (first|assumption|apply J0|apply J1|apply J2|apply J3|apply J4|apply J5|apply J6|apply J7|apply J8|apply J9)|(with_reducible show _ ≠ _;first|omega|(simp;done)))) hbq; have C0 := Jc B0; have F0 := Jf B0)); (try (have B1 := Jb (b := w.heap.size + 1) (by repeat' (first|with_reducible (first|assumption|apply J0|apply J1|apply J2|apply J3|apply J4|apply J5|apply J6|apply J7|apply J8|apply J9)|(with_reducible show _ ≠ _;first|omega|(simp;done)))) hbq; have C1 := Jc B1; have F1 := Jf B1)); (try (have B2 := Jb (b := w.heap.size + 1 + 1) (by repeat' (first|with_reducible (first|assumption|apply J0|apply J1|apply J2|apply J3|apply J4|apply J5|apply J6|apply J7|apply J8|apply J9)|(with_reducible show _ ≠ _;first|omega|(simp;done)))) hbq; have C2 := Jc B2; have F2 := Jf B2)); (try (have BX := Jb (b := bX) (by repeat' (first|with_reducible (first|assumption|apply J0|apply J1|apply J2|apply J3|apply J4|apply J5|apply J6|apply J7|apply J8|apply J9)|(with_reducible show _ ≠ _;first|omega|(simp;done)))) hbq; have CX := Jc BX; have FX := Jf BX))))
            go_wp2
            go_roundw
            case rel => exact ⟨1, by omega, by go_num, preGood_succ HP.out hc hg (fun j hj => by omega), lowCall hb (undrew hbq)⟩
            case measure => simp [intOf]; omega
          | succ i =>
            have NL : ∀ w', Below wr.drew.heap.size wr.drew w' → Four w' b (off + i * 4) l[i] := fun w' h => ((HF.out i (by omega)).below hb).below (undrew h)
            have e1 : decide ((0 : Int) < ((i + 1 : Nat) : Int)) = true := decide_eq_true (by omega)
            have e2 : decide ((0 : Int) < (i : Int) + 1) = true := decide_eq_true (by omega)
            have hi : i < l.length := by omega
            have e4 : ((i + 1 : Nat) : Int) - 1 = i := by omega
            by_cases hgap : l[i].t < l[i + 1].f
            · have e3 : decide (l[i + 1].f ≤ l[i].t) = false := by simpa using hgap
              (refine wp_region_held0 (by kernel_rfl) (by kernel_rfl) (fun _ _ _ d _ h => by cases d <;> exact h) ?_; intro Fq hFq)
              repeat (first | (refine wpHeld_skip (by rfl) ?_; ((try simp only [Act.put, List.setIfInBounds_toArray, List.set_cons_zero, List.set_cons_succ]))) | (refine wpHeld_run ?_ rfl ?_ ?_; rotate_left; (focus (intro w' hbq Kq hKq; go_simp; (try simp only [e1, e2, e3, e4]); (try (rw [IntWalk.i64_in]; rotate_left; focus (constructor <;> omega))); first | exact hKq _ (Below.refl _ _) | first | (go_at_call 102; ((with_reducible refine (isSpan_yes l[i + 1] _ hg).mono ?_); rintro e w2 ⟨rfl, hbr⟩; refine back ?_; exact hKq _ hbr)) | ((first | have CX := Jc (BX.below hbq) | have CX := Jc (BX.below (undrew hbq))); go_simp; exact hKq _ (Below.refl _ _)) | (obtain ⟨a0, a1, a2, a3⟩ := NL _ hbq; go_simp; exact hKq _ (Below.refl _ _)))); ((try simp only [Act.put, List.setIfInBounds_toArray, List.set_cons_zero, List.set_cons_succ]))))
              (refine wpHeld_nil (hFq _ ?_); clear hFq; intro w' hbq; ((try (have B0 := Jb (b := w.heap.size) (by repeat' (first|with_reducible (first|assumption|apply J0|apply J1|apply J2|apply J3|apply J4|apply J5|apply J6|apply J7|apply J8|apply J9)|(with_reducible show _ ≠ _;first|omega|(simp;done)))) hbq; have C0 := Jc B0; have F0 := Jf B0)); (try (have B1 := Jb (b := w.heap.size + 1) (by repeat' (first|with_reducible (first|assumption|apply J0|apply J1|apply J2|apply J3|apply J4|apply J5|apply J6|apply J7|apply J8|apply J9)|(with_reducible show _ ≠ _;first|omega|(simp;done)))) hbq; have C1 := Jc B1; have F1 := Jf B1)); (try (have B2 := Jb (b := w.heap.size + 1 + 1) (by repeat' (first|with_reducible (first|assumption|apply J0|apply J1|apply J2|apply J3|apply J4|apply J5|apply J6|apply J7|apply J8|apply J9)|(with_reducible show _ ≠ _;first|omega|(simp;done)))) hbq; have C2 := Jc B2; have F2 := Jf B2)); (try (have BX := Jb (b := bX) (by repeat' (first|with_reducible (first|assumption|apply J0|apply J1|apply J2|apply J3|apply J4|apply J5|apply J6|apply J7|apply J8|apply J9)|(with_reducible show _ ≠ _;first|omega|(simp;done)))) hbq; have CX := Jc BX; have FX := Jf BX))))
              go_wp2
              go_roundw
              case rel => exact ⟨i + 1 + 1, by omega, by go_num, preGood_gap HP.out hc hg hgap, lowCall hb (undrew hbq)⟩
              case measure => simp [intOf]; omega
            · have e3 : decide (l[i + 1].f ≤ l[i].t) = true := by simpa using hgap
              (refine wp_region_held0 (by kernel_rfl) (by kernel_rfl) (fun _ _ _ d _ h => by cases d <;> exact h) ?_; intro Fq hFq)
              repeat (first | (refine wpHeld_skip (by rfl) ?_; ((try simp only [Act.put, List.setIfInBounds_toArray, List.set_cons_zero, List.set_cons_succ]))) | (refine wpHeld_run ?_ rfl ?_ ?_; rotate_left; (focus (intro w' hbq Kq hKq; go_simp; (try simp only [e1, e2, e3, e4]); (try (rw [IntWalk.i64_in]; rotate_left; focus (constructor <;> omega))); first | exact hKq _ (Below.refl _ _) | first | (go_at_call 102; ((with_reducible refine (isSpan_yes l[i + 1] _ hg).mono ?_); rintro e w2 ⟨rfl, hbr⟩; refine back ?_; exact hKq _ hbr)) | ((first | have CX := Jc (BX.below hbq) | have CX := Jc (BX.below (undrew hbq))); go_simp; exact hKq _ (Below.refl _ _)) | (obtain ⟨a0, a1, a2, a3⟩ := NL _ hbq; go_simp; exact hKq _ (Below.refl _ _)))); ((try simp only [Act.put, List.setIfInBounds_toArray, List.set_cons_zero, List.set_cons_succ]))))
              (refine wpHeld_nil (hFq _ ?_); clear hFq; intro w' hbq; ((try (have B0 := Jb (b := w.heap.size) (by repeat' (first|with_reducible (first|assumption|apply J0|apply J1|apply J2|apply J3|apply J4|apply J5|apply J6|apply J7|apply J8|apply J9)|(with_reducible show _ ≠ _;first|omega|(simp;done)))) hbq; have C0 := Jc B0; have F0 := Jf B0)); (try (have B1 := Jb (b := w.heap.size + 1) (by repeat' (first|with_reducible (first|assumption|apply J0|apply J1|apply J2|apply J3|apply J4|apply J5|apply J6|apply J7|apply J8|apply J9)|(with_reducible show _ ≠ _;first|omega|(simp;done)))) hbq; have C1 := Jc B1; have F1 := Jf B1)); (try (have B2 := Jb (b := w.heap.size + 1 + 1) (by repeat' (first|with_reducible (first|assumption|apply J0|apply J1|apply J2|apply J3|apply J4|apply J5|apply J6|apply J7|apply J8|apply J9)|(with_reducible show _ ≠ _;first|omega|(simp;done)))) hbq; have C2 := Jc B2; have F2 := Jf B2)); (try (have BX := Jb (b := bX) (by repeat' (first|with_reducible (first|assumption|apply J0|apply J1|apply J2|apply J3|apply J4|apply J5|apply J6|apply J7|apply J8|apply J9)|(with_reducible show _ ≠ _;first|omega|(simp;done)))) hbq; have CX := Jc BX; have FX := Jf BX))))
              go_wp2
              go_ret
              exact ⟨retB (sok_gap hc hgap), lowCall hb (undrew hbq)⟩
        · (refine wp_region_held0 (by kernel_rfl) (by kernel_rfl) (fun _ _ _ d _ h => by cases d <;> exact h) ?_; intro Fq hFq)
          repeat (first | (refine wpHeld_skip (by rfl) ?_; ((try simp only [Act.put, List.setIfInBounds_toArray, List.set_cons_zero, List.set_cons_succ]))) | (refine wpHeld_run ?_ rfl ?_ ?_; rotate_left; (focus (intro w' hbq Kq hKq; go_simp; (try (rw [IntWalk.i64_in]; rotate_left; focus (constructor <;> omega))); first | exact hKq _ (Below.refl _ _) | first | (go_at_call 102; ((with_reducible refine (isSpan_no l[j] _ hg).mono ?_); rintro e w2 ⟨rfl, hbr⟩; refine back ?_; exact hKq _ hbr)) | ((first | have CX := Jc (BX.below hbq) | have CX := Jc (BX.below (undrew hbq))); go_simp; exact hKq _ (Below.refl _ _)))); ((try simp only [Act.put, List.setIfInBounds_toArray, List.set_cons_zero, List.set_cons_succ]))))
          (refine wpHeld_nil (hFq _ ?_); clear hFq; intro w' hbq; ((try (have B0 := Jb (b := w.heap.size) (by repeat' (first|with_reducible (first|assumption|apply J0|apply J1|apply J2|apply J3|apply J4|apply J5|apply J6|apply J7|apply J8|apply J9)|(with_reducible show _ ≠ _;first|omega|(simp;done)))) hbq; have C0 := Jc B0; have F0 := Jf B0)); (try (have B1 := Jb (b := w.heap.size + 1) (by repeat' (first|with_reducible (first|assumption|apply J0|apply J1|apply J2|apply J3|apply J4|apply J5|apply J6|apply J7|apply J8|apply J9)|(with_reducible show _ ≠ _;first|omega|(simp;done)))) hbq; have C1 := Jc B1; have F1 := Jf B1)); (try (have B2 := Jb (b := w.heap.size + 1 + 1) (by repeat' (first|with_reducible (first|assumption|apply J0|apply J1|apply J2|apply J3|apply J4|apply J5|apply J6|apply J7|apply J8|apply J9)|(with_reducible show _ ≠ _;first|omega|(simp;done)))) hbq; have C2 := Jc B2; have F2 := Jf B2)); (try (have BX := Jb (b := bX) (by repeat' (first|with_reducible (first|assumption|apply J0|apply J1|apply J2|apply J3|apply J4|apply J5|apply J6|apply J7|apply J8|apply J9)|(with_reducible show _ ≠ _;first|omega|(simp;done)))) hbq; have CX := Jc BX; have FX := Jf BX))))
          go_wp2
          go_ret
          exact ⟨retB (sok_bad hc hg), lowCall hb (undrew hbq)⟩
      · obtain rfl : j = l.length := by omega
        go_wp2
        go_ret
        exact ⟨retB (sOk_true ⟨by omega, preGood_all.1 HP.out⟩), hb⟩
end Go.Proofs.YtegibpepdndocabGreat
end
