import Derived.Deep.Cut
import Derived.Test.YtckenfomnenknaaGreatPrtc
import Derived.Test.YtckenfomnenknaaGreatRootc
import Derived.Test.YtckenfomnenknaaGreatSpnMc
section
namespace Go.Proofs.YtckenfomnenknaaGreat

/- what is put together is spans again, has the parts that it should, and is as long together -/
def hits (l : List Sp) (u : Int) : Bool := l.any (spHit · u)
theorem hits_at (l : List Sp) (u : Int) : decide (0 ≤ spAt l u) = hits l u := by
  unfold spAt hits
  cases h : l.findIdx? (spHit · u) with
  | none =>
    rw [List.findIdx?_eq_none_iff] at h
    have : l.any (spHit · u) = false := by
      rw [List.any_eq_false]
      intro x hx
      simp [h x hx]
    rw [this]; rfl
  | some k =>
    rw [List.findIdx?_eq_some_iff_getElem] at h
    obtain ⟨hk, hh, _⟩ := h
    have : l.any (spHit · u) = true := List.any_eq_true.2 ⟨l[k], List.getElem_mem hk, hh⟩
    rw [this]; simp
theorem cut_hits {l : List Sp} (hl : SpsGood l) {p : Nat} {t u : Int} (h : SpCut l p t) (htu : t ≤ u) (hu : u < spNx l p) : hits l u = spOdd p := by
  have hc : SpCut l p u := by
    obtain ⟨hp, h1, h2⟩ := h
    refine ⟨hp, fun k hk => by have := h1 k hk; omega, fun k hk hk2 => ?_⟩
    unfold spNx at hu
    rw [if_neg (by omega)] at hu
    rcases Nat.lt_or_ge p k with h3 | h3
    · have := en_lt hl h3 hk2; omega
    · obtain rfl : k = p := by omega
      exact hu
  rw [← hits_at, odd_at hc hl]
/- a chain of spans behind lo -/
def Ch : Int → List Sp → Prop
  | _, [] => True
  | lo, s :: l => lo < s.f ∧ SpGood s ∧ Ch s.t l
theorem Ch.mono {lo lo' : Int} (h : lo' ≤ lo) : ∀ {l : List Sp}, Ch lo l → Ch lo' l
  | [], _ => trivial
  | s :: l, ⟨h1, h2, h3⟩ => ⟨by omega, h2, h3⟩
theorem Ch.good : ∀ {l : List Sp} {lo : Int}, Ch lo l → SpsGood l ∧ ∀ (h : 0 < l.length), lo < l[0].f
  | [], _, _ => ⟨fun k h => absurd h (by simp), fun h => absurd h (by simp)⟩
  | s :: l, lo, ⟨h1, h2, h3⟩ => by
    obtain ⟨i1, i2⟩ := h3.good
    refine ⟨fun k hk => ?_, fun _ => h1⟩
    cases k with
    | zero => exact ⟨h2, fun j hj => by omega⟩
    | succ k =>
      have hk' : k < l.length := by simpa using hk
      refine ⟨(i1 k hk').1, fun j hj => ?_⟩
      cases j with
      | zero =>
        obtain rfl : k = 0 := by omega
        exact i2 hk'
      | succ j => exact (i1 k hk').2 j (by omega)
theorem Ch.above {u : Int} : ∀ {l : List Sp} {lo : Int}, Ch lo l → u ≤ lo → hits l u = false
  | [], _, _, _ => rfl
  | s :: l, lo, ⟨h1, h2, h3⟩, hu => by
    have ih := h3.above (u := u) (by unfold SpGood at h2; omega)
    unfold hits at ih ⊢
    rw [List.any_cons, ih, Bool.or_false]
    simp only [spHit, Bool.and_eq_false_iff, decide_eq_false_iff_not]; omega
theorem hits_cons (s : Sp) (l : List Sp) (u : Int) : hits (s :: l) u = ((decide (s.f ≤ u) && decide (u < s.t)) || hits l u) := rfl

/- how much of l lies behind t, where p ends are passed -/
def behind (l : List Sp) (p : Nat) (t : Int) : Int := if p % 2 = 1 then (spEn l p - t) + spSumR (l.drop (p / 2 + 1)) else spSumR (l.drop (p / 2))
where spSumR : List Sp → Int
  | [] => 0
  | s :: l => (s.t - s.f) + spSumR l
theorem odd_two (j : Nat) : spOdd (2 * j) = false ∧ spOdd (2 * j + 1) = true := by
  unfold spOdd
  have h1 : 2 * j % 2 = 0 := by omega
  have h2 : (2 * j + 1) % 2 = 1 := by omega
  simp [h1, h2]
theorem step_lt {a b : List Sp} (ha : SpsGood a) (hb : SpsGood b) {p q : Nat} {t : Int} (ca : SpCut a p t) (cb : SpCut b q t) (hne : ¬ (p = 2 * a.length ∧ q = 2 * b.length)) :
    t < atN a b p q ∧ atN a b p q ≤ spNx a p ∧ atN a b p q ≤ spNx b q := by
  have na := spNx_le ha ca.1
  have nb := spNx_le hb cb.1
  have hp := ca.1
  have hq := cb.1
  have la : t < spNx a p ∨ p = 2 * a.length := by
    by_cases he : p = 2 * a.length
    · exact .inr he
    · left; unfold spNx; rw [if_neg he]; exact ca.2.2 p (Nat.le_refl _) (by omega)
  have lb : t < spNx b q ∨ q = 2 * b.length := by
    by_cases he : q = 2 * b.length
    · exact .inr he
    · left; unfold spNx; rw [if_neg he]; exact cb.2.2 q (Nat.le_refl _) (by omega)
  have ea : p = 2 * a.length → spNx a p = 1073741825 := fun he => by unfold spNx; rw [if_pos he]
  have eb : q = 2 * b.length → spNx b q = 1073741825 := fun he => by unfold spNx; rw [if_pos he]
  unfold atN
  split <;> omega
theorem hits_far {l : List Sp} (hl : SpsGood l) {t u : Int} (h : SpCut l (2 * l.length) t) (htu : t ≤ u) : hits l u = false := by
  have hc : SpCut l (2 * l.length) u := ⟨Nat.le_refl _, fun k hk => by have := h.2.1 k hk; omega, fun k h1 h2 => by omega⟩
  rw [← hits_at, odd_at hc hl]; exact (odd_two _).1
theorem has_ff (op : Nat) : spHas op false false = false := by unfold spHas; split <;> (try split) <;> rfl
theorem suN_bd {op : Nat} {a b : List Sp} (ha : SpsGood a) (hb : SpsGood b) {p q : Nat} (hp : p ≤ 2 * a.length) (hq : q ≤ 2 * b.length) : -1000 ≤ suN op a b p q ∧ suN op a b p q ≤ 1000 := by
  have na := spNx_le ha hp
  have nb := spNx_le hb hq
  unfold suN
  split
  · omega
  · split <;> omega
/- the state of the run at t -/
theorem run_facts {op : Nat} {a b : List Sp} (ha : SpsGood a) (hb : SpsGood b) : ∀ (n p q : Nat) (f s : Int) (t : Int), SpCut a p t → SpCut b q t → 2 * a.length + 2 * b.length ≤ n + p + q →
    (spHas op (spOdd p) (spOdd q) = true → -1073741824 ≤ f ∧ f ≤ t ∧ -1000 ≤ s ∧ s ≤ 1000) →
    (spHas op (spOdd p) (spOdd q) = false → Ch t (spRun op a b n p q false f s) ∧ (∀ u, t ≤ u → hits (spRun op a b n p q false f s) u = spHas op (hits a u) (hits b u))) ∧
    (spHas op (spOdd p) (spOdd q) = true → (∃ x l, spRun op a b n p q true f s = x :: l ∧ x.f = f ∧ SpGood x ∧ t < x.t ∧ Ch x.t l) ∧ (∀ u, t ≤ u → hits (spRun op a b n p q true f s) u = spHas op (hits a u) (hits b u))) := by
  intro n
  induction n with
  | zero =>
    intro p q f s t ca cb hn hf
    have h1 := ca.1
    have h2 := cb.1
    obtain rfl : p = 2 * a.length := by omega
    obtain rfl : q = 2 * b.length := by omega
    have he := has_end op a b
    refine ⟨fun _ => ⟨trivial, fun u hu => ?_⟩, fun h => by rw [he] at h; cases h⟩
    rw [hits_far ha ca hu, hits_far hb cb hu, has_ff]; rfl
  | succ n ih =>
    intro p q f s t ca cb hn hf
    by_cases hd : p = 2 * a.length ∧ q = 2 * b.length
    · obtain ⟨rfl, rfl⟩ := hd
      have he := has_end op a b
      refine ⟨fun _ => ?_, fun h => by rw [he] at h; cases h⟩
      rw [run_done ⟨rfl, rfl⟩]
      exact ⟨trivial, fun u hu => by rw [hits_far ha ca hu, hits_far hb cb hu, has_ff]; rfl⟩
    · obtain ⟨ca', cb', hF, hF2, hadv⟩ := step_ne ha hb ⟨t, ca, cb⟩ hd
      obtain ⟨htl, hta, htb⟩ := step_lt ha hb ca cb hd
      have hsb := suN_bd (op := op) ha hb ca.1 cb.1
      have hmid : ∀ u, t ≤ u → u < atN a b p q → spHas op (hits a u) (hits b u) = spHas op (spOdd p) (spOdd q) := fun u h1 h2 => by
        rw [cut_hits ha ca h1 (by omega), cut_hits hb cb h1 (by omega)]
      refine ⟨fun ho => ?_, fun ho => ?_⟩
      · cases hn2 : spHas op (spOdd (pA a b p q)) (spOdd (qB a b p q)) with
        | false =>
          rw [run_same hd hn2]
          obtain ⟨i1, i2⟩ := (ih _ _ f s _ ca' cb' (by omega) (fun h => by rw [hn2] at h; cases h)).1 hn2
          refine ⟨i1.mono (by omega), fun u hu => ?_⟩
          by_cases hlt : u < atN a b p q
          · rw [hmid u hu hlt, ho]; exact i1.above (by omega)
          · exact i2 u (by omega)
        | true =>
          rw [run_open hd hn2]
          obtain ⟨⟨x, l, e, ef, eg, et, ec⟩, i2⟩ := (ih _ _ (atN a b p q) (suN op a b p q) _ ca' cb' (by omega) (fun _ => ⟨hF2, Int.le_refl _, hsb.1, hsb.2⟩)).2 hn2
          refine ⟨by rw [e]; exact ⟨by omega, eg, ec⟩, fun u hu => ?_⟩
          by_cases hlt : u < atN a b p q
          · rw [hmid u hu hlt, ho, e, hits_cons, ec.above (by omega)]
            have : decide (x.f ≤ u) = false := decide_eq_false (by omega)
            rw [this]; rfl
          · exact i2 u (by omega)
      · obtain ⟨f1, f2, f3, f4⟩ := hf ho
        cases hn2 : spHas op (spOdd (pA a b p q)) (spOdd (qB a b p q)) with
        | false =>
          rw [run_shut hd hn2]
          obtain ⟨i1, i2⟩ := (ih _ _ f s _ ca' cb' (by omega) (fun h => by rw [hn2] at h; cases h)).1 hn2
          refine ⟨⟨_, _, rfl, rfl, by unfold SpGood; simp only; omega, htl, i1⟩, fun u hu => ?_⟩
          rw [hits_cons]
          by_cases hlt : u < atN a b p q
          · have e1 : decide (f ≤ u) = true := decide_eq_true (by omega)
            have e2 : decide (u < atN a b p q) = true := decide_eq_true hlt
            rw [hmid u hu hlt, ho]
            simp only [e1, e2]; rfl
          · have e2 : decide (u < atN a b p q) = false := decide_eq_false hlt
            rw [← i2 u (by omega)]
            simp only [e2, Bool.and_false, Bool.false_or]
        | true =>
          rw [run_same hd hn2]
          obtain ⟨⟨x, l, e, ef, eg, et, ec⟩, i2⟩ := (ih _ _ f s _ ca' cb' (by omega) (fun _ => ⟨f1, by omega, f3, f4⟩)).2 hn2
          refine ⟨⟨x, l, e, ef, eg, by omega, ec⟩, fun u hu => ?_⟩
          by_cases hlt : u < atN a b p q
          · have e1 : decide (x.f ≤ u) = true := decide_eq_true (by omega)
            have e2 : decide (u < x.t) = true := decide_eq_true (by omega)
            rw [hmid u hu hlt, ho, e, hits_cons, e1, e2]; rfl
          · exact i2 u (by omega)
theorem cut_start {a : List Sp} (ha : SpsGood a) : SpCut a 0 (-1073741825) := ⟨by omega, fun k h => by omega, fun k _ h => by have := en_bd ha h; omega⟩
theorem hits_low {l : List Sp} (hl : SpsGood l) {u : Int} (hu : u < -1073741824) : hits l u = false := by
  unfold hits
  rw [List.any_eq_false]
  intro x hx
  obtain ⟨j, hj, rfl⟩ := List.getElem_of_mem hx
  have := (hl j hj).1
  unfold SpGood at this
  simp only [spHit, Bool.and_eq_true, decide_eq_true_eq, not_and]; omega
theorem has_zero (op : Nat) : spHas op (spOdd 0) (spOdd 0) = false := by
  have := has_end op [] []
  simpa using this
theorem total_good {op : Nat} {a b : List Sp} (ha : SpsGood a) (hb : SpsGood b) : Ch (-1073741825) (spTotal op a b) ∧ ∀ u, hits (spTotal op a b) u = spHas op (hits a u) (hits b u) := by
  obtain ⟨h1, h2⟩ := (run_facts (op := op) ha hb (2 * a.length + 2 * b.length) 0 0 0 0 _ (cut_start ha) (cut_start hb) (by omega) (fun h => by rw [has_zero] at h; cases h)).1 (has_zero op)
  refine ⟨h1, fun u => ?_⟩
  by_cases hu : -1073741825 ≤ u
  · exact h2 u hu
  · rw [hits_low ha (by omega), hits_low hb (by omega), has_ff]
    exact hits_low h1.good.1 (by omega)
end Go.Proofs.YtckenfomnenknaaGreat
end
section
namespace Go.Proofs.YtckenfomnenknaaGreat
open Go.ChangeShapes Go.WideShapes Go.ChangeAt Go.RowKit
set_option maxHeartbeats 1000000
set_option linter.unusedSimpArgs false

def Sp.cells (s : Sp) : List Value := [.int .i64 s.f, .int .i64 s.t, .int .i64 s.i, .int .i64 s.o]
abbrev Sp.val (s : Sp) : Value := .agg #[.int .i64 (s.f), .int .i64 (s.t), .int .i64 (s.i), .int .i64 (s.o)]
/- the four cells of a span from k on in block b -/
def Four (w : World) (b k : Nat) (s : Sp) : Prop :=
  w.cell? ⟨b, k, none⟩ = some (.int .i64 s.f) ∧ w.cell? ⟨b, k + 1, none⟩ = some (.int .i64 s.t) ∧ w.cell? ⟨b, k + 2, none⟩ = some (.int .i64 s.i) ∧ w.cell? ⟨b, k + 3, none⟩ = some (.int .i64 s.o)
theorem cell_lift {w w' : World} {a : Addr} {u : Value} (h : w.cell? a = some u) (he : w'.heap[a.block]? = w.heap[a.block]?) : w'.cell? a = some u := by rw [World.cell?_of_block he]; exact h
theorem Four.lift {w w' : World} {b k : Nat} {s : Sp} (h : Four w b k s) (he : w'.heap[b]? = w.heap[b]?) : Four w' b k s := by
  obtain ⟨h0, h1, h2, h3⟩ := h
  exact ⟨cell_lift h0 he, cell_lift h1 he, cell_lift h2 he, cell_lift h3 he⟩
theorem Four.lt {w : World} {b k : Nat} {s : Sp} (h : Four w b k s) : b < w.heap.size := block_lt_of_cell h.1
theorem Four.below {w w' : World} {b k : Nat} {s : Sp} (h : Four w b k s) (hb : Below w.heap.size w w') : Four w' b k s := h.lift (hb.block b h.lt)
/- the slice value v reads as spans -/
def SIn (w : World) (v : Value) (l : List Sp) : Prop := ∃ A c, v = .slice A l.length c ∧ (0 < l.length → ∃ b off, A = some ⟨b, off, none⟩ ∧ ∀ i (h : i < l.length), Four w b (off + i * 4) l[i])
theorem SIn.lift {w w' : World} {v : Value} {l : List Sp} (h : SIn w v l) (he : ∀ b, v.ownBlock = some b → b < w.heap.size → w'.heap[b]? = w.heap[b]?) : SIn w' v l := by
  obtain ⟨A, c, rfl, h⟩ := h
  refine ⟨A, c, rfl, fun h0 => ?_⟩
  obtain ⟨b, off, rfl, hf⟩ := h h0
  exact ⟨b, off, rfl, fun i hi => (hf i hi).lift (he b rfl (hf i hi).lt)⟩
theorem SIn.below {w w' : World} {v : Value} {l : List Sp} (h : SIn w v l) (hb : Below w.heap.size w w') : SIn w' v l := h.lift fun b _ hlt => hb.block b hlt
abbrev SRow (w : World) (B : Nat) (v : Value) (l : List Sp) : Prop := RowK w B 42 4 v (l.map Sp.cells)
theorem SRow.seen {w : World} {B : Nat} {v : Value} {l : List Sp} (h : SRow w B v l) : SIn w v l := by
  obtain ⟨A, c, rfl, hA, _⟩ := h.shape
  rw [List.length_map] at hA h ⊢
  refine ⟨A, c, rfl, fun h0 => ?_⟩
  obtain ⟨g, rfl, _⟩ := hA h0
  refine ⟨g, 0, rfl, fun i hi => ?_⟩
  have hc : ∀ j, j < 4 → w.cell? ⟨g, i * 4 + j, none⟩ = (l[i].cells)[j]? := fun j hj => by
    have := h.cell (by simp) i j (by simpa using hi) hj
    simpa using this
  rw [Nat.zero_add]
  exact ⟨hc 0 (by omega), hc 1 (by omega), hc 2 (by omega), hc 3 (by omega)⟩
theorem SRow.shape0 {w : World} {B : Nat} {v : Value} {l : List Sp} (h : SRow w B v l) : ∃ A c, v = .slice A l.length c ∧ (0 < l.length → ∃ g, A = some ⟨g, 0, none⟩ ∧ B ≤ g ∧ g < w.heap.size) := by
  obtain ⟨A, c, hv, hA, _⟩ := h.shape
  rw [List.length_map] at hA hv
  exact ⟨A, c, hv, hA⟩
theorem SRow.four {w : World} {B g n c : Nat} {l : List Sp} (h : SRow w B (.slice (some ⟨g, 0, none⟩) n c) l) (hn : n = l.length) (i : Nat) (hi : i < l.length) : Four w g (i * 4) l[i] := by
  obtain ⟨A, c', hv, h'⟩ := h.seen
  subst hn
  simp only [Value.slice.injEq] at hv
  obtain ⟨b, off, hA, hf⟩ := h' (by omega)
  rw [← hv.1] at hA
  simp only [Option.some.injEq, Addr.mk.injEq] at hA
  obtain ⟨rfl, rfl, _⟩ := hA
  have := hf i hi
  rwa [Nat.zero_add] at this

theorem eqSpan_yes (s : Sp) (w : World) : Calls Tryz.prog 94 #[s.val, s.val] w fun e w' => e = .returned (.bool true) ∧ Below w.heap.size w w' := by
  go_enter Tryz.func94, Tryz.ntmps94
  go_wp2
  go_ret; refine ⟨rfl, ?_⟩; (repeat' (first | with_reducible (first | exact lowRefl _ | apply lowSet | apply lowDrew | apply lowDrewN | apply lowAlloc) | (with_reducible refine lowCall ?_ (by assumption)) | (show (_ : Nat) ≤ _; first | (simp; done) | (simp; omega) | omega)))
/- a span is written into a row -/
theorem SRow.store4 {w : World} {B g n c : Nat} {l : List Sp} (h : SRow w B (.slice (some ⟨g, 0, none⟩) n c) l) (hn : n = l.length) (i : Nat) (hi : i < l.length) (s : Sp) :
    SRow ((((w.setCell ⟨g, i * 4, none⟩ (.int .i64 s.f)).setCell ⟨g, i * 4 + 1, none⟩ (.int .i64 s.t)).setCell ⟨g, i * 4 + 2, none⟩ (.int .i64 s.i)).setCell ⟨g, i * 4 + 3, none⟩ (.int .i64 s.o)) B (.slice (some ⟨g, 0, none⟩) n c) (l.set i s) ∧
    w.grownBy ((((w.setCell ⟨g, i * 4, none⟩ (.int .i64 s.f)).setCell ⟨g, i * 4 + 1, none⟩ (.int .i64 s.t)).setCell ⟨g, i * 4 + 2, none⟩ (.int .i64 s.i)).setCell ⟨g, i * 4 + 3, none⟩ (.int .i64 s.o)) (some g) := by
  obtain ⟨h1, g1⟩ := h.store (by simpa using hn) i 0 (by simpa using hi) (by omega) (.int .i64 s.f)
  obtain ⟨h2, g2⟩ := h1.store (by simpa using hn) i 1 (by simpa using hi) (by omega) (.int .i64 s.t)
  obtain ⟨h3, g3⟩ := h2.store (by simpa using hn) i 2 (by simpa using hi) (by omega) (.int .i64 s.i)
  obtain ⟨h4, g4⟩ := h3.store (by simpa using hn) i 3 (by simpa using hi) (by omega) (.int .i64 s.o)
  refine ⟨?_, by_trans (by_trans (by_trans g1 g2) g3) g4⟩
  have e : (l.set i s).map Sp.cells = (l.map Sp.cells).set i s.cells := by rw [List.map_set]
  rw [SRow, e]
  simp only [Nat.add_zero, List.set_set, List.getD_eq_getElem?_getD, List.getElem?_set, List.length_set, List.length_map, hi, if_true, List.getElem?_map, List.getElem?_eq_getElem hi, Option.map_some, Option.getD_some, Sp.cells, List.set_cons_zero, List.set_cons_succ] at h4
  exact h4
theorem infoSp : (Tryz.prog.info? 42).map (fun i => (i.zero, i.size, i.bytes)) = some (some (.agg #[.int .i64 0, .int .i64 0, .int .i64 0, .int .i64 0]), 4, 32) := by kernel_rfl
end Go.Proofs.YtckenfomnenknaaGreat
end
section
namespace Go.Proofs.YtckenfomnenknaaGreat
open Has renaming new → J0, new1 → J1, new2 → J2, new3 → J3, new4 → J4, drew → J5, drewN → J6, alloc → J7, same → J8, other → J9, cell → Jc, frozen → Jf, below → Jb
open Go.ChangeShapes Go.WideShapes Go.ChangeAt Go.RowKit
set_option maxHeartbeats 1000000
set_option linter.unusedSimpArgs false
attribute [local go_sem] VGo_value VGo_skip VGo_enter

theorem eqSpanS_yes (l : List Sp) (vA vB : Value) (w : World) (hA : SIn w vA l) (hB : SIn w vB l) (hl : l.length ≤ 9223372036854775807) :
    Calls Tryz.prog 46 #[vA, vB] w fun e w' => e = .returned (.bool true) ∧ Below w.heap.size w w' := by
  obtain ⟨A, c, rfl, fA⟩ := hA
  obtain ⟨B, d, rfl, fB⟩ := hB
  have FA := Lib.hid fA
  have FB := Lib.hid fB
  clear fA fB
  go_enter Tryz.func46, Tryz.ntmps46
  go_wp2
  go_loopw [5] (fun i wr => ∃ j : Nat, j ≤ l.length ∧ i = .int .i64 j ∧ Below w.heap.size w wr) (fun i _ => l.length - (intOf i).toNat)
  case atStart => exact ⟨0, by omega, rfl, lowRefl w⟩
  case round =>
    obtain ⟨j, hj, rfl, hb⟩ := hrel
    by_cases hc : j < l.length
    · obtain ⟨bA, oA, rfl, hA⟩ := FA.out (by omega)
      obtain ⟨bB, oB, rfl, hB⟩ := FB.out (by omega)
      have NA : ∀ w', Below wr.drew.heap.size wr.drew w' → Four w' bA (oA + j * 4) l[j] := fun w' h => ((hA j hc).below hb).below (undrew h)
      have NB : ∀ w', Below wr.drew.heap.size wr.drew w' → Four w' bB (oB + j * 4) l[j] := fun w' h => ((hB j hc).below hb).below (undrew h)
      clear hA hB
      go_wp2
      (refine wp_region_held0 (by kernel_rfl) (by kernel_rfl) (fun _ _ _ d _ h => by cases d <;> exact h) ?_; intro Fq hFq)
      repeat (first | (refine wpHeld_skip (by rfl) ?_; ((try simp only [Act.put, List.setIfInBounds_toArray, List.set_cons_zero, List.set_cons_succ]))) | (refine wpHeld_run ?_ rfl ?_ ?_; rotate_left; (focus (intro w' hbq Kq hKq; go_simp; (try (rw [IntWalk.i64_in]; rotate_left; focus (constructor <;> omega))); first | exact hKq _ (Below.refl _ _) | first | (go_at_call 94; ((with_reducible refine (eqSpan_yes l[j] _).mono ?_); rintro e w2 ⟨rfl, hbr⟩; refine back ?_; exact hKq _ hbr)) | (obtain ⟨a0, a1, a2, a3⟩ := NA _ hbq; go_simp; exact hKq _ (Below.refl _ _)) | (obtain ⟨a0, a1, a2, a3⟩ := NB _ hbq; go_simp; exact hKq _ (Below.refl _ _)))); ((try simp only [Act.put, List.setIfInBounds_toArray, List.set_cons_zero, List.set_cons_succ]))))
      (refine wpHeld_nil (hFq _ ?_); clear hFq; intro w' hbq; ((try (have B0 := Jb (b := w.heap.size) (by repeat' (first | with_reducible (first | assumption | apply J0 | apply J1 | apply J2 | apply J3 | apply J4 | apply J5 | apply J6 | apply J7 | apply J8 | apply J9) | (with_reducible show _ ≠ _; first | omega | (simp; done)))) hbq; have C0 := Jc B0; have F0 := Jf B0)); (try (have B1 := Jb (b := w.heap.size + 1) (by repeat' (first | with_reducible (first | assumption | apply J0 | apply J1 | apply J2 | apply J3 | apply J4 | apply J5 | apply J6 | apply J7 | apply J8 | apply J9) | (with_reducible show _ ≠ _; first | omega | (simp; done)))) hbq; have C1 := Jc B1; have F1 := Jf B1)); (try (have B2 := Jb (b := w.heap.size + 1 + 1) (by repeat' (first | with_reducible (first | assumption | apply J0 | apply J1 | apply J2 | apply J3 | apply J4 | apply J5 | apply J6 | apply J7 | apply J8 | apply J9) | (with_reducible show _ ≠ _; first | omega | (simp; done)))) hbq; have C2 := Jc B2; have F2 := Jf B2))))
      go_wp2
      go_roundw
      case rel => exact ⟨j + 1, by omega, by go_num, lowCall hb (undrew hbq)⟩
      case measure => simp [intOf]; omega
    · obtain rfl : j = l.length := by omega
      go_wp2
      go_ret
      exact ⟨rfl, hb⟩
/- the numbers K, K+1, .. in a row of spans -/
def smarks (K : Int) (n : Nat) : List Sp := (List.range n).map fun (j : Nat) => ⟨K + 4 * j, K + 4 * j + 1, K + 4 * j + 2, K + 4 * j + 3⟩
theorem smarks_len (K : Int) (n : Nat) : (smarks K n).length = n := by simp [smarks]
theorem smarks_get (K : Int) (n k : Nat) (h : k < n) : (smarks K n)[k]'(by rw [smarks_len]; exact h) = ⟨K + 4 * k, K + 4 * k + 1, K + 4 * k + 2, K + 4 * k + 3⟩ := by simp [smarks]
theorem smarks_succ (K : Int) (n : Nat) : smarks K (n + 1) = smarks K n ++ [⟨K + 4 * n, K + 4 * n + 1, K + 4 * n + 2, K + 4 * n + 3⟩] := by simp [smarks, List.range_succ]
theorem smarks_set (K : Int) (l : List Sp) (j : Nat) (h : j < l.length) : (smarks K j ++ l.drop j).set j ⟨K + 4 * j, K + 4 * j + 1, K + 4 * j + 2, K + 4 * j + 3⟩ = smarks K (j + 1) ++ l.drop (j + 1) := by
  rw [List.set_append_right _ _ (by rw [smarks_len]; exact Nat.le_refl _), smarks_len, Nat.sub_self, List.drop_eq_getElem_cons h, List.set_cons_zero, smarks_succ, List.append_assoc]
  rfl
theorem markSpanS_any (l : List Sp) (v : Value) (B : Nat) (K : Int) (w : World) (h0 : 0 ≤ K) (hl : K + 4 * l.length ≤ 9223372036854775807) (hA : SRow w B v l) :
    Calls Tryz.prog 48 #[v, .int .i64 K] w fun e w' => e = .returned (.int .i64 (K + 4 * l.length)) ∧ SRow w' B v (smarks K l.length) ∧ w.grownBy w' v.ownBlock := by
  obtain ⟨A, c, rfl, fA⟩ := SRow.shape0 hA
  go_enter Tryz.func48, Tryz.ntmps48
  go_wp2
  go_loopw [1, 5] (fun k i wr => ∃ j : Nat, j ≤ l.length ∧ i = .int .i64 j ∧ k = .int .i64 (K + 4 * j) ∧ SRow wr B (.slice A l.length c) (smarks K j ++ l.drop j) ∧ w.grownBy wr (Value.slice A l.length c).ownBlock) (fun _ i _ => l.length - (intOf i).toNat)
  case atStart => exact ⟨0, by omega, rfl, by simp, by simpa [smarks] using hA, World.grownBy.refl _ _⟩
  case round =>
    obtain ⟨j, hj, rfl, rfl, hr, hg⟩ := hrel
    by_cases hc : j < l.length
    · obtain ⟨g, rfl, _, _⟩ := fA (by omega)
      have hlen : l.length = (smarks K j ++ l.drop j).length := by simp [smarks_len]; omega
      obtain ⟨s0, d0, d1, d2, d3⟩ : ∃ s, Four wr g (j * 4) s := ⟨_, SRow.four hr hlen j (by omega)⟩
      have hfz := RowK.frozen hr (by simpa using hlen)
      obtain ⟨h4, g4⟩ := SRow.store4 hr hlen j (by omega) ⟨K + 4 * j, K + 4 * j + 1, K + 4 * j + 2, K + 4 * j + 3⟩
      rw [smarks_set K l j hc] at h4
      have H4 := Lib.hid h4
      have G4 := Lib.hid g4
      have E1 := Lib.hid (show K + 4 * (j : Int) + 1 + 1 = K + 4 * j + 2 by omega)
      have E2 := Lib.hid (show K + 4 * (j : Int) + 2 + 1 = K + 4 * j + 3 by omega)
      have E3 := Lib.hid (show K + 4 * (j : Int) + 3 + 1 = K + 4 * ((j + 1 : Nat) : Int) by omega)
      clear hlen hr h4 g4
      go_wp2
      rw [E1.out, E2.out, E3.out]
      go_roundw
      case rel => exact ⟨j + 1, by omega, by go_num, rfl, H4.out, by_trans hg G4.out⟩
      case measure => simp [intOf]; omega
    · obtain rfl : j = l.length := by omega
      rw [List.drop_length, List.append_nil] at hr
      go_wp2
      go_ret
      exact ⟨rfl, hr, hg⟩
theorem heldSpanS_any (n : Nat) (v : Value) (K : Int) (w : World) (h0 : 0 ≤ K) (hl : K + 4 * n ≤ 9223372036854775807) (hA : SIn w v (smarks K n)) :
    Calls Tryz.prog 49 #[v, .int .i64 K] w fun e w' => e = .returned (.int .i64 (K + 4 * n)) ∧ w = w' := by
  obtain ⟨A, c, rfl, fA⟩ := hA
  have FA := Lib.hid fA
  clear fA
  have hsl := smarks_len K n
  generalize hsm : smarks K n = sm at FA hsl ⊢
  have FA2 : Hid (0 < n → ∃ b off, A = some ⟨b, off, none⟩ ∧ ∀ i, i < n → Four w b (off + i * 4) ⟨K + 4 * i, K + 4 * i + 1, K + 4 * i + 2, K + 4 * i + 3⟩) := Lib.hid fun h => by
    obtain ⟨b, off, hA, hf⟩ := FA.out (by omega)
    refine ⟨b, off, hA, fun i hi => ?_⟩
    have := hf i (by omega)
    subst hsm
    rwa [smarks_get K n i hi] at this
  clear FA
  rw [hsl]
  clear hsl hsm
  go_enter Tryz.func49, Tryz.ntmps49
  go_wp2
  go_loop [1, 5] (fun k i => ∃ j : Nat, j ≤ n ∧ i = .int .i64 j ∧ k = .int .i64 (K + 4 * j)) (fun _ i => n - (intOf i).toNat)
  case atStart => exact ⟨0, by omega, rfl, by simp⟩
  case round =>
    obtain ⟨j, hj, rfl, rfl⟩ := hrel
    by_cases hc : j < n
    · obtain ⟨b, off, rfl, hf⟩ := FA2.out (by omega)
      obtain ⟨c0, c1, c2, c3⟩ := hf j hc
      clear hf
      have E1 : K + 4 * (j : Int) + 1 + 1 = K + 4 * j + 2 := by omega
      have E2 : K + 4 * (j : Int) + 2 + 1 = K + 4 * j + 3 := by omega
      have E3 := Lib.hid (show K + 4 * (j : Int) + 3 + 1 = K + 4 * ((j + 1 : Nat) : Int) by omega)
      go_wp2
      rw [E3.out]
      go_round
      case rel => exact ⟨j + 1, by omega, by go_num, rfl⟩
      case measure => simp [intOf]; omega
    · obtain rfl : j = n := by omega
      go_wp2
      go_ret
      exact ⟨rfl, rfl⟩
end Go.Proofs.YtckenfomnenknaaGreat
end
