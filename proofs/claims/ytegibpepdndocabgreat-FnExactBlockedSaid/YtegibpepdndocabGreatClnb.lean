import Derived.Lib.SliceRun
import Derived.Test.YtegibpepdndocabGreatMotWb
import Derived.Test.YtegibpepdndocabGreatMrkb
section
namespace Go.Proofs.YtegibpepdndocabGreat
open Has renaming new → J0, new1 → J1, new2 → J2, new3 → J3, new4 → J4, drew → J5, drewN → J6, alloc → J7, same → J8, other → J9, cell → Jc, frozen → Jf, below → Jb
open Go.ChangeShapes Go.WideShapes Go.ChangeAt Go.RowKit
set_option linter.unusedSimpArgs false
set_option maxHeartbeats 4000000

attribute [local go_sem] ix0 ix1 ix2 VGo_value VGo_skip VGo_enter
theorem iTogether_no (a b c : Int) (k l n : Bool) (p q r : Int) (d e1 f : Int) (g h i : Bool) (s t u : Int) (w : World) (hn : ¬ (Mok a b c p q r ∧ Mok d e1 f s t u)) :
    Calls Tryz.prog 162 #[.agg #[.int .i64 (a), .int .i64 (b), .int .i64 (c), .bool (k), .bool (l), .bool (n), .int .i64 (p), .int .i64 (q), .int .i64 (r)], .agg #[.int .i64 (d), .int .i64 (e1), .int .i64 (f), .bool (g), .bool (h), .bool (i), .int .i64 (s), .int .i64 (t), .int .i64 (u)]] w fun e w' => e = .returned (.agg #[.int .i64 (0), .int .i64 (0), .int .i64 (0), .bool (false), .bool (false), .bool (false), .int .i64 (0), .int .i64 (0), .int .i64 (0)]) ∧ Below w.heap.size w w' := by
  by_cases ha : Mok a b c p q r
  · have HA := Lib.hid ha
    have HB := Lib.hid (show ¬ Mok d e1 f s t u from fun k => hn ⟨ha, k⟩)
    clear ha hn
    go_enter Tryz.func162, Tryz.ntmps162
    go_wp2_with (first | (go_at_call 112; ((with_reducible refine (imotOk_yes a b c _ _ _ _ _ _ _ HA.out).mono ?_); rintro e w' ⟨rfl, hbq⟩; (try (have B0 := Jb (b := w.heap.size) (by repeat' (first|with_reducible (first|assumption|apply J0|apply J1|apply J2|apply J3|apply J4|apply J5|apply J6|apply J7|apply J8|apply J9)|(with_reducible show _ ≠ _;first|omega|(simp;done)))) hbq; have C0 := Jc B0; have F0 := Jf B0)); (try (have B1 := Jb (b := w.heap.size + 1) (by repeat' (first|with_reducible (first|assumption|apply J0|apply J1|apply J2|apply J3|apply J4|apply J5|apply J6|apply J7|apply J8|apply J9)|(with_reducible show _ ≠ _;first|omega|(simp;done)))) hbq; have C1 := Jc B1; have F1 := Jf B1)); (try (have B2 := Jb (b := w.heap.size + 1 + 1) (by repeat' (first|with_reducible (first|assumption|apply J0|apply J1|apply J2|apply J3|apply J4|apply J5|apply J6|apply J7|apply J8|apply J9)|(with_reducible show _ ≠ _;first|omega|(simp;done)))) hbq; have C2 := Jc B2; have F2 := Jf B2)))) | (go_at_call 112; ((with_reducible refine (imotOk_no d e1 f _ _ _ _ _ _ _ HB.out).mono ?_); rintro e w' ⟨rfl, hbq⟩; (try (have B0 := Jb (b := w.heap.size) (by repeat' (first|with_reducible (first|assumption|apply J0|apply J1|apply J2|apply J3|apply J4|apply J5|apply J6|apply J7|apply J8|apply J9)|(with_reducible show _ ≠ _;first|omega|(simp;done)))) hbq; have C0 := Jc B0; have F0 := Jf B0)); (try (have B1 := Jb (b := w.heap.size + 1) (by repeat' (first|with_reducible (first|assumption|apply J0|apply J1|apply J2|apply J3|apply J4|apply J5|apply J6|apply J7|apply J8|apply J9)|(with_reducible show _ ≠ _;first|omega|(simp;done)))) hbq; have C1 := Jc B1; have F1 := Jf B1)); (try (have B2 := Jb (b := w.heap.size + 1 + 1) (by repeat' (first|with_reducible (first|assumption|apply J0|apply J1|apply J2|apply J3|apply J4|apply J5|apply J6|apply J7|apply J8|apply J9)|(with_reducible show _ ≠ _;first|omega|(simp;done)))) hbq; have C2 := Jc B2; have F2 := Jf B2)))))
    refine bodyPost_has (b := w.heap.size + 1 + 1) (T := 47) ?hB (fun wE hE => ?hres) rfl ⟨rfl, ?hlow⟩; (case hB => (refine Has.as (by repeat' (first|with_reducible (first|assumption|apply J0|apply J1|apply J2|apply J3|apply J4|apply J5|apply J6|apply J7|apply J8|apply J9)|(with_reducible show _ ≠ _;first|omega|(simp;done)))) ?_; first | (with_reducible rfl) | (simp only [List.setIfInBounds_toArray, List.set_cons_zero, List.set_cons_succ]; first | done | rfl) | rfl | (simp; done))); (case hres => have cE := Jc hE; simp only [results, Tryz.results162, go_sem]; simp [go_sem, cE]; done); (case hlow => repeat' (first|with_reducible (first|exact lowRefl _|apply lowSet|apply lowDrew|apply lowDrewN|apply lowAlloc)|(with_reducible refine lowCall ?_ (by assumption))|(show (_ : Nat) ≤ _;first|(simp;done)|(simp;omega)|omega)))
  · have HA := Lib.hid ha
    clear ha hn
    go_enter Tryz.func162, Tryz.ntmps162
    go_wp2_with ((go_at_call 112; ((with_reducible refine (imotOk_no a b c _ _ _ _ _ _ _ HA.out).mono ?_); rintro e w' ⟨rfl, hbq⟩; (try (have B0 := Jb (b := w.heap.size) (by repeat' (first|with_reducible (first|assumption|apply J0|apply J1|apply J2|apply J3|apply J4|apply J5|apply J6|apply J7|apply J8|apply J9)|(with_reducible show _ ≠ _;first|omega|(simp;done)))) hbq; have C0 := Jc B0; have F0 := Jf B0)); (try (have B1 := Jb (b := w.heap.size + 1) (by repeat' (first|with_reducible (first|assumption|apply J0|apply J1|apply J2|apply J3|apply J4|apply J5|apply J6|apply J7|apply J8|apply J9)|(with_reducible show _ ≠ _;first|omega|(simp;done)))) hbq; have C1 := Jc B1; have F1 := Jf B1)); (try (have B2 := Jb (b := w.heap.size + 1 + 1) (by repeat' (first|with_reducible (first|assumption|apply J0|apply J1|apply J2|apply J3|apply J4|apply J5|apply J6|apply J7|apply J8|apply J9)|(with_reducible show _ ≠ _;first|omega|(simp;done)))) hbq; have C2 := Jc B2; have F2 := Jf B2)))))
    refine bodyPost_has (b := w.heap.size + 1 + 1) (T := 47) ?hB (fun wE hE => ?hres) rfl ⟨rfl, ?hlow⟩; (case hB => (refine Has.as (by repeat' (first|with_reducible (first|assumption|apply J0|apply J1|apply J2|apply J3|apply J4|apply J5|apply J6|apply J7|apply J8|apply J9)|(with_reducible show _ ≠ _;first|omega|(simp;done)))) ?_; first | (with_reducible rfl) | (simp only [List.setIfInBounds_toArray, List.set_cons_zero, List.set_cons_succ]; first | done | rfl) | rfl | (simp; done))); (case hres => have cE := Jc hE; simp only [results, Tryz.results162, go_sem]; simp [go_sem, cE]; done); (case hlow => repeat' (first|with_reducible (first|exact lowRefl _|apply lowSet|apply lowDrew|apply lowDrewN|apply lowAlloc)|(with_reducible refine lowCall ?_ (by assumption))|(show (_ : Nat) ≤ _;first|(simp;done)|(simp;omega)|omega)))
end Go.Proofs.YtegibpepdndocabGreat
end
section
namespace Go.Proofs.YtegibpepdndocabGreat
open Go.ChangeShapes Go.WideShapes Go.ChangeAt Go.RowKit
set_option linter.unusedSimpArgs false
set_option linter.unusedVariables false

/- two motions together -/
def Mo.rest : Mo := ⟨0, 1, 2, false, false, false, 0, 0, 0⟩
def Mo.zero : Mo := ⟨0, 0, 0, false, false, false, 0, 0, 0⟩
def tog (o m : Mo) : Mo :=
  ⟨pk m.a o.a o.b o.c, pk m.b o.a o.b o.c, pk m.c o.a o.b o.c, m.k != pkb m.a o.k o.l o.n, m.l != pkb m.b o.k o.l o.n, m.n != pkb m.c o.k o.l o.n,
   tu m.a m.k o.p o.q o.r + m.p, tu m.b m.l o.p o.q o.r + m.q, tu m.c m.n o.p o.q o.r + m.r⟩
theorem togE (o m : Mo) : TogE o.a o.b o.c o.k o.l o.n m.a m.b m.c m.k m.l m.n (tog o m).a (tog o m).b (tog o m).c (tog o m).k (tog o m).l (tog o m).n := ⟨⟨rfl, rfl, rfl⟩, rfl, rfl, rfl⟩
theorem tog_perm (o m : Mo) (ho : Perm o.a o.b o.c) (hm : Perm m.a m.b m.c) : Perm (tog o m).a (tog o m).b (tog o m).c := (togE o m).perm ho hm
theorem rest_ok : Mo.rest.ok := ⟨.inl ⟨rfl, rfl, rfl⟩, by simp [Mo.rest, Vok]⟩
theorem zero_mok : ¬ Mo.zero.ok := fun h => by have := h.1; simp [Perm, Mo.zero] at this
/- what the program makes of two: nothing where one of them or both together are none -/
noncomputable def togJ (o m : Mo) : Mo := @ite _ ((o.ok ∧ m.ok) ∧ (tog o m).ok) (Classical.propDecidable _) (tog o m) Mo.zero
theorem togJ_yes {o m : Mo} (h : (o.ok ∧ m.ok) ∧ (tog o m).ok) : togJ o m = tog o m := if_pos h
theorem togJ_no {o m : Mo} (h : ¬ ((o.ok ∧ m.ok) ∧ (tog o m).ok)) : togJ o m = Mo.zero := if_neg h
theorem iTogetherV (o m : Mo) (w : World) : Calls Tryz.prog 162 #[o.val, m.val] w fun e w' => e = .returned ((togJ o m).val) ∧ Below w.heap.size w w' := by
  by_cases h : o.ok ∧ m.ok
  · refine (iTogether_any o.a o.b o.c o.k o.l o.n o.p o.q o.r m.a m.b m.c m.k m.l m.n m.p m.q m.r _ _ _ _ _ _ _ _ _ w h.1 h.2 ⟨rfl, rfl, rfl⟩ (togE o m)).mono fun e w' ⟨he, hb⟩ => ⟨?_, hb⟩
    rcases he with ⟨hv, he⟩ | ⟨hv, he⟩
    · rw [togJ_yes ⟨h, ⟨tog_perm o m h.1.1 h.2.1, hv⟩⟩]; exact he
    · rw [togJ_no (fun k => hv k.2.2)]; exact he
  · rw [togJ_no (fun k => h k.1)]
    exact iTogether_no _ _ _ _ _ _ _ _ _ _ _ _ _ _ _ _ _ _ w h
theorem imotOk_any (m : Mo) (w : World) : Calls Tryz.prog 112 #[m.val] w fun e w' => e = .returned (.bool (dec m.ok)) ∧ Below w.heap.size w w' := by
  by_cases h : m.ok
  · rw [dec_yes h]; exact imotOk_yes _ _ _ _ _ _ _ _ _ w h
  · rw [dec_no h]; exact imotOk_no _ _ _ _ _ _ _ _ _ w h
/- the motions joined so far, from the last part on -/
def updM (J : Nat → Mo) (k : Int) (m : Mo) : Nat → Mo := fun i => if (i : Int) = k then m else J i
def spread (J : Nat → Mo) (ks : List Int) (m : Mo) : Nat → Mo := ks.foldl (fun J k => updM J k m) J
theorem spread_in {m : Mo} {i : Nat} : ∀ (ks : List Int) (J : Nat → Mo), ((i : Int) ∈ ks ∨ J i = m) → spread J ks m i = m
  | [], J, h => by rcases h with h | h; cases h; exact h
  | k :: ks, J, h => by
    show spread (updM J k m) ks m i = m
    refine spread_in ks _ ?_
    by_cases e : (i : Int) = k
    · exact .inr (if_pos e)
    · rcases h with h | h
      · rcases List.mem_cons.1 h with h | h
        · exact absurd h e
        · exact .inl h
      · exact .inr ((if_neg e).trans h)
theorem spread_out {m : Mo} {i : Nat} : ∀ (ks : List Int) (J : Nat → Mo), (i : Int) ∉ ks → spread J ks m i = J i
  | [], J, _ => rfl
  | k :: ks, J, h => by
    show spread (updM J k m) ks m i = J i
    rw [spread_out ks _ (fun j => h (List.mem_cons_of_mem _ j))]
    exact if_neg (fun e => h (by rw [e]; exact List.mem_cons_self ..))
theorem spread_take (J : Nat → Mo) (ks : List Int) (m : Mo) (t : Nat) (h : t < ks.length) : spread J (ks.take (t + 1)) m = updM (spread J (ks.take t) m) ks[t] m := by
  unfold spread; rw [List.take_succ_eq_append_getElem h, List.foldl_append]; rfl
def own (p : Pt) (m : Mo) : Mo := if p.k = 6 then tog p.m m else m
def pa (l : List Pt) (i : Nat) : Pt := l.getD i Pt.zero
theorem pa_get (l : List Pt) (i : Nat) (h : i < l.length) : pa l i = l[i] := by simp [pa, h]
def Jn (z : Mo) (l : List Pt) : Nat → Nat → Mo
  | 0 => fun i => if i + 1 = l.length then Mo.rest else z
  | t + 1 => spread (Jn z l t) (made (pa l (l.length - 1 - t))) (own (pa l (l.length - 1 - t)) (Jn z l t (l.length - 1 - t)))
def mo (l : List Pt) (i : Nat) : Mo := Jn Mo.rest l (l.length - 1 - i) i
def Reached (l : List Pt) (t i : Nat) : Prop := i + 1 = l.length ∨ ∃ j, j < l.length ∧ l.length - t ≤ j ∧ (i : Int) ∈ made (pa l j)
/- what a tree of parts gives: each part but the last is reached ahead of its turn, and by parts behind it -/
theorem lks_mem : ∀ (ks : List Int) (U : Nat → Bool) (i : Nat) (k : Int), Lks U i ks → k ∈ ks → 0 ≤ k ∧ k < i
  | [], _, _, _, _, h => by cases h
  | a :: ks, U, i, k, hl, h => by
    rcases List.mem_cons.1 h with rfl | h
    · exact hl.1
    · exact lks_mem ks _ i k hl.2.2 h
theorem mrks_true : ∀ (ks : List Int) (U : Nat → Bool) (x : Nat), mrks U ks x = true → U x = true ∨ (x : Int) ∈ ks
  | [], U, x, h => .inl h
  | k :: ks, U, x, h => by
    have h1 : mrks (mrk U k) ks x = true := h
    rcases mrks_true ks _ x h1 with h2 | h2
    · unfold mrk at h2
      rcases Bool.or_eq_true _ _ ▸ h2 with h3 | h3
      · exact .inl h3
      · exact .inr (by rw [of_decide_eq_true h3]; exact List.mem_cons_self ..)
    · exact .inr (List.mem_cons_of_mem _ h2)
theorem usd_true (l : List Pt) (x : Nat) : ∀ j, j ≤ l.length → usd l j x = true → ∃ i, i < j ∧ (x : Int) ∈ made (pa l i)
  | 0, _, h => by cases h
  | j + 1, hj, h => by
    rw [usd_succ l j (by omega)] at h
    rcases mrks_true _ _ x h with h | h
    · obtain ⟨i, hi, hm⟩ := usd_true l x j (by omega) h
      exact ⟨i, by omega, hm⟩
    · exact ⟨j, by omega, by rw [pa_get l j (by omega)]; exact h⟩
theorem form_lt {l : List Pt} (hF : Form l) {i j : Nat} (hj : j < l.length) (hm : (i : Int) ∈ made (pa l j)) : i < j := by
  have h := (hF.2.1 j hj hj).2
  rw [← pa_get l j hj] at h
  have := lks_mem _ _ _ _ h hm
  omega
theorem reached_time {l : List Pt} (hF : Form l) {i : Nat} (hi : i < l.length) : Reached l (l.length - 1 - i) i := by
  by_cases h : i + 1 = l.length
  · exact .inl h
  · obtain ⟨j, hj, hm⟩ := usd_true l i l.length (Nat.le_refl _) (hF.2.2 i (by omega))
    have := form_lt hF hj hm
    exact .inr ⟨j, hj, by omega, hm⟩
theorem reached_mono {l : List Pt} {t i : Nat} (h : Reached l (t + 1) i) (ht : t < l.length) : Reached l t i ∨ (i : Int) ∈ made (pa l (l.length - 1 - t)) := by
  rcases h with h | ⟨j, h1, h2, h3⟩
  · exact .inl (.inl h)
  · by_cases e : j = l.length - 1 - t
    · subst e; exact .inr h3
    · exact .inl (.inr ⟨j, h1, by omega, h3⟩)
theorem agree {l : List Pt} (hF : Form l) (z z' : Mo) : ∀ t, t ≤ l.length → ∀ i, Reached l t i → Jn z l t i = Jn z' l t i
  | 0, _, i, h => by
    rcases h with h | ⟨j, h1, h2, _⟩
    · simp only [Jn, h, if_true]
    · omega
  | t + 1, ht, i, h => by
    have e := agree hF z z' t (by omega) (l.length - 1 - t) (by have := reached_time hF (i := l.length - 1 - t) (by omega); rwa [show l.length - 1 - (l.length - 1 - t) = t by omega] at this)
    simp only [Jn]
    rw [e]
    by_cases hm : (i : Int) ∈ made (pa l (l.length - 1 - t))
    · rw [spread_in _ _ (.inl hm), spread_in _ _ (.inl hm)]
    · rw [spread_out _ _ hm, spread_out _ _ hm]
      rcases reached_mono h (by omega) with h1 | h1
      · exact agree hF z z' t (by omega) i h1
      · exact absurd h1 hm
theorem jn_mo {l : List Pt} (hF : Form l) (z : Mo) {i : Nat} (hi : i < l.length) : Jn z l (l.length - 1 - i) i = mo l i := agree hF z Mo.rest _ (by omega) i (reached_time hF hi)
theorem jn_later {l : List Pt} (hF : Form l) {i : Nat} (hi : i < l.length) : ∀ d, l.length - 1 - i + d ≤ l.length → Jn Mo.rest l (l.length - 1 - i + d) i = mo l i
  | 0, _ => rfl
  | d + 1, h => by
    have e : l.length - 1 - i + (d + 1) = (l.length - 1 - i + d) + 1 := rfl
    rw [e]
    simp only [Jn]
    rw [spread_out]
    · exact jn_later hF hi d (by omega)
    · intro hm
      have := form_lt hF (by omega) hm
      omega
def MOk (l : List Pt) (i : Nat) : Prop := (pa l i).k = 6 → (pa l i).m.ok ∧ (tog (pa l i).m (mo l i)).ok
theorem jn_ok {l : List Pt} (hF : Form l) : ∀ t, t ≤ l.length → (∀ j, j < l.length → l.length - t ≤ j → MOk l j) → ∀ i, Reached l t i → (Jn Mo.rest l t i).ok
  | 0, _, _, i, h => by
    rcases h with h | ⟨j, h1, h2, _⟩
    · simp only [Jn, h, if_true]; exact rest_ok
    · omega
  | t + 1, ht, hm, i, h => by
    have hR : Reached l t (l.length - 1 - t) := by have := reached_time hF (i := l.length - 1 - t) (by omega); rwa [show l.length - 1 - (l.length - 1 - t) = t by omega] at this
    have h1 := jn_ok hF t (by omega) (fun j hj hk => hm j hj (by omega)) _ hR
    have e : mo l (l.length - 1 - t) = Jn Mo.rest l t (l.length - 1 - t) := by unfold mo; rw [show l.length - 1 - (l.length - 1 - t) = t by omega]
    simp only [Jn]
    by_cases hm2 : (i : Int) ∈ made (pa l (l.length - 1 - t))
    · rw [spread_in _ _ (.inl hm2)]
      unfold own
      split
      · rename_i hk
        have := (hm (l.length - 1 - t) (by omega) (by omega) hk).2
        rwa [e] at this
      · exact h1
    · rw [spread_out _ _ hm2]
      rcases reached_mono h (by omega) with h2 | h2
      · exact jn_ok hF t (by omega) (fun j hj hk => hm j hj (by omega)) i h2
      · exact absurd h2 hm2
theorem mo_ok {l : List Pt} (hF : Form l) {i : Nat} (hi : i < l.length) (hm : ∀ j, j < l.length → i < j → MOk l j) : (mo l i).ok :=
  jn_ok hF _ (by omega) (fun j hj hk => hm j hj (by omega)) i (reached_time hF hi)
/- a solid, and its parts with its leaves where they stand -/
def SolidP (l : List Pt) : Prop := Form l ∧ (∀ i, i < l.length → MOk l i) ∧ ∀ i, i < l.length → (pa l i).k ≤ 2 → LeafP (leafAt (mo l i) (pa l i))
def lv (l : List Pt) (i : Nat) : Pt := if (pa l i).k ≤ 2 then leafAt (mo l i) (pa l i) else pa l i
def lvs (l : List Pt) : List Pt := (List.range l.length).map (lv l)
theorem lvs_len (l : List Pt) : (lvs l).length = l.length := by simp [lvs]
end Go.Proofs.YtegibpepdndocabGreat
end
section
namespace Go.Proofs.YtegibpepdndocabGreat
open Go.ChangeShapes Go.WideShapes Go.ChangeAt Go.RowKit
set_option linter.unusedSimpArgs false
set_option linter.unusedVariables false
set_option maxHeartbeats 1000000

attribute [local go_sem] VGo_value VGo_skip VGo_enter
/- 'append(v, x...)' of elements that lie somewhere in a row -/
theorem append_from (wr : World) {ops : Array Oper} {rest : List Oper} {o : Oper} {a : Act} {Q : Exit → Act → World → Prop} (hgd : o.guard = none) (s x : Operand) (tS T : TypeId) (C bytes : Nat) (z : Value)
    (ho : o.op = .call { callee := .builtin .append, args := #[s, x], argTypes := #[tS, tS] }) (hu : Tryz.prog.underlying tS = some (.slice T)) (hinfo : (Tryz.prog.info? T).map (fun i => (i.zero, i.size, i.bytes)) = some (some z, C, bytes))
    (hz : z.cells.size = C) (hC0 : 0 < C) (B : Nat) (v : Value) (L news : List (List Value)) (hr : RowK wr B T C v L) (hs : a.eval s = v) (b off m c : Nat) (hx : a.eval x = .slice (some ⟨b, off, none⟩) m c)
    (hcs : ∀ j u, news.flatten[j]? = some u → wr.cell? ⟨b, off + j, none⟩ = some u) (hm : news.length = m) (hnew : ∀ y ∈ news, y.length = C) (h1 : ∀ u ∈ news.flatten, u.oneCell' = true) (hn : L.length + m < 1000000000) (hby : bytes ≤ 100000) (hB : B ≤ wr.heap.size)
    (hK : ∀ v' w', RowK w' B T C v' (L ++ news) → wr.grownBy w' v.ownBlock → wpList Tryz.prog ops Q rest (a.put o.dst v') w') :
    wpList Tryz.prog ops Q (o :: rest) a wr := by
  obtain ⟨i0, hi, hz0, hz1, hz2⟩ := info_parts hinfo
  refine wpList_append_own _ hgd s x tS ho B T i0 z C bytes hu hi hz0 hz1 hz2 hz hC0 v _ _ hs hr.own ⟨b, off, none⟩ m c news.flatten hx (by rw [flat_len hnew, hm]) ?_ h1 ?_ ?_ hB ?_
  · intro j u hu'
    rw [Addr.add_mid]; exact hcs j u hu'
  · unfold maxLen; omega
  · have : (L.length + m) * bytes ≤ 1000000000 * 100000 := Nat.mul_le_mul (by omega) hby
    omega
  · intro v' w' h2 h3 _
    refine hK v' w' ⟨?_, ?_⟩ h3
    · rw [List.length_append, List.flatten_append, hm]; exact h2
    · intro y hy
      rcases List.mem_append.1 hy with h4 | h4
      · exact hr.each y h4
      · exact hnew y h4
/- rows of parts of their own -/
abbrev PRow (w : World) (B : Nat) (v : Value) (l : List Pt) : Prop := RowK w B 49 27 v (l.map Pt.cells)
theorem pcells_len {l : List Pt} : ∀ x ∈ l.map Pt.cells, x.length = 27 := fun x hx => by obtain ⟨s, _, rfl⟩ := List.mem_map.1 hx; rfl
theorem pcells_one {l : List Pt} : ∀ u ∈ (l.map Pt.cells).flatten, u.oneCell' = true := fun u hu => by
  obtain ⟨x, hx, hux⟩ := List.mem_flatten.1 hu
  obtain ⟨s, _, rfl⟩ := List.mem_map.1 hx
  exact s.one u hux
theorem infoPt : (Tryz.prog.info? 49).map (fun i => (i.zero, i.size, i.bytes)) = some (some Pt.zero.val, 27, 200) := by kernel_rfl
/- cell by cell: a row's cells where they lie -/
theorem pflat (l : List Pt) (w : World) (b off : Nat) (hr : ∀ i (h : i < l.length), Pat w b (off + i * 27) l[i]) : ∀ j u, (l.map Pt.cells).flatten[j]? = some u → w.cell? ⟨b, off + j, none⟩ = some u := by
  intro j u hu
  have hlt : j < (l.map Pt.cells).flatten.length := (List.getElem?_eq_some_iff.1 hu).1
  rw [flat_len pcells_len, List.length_map] at hlt
  have hi : j / 27 < l.length := (Nat.div_lt_iff_lt_mul (by omega)).2 hlt
  have hm : j % 27 < 27 := Nat.mod_lt j (by omega)
  have e : j / 27 * 27 + j % 27 = j := Nat.div_add_mod' j 27
  have hg := flat_get (L := l.map Pt.cells) pcells_len (j / 27) (j % 27) (by simpa using hi) hm
  rw [e, hu] at hg
  have := hr (j / 27) hi (j % 27) u (by rw [hg]; simp)
  rwa [show off + j / 27 * 27 + j % 27 = off + j by omega] at this
theorem clone_any (l : List Pt) (b off c : Nat) (w : World) (h2 : l.length ≤ 1000000) (hr : ∀ i (h : i < l.length), Pat w b (off + i * 27) l[i]) :
    Calls Tryz.prog 159 #[.slice (some ⟨b, off, none⟩) l.length c] w fun e w' => ∃ v, e = .returned v ∧ PRow w' w.heap.size v l ∧ Below w.heap.size w w' := by
  have qT : ∀ (w : World) (a : Option Addr) (n c n' c' : Nat), (binOp .eql 59 (.slice a n c) (.slice none n' c')).run Tryz.prog w = .ok (.bool a.isNone) w := fun w a n c n' c' => Lib.run_eql_slice_nil w _ _ a n c n' c' Tryz.underlying59
  have HF : Hid (∀ j u, (l.map Pt.cells).flatten[j]? = some u → (w.alloc (.cells #[] 49)).cell? ⟨b, off + j, none⟩ = some u) := Lib.hid (pflat l _ b off (fun i hi => (hr i hi).below (lowAlloc (lowRefl w) _)))
  clear hr
  go_enter Tryz.func159, Tryz.ntmps159
  go_wp2_with (at_builtin; refine append_from _ rfl _ _ _ 49 27 200 Pt.zero.val rfl Tryz.underlying59 infoPt rfl (by omega) w.heap.size _ [] (l.map Pt.cells) (RowK.empty w w.heap.size 27 49 (Nat.le_refl _)) rfl b off l.length c rfl HF.out (by simp) pcells_len pcells_one (by simp; omega) (by omega) (by simp) ?_; intro v' w1 hr1 hg1)
  go_ret
  refine ⟨_, rfl, by simpa using hr1, (lowAlloc (lowRefl w) _).grown hg1 (by simp) (fun g hg => ?_)⟩
  simp [Value.ownBlock] at hg
  omega
end Go.Proofs.YtegibpepdndocabGreat
end
