import Derived.Test.YtegibpepdndocabGreatSpnEb
namespace Go.Proofs.YtegibpepdndocabGreat
open Has renaming new → J0, new1 → J1, new2 → J2, new3 → J3, new4 → J4, drew → J5, drewN → J6, alloc → J7, same → J8, other → J9, cell → Jc, frozen → Jf, below → Jb
open Go.ChangeShapes Go.WideShapes Go.ChangeAt Go.RowKit
set_option maxHeartbeats 1000000
set_option maxRecDepth 8000
set_option linter.unusedSimpArgs false
attribute [local go_sem] VGo_value VGo_skip VGo_enter

/- a slice value reads as integers -/
def ZIn (w : World) (v : Value) (zs : List Int) : Prop := ∃ A c, v = .slice A zs.length c ∧ (0 < zs.length → ∃ b off, A = some ⟨b, off, none⟩ ∧ ∀ i (h : i < zs.length), w.cell? ⟨b, off + i, none⟩ = some (.int .i64 zs[i]))
theorem ZRow.seen {w : World} {B : Nat} {v : Value} {zs : List Int} (h : ZRow w B v zs) : ZIn w v zs := by
  obtain ⟨A, c, rfl, hA, _⟩ := h.shape
  rw [List.length_map] at hA h ⊢
  refine ⟨A, c, rfl, fun h0 => ?_⟩
  obtain ⟨g, rfl, _⟩ := hA h0
  refine ⟨g, 0, rfl, fun i hi => ?_⟩
  have := h.cell (by simp) i 0 (by simpa using hi) (by omega)
  rw [Nat.zero_add]
  simpa using this
theorem ZIn.below {w w' : World} {v : Value} {zs : List Int} (h : ZIn w v zs) (hb : Below w.heap.size w w') : ZIn w' v zs := by
  obtain ⟨A, c, rfl, h⟩ := h
  refine ⟨A, c, rfl, fun h0 => ?_⟩
  obtain ⟨b, off, rfl, hf⟩ := h h0
  exact ⟨b, off, rfl, fun i hi => cell_lift (hf i hi) (hb.block b (block_lt_of_cell (hf i hi)))⟩
theorem ZRow.snoc {w : World} {B : Nat} {v : Value} {xs : List Int} {z : Int} (h : RowK w B 3 1 v (zcells xs ++ [[.int .i64 z]])) : ZRow w B v (xs ++ [z]) := ZRow.app (ys := [z]) h
theorem append_z (wr : World) {ops : Array Oper} {rest : List Oper} {o : Oper} {a : Act} {Q : Exit → Act → World → Prop} (hgd : o.guard = none) (s x : Operand)
    (ho : o.op = .call { callee := .builtin .append, args := #[s, x], argTypes := #[159, 159] })
    (B : Nat) (v : Value) (l : List Int) (z : Int) (Tb : TypeId) (hr : ZRow wr B v l) (hs : a.eval s = v) (hx : a.eval x = .slice (some ⟨wr.heap.size, 0, none⟩) 1 1) (hn : l.length < 1000000) (hB : B ≤ wr.heap.size)
    (hK : ∀ v' w', ZRow w' B v' (l ++ [z]) → (wr.alloc (.cells #[.int .i64 z] Tb)).grownBy w' v.ownBlock → wpList Tryz.prog ops Q rest (a.put o.dst v') w') :
    wpList Tryz.prog ops Q (o :: rest) a (wr.alloc (.cells #[.int .i64 z] Tb)) :=
  append_k _ hgd s x 159 3 1 8 _ ho Tryz.underlying159 info rfl (by omega) B v _ [.int .i64 z] (hr.alloc _) hs wr.heap.size hx _ Tb (Has.new _ _ _) rfl rfl (by simp [Value.oneCell']) (by rw [List.length_map]; omega) (by omega) (by rw [World.size_alloc]; omega)
    fun v' w' h1 h2 => hK v' w' (ZRow.snoc h1) h2
/- how far the two lists of ends are merged: x and y are the indices; the second one may stand at an end that has been taken already -/
structure Mg (a b : List Sp) (x y : Nat) (out : List Int) (n q : Nat) (t : Int) : Prop where
  all : out ++ evs a b n x q = Evs a b
  fuel : 2 * a.length + 2 * b.length ≤ n + x + q
  ca : SpCut a x t
  cb : SpCut b q t
  last : ∀ z, out.getLast? = some z → z ≤ t
  pos : y = q ∨ (y + 1 = q ∧ spEn b y = t ∧ out.getLast? = some t)
theorem mg_start {a b : List Sp} (ha : SpsGood a) (hb : SpsGood b) : ∃ t, Mg a b 0 0 [] (2 * a.length + 2 * b.length) 0 t := by
  obtain ⟨t, h1, h2⟩ := at2_start ha hb
  exact ⟨t, rfl, by omega, h1, h2, by simp, .inl rfl⟩
theorem mg_done {a b : List Sp} {x y n q : Nat} {t : Int} {out : List Int} (h : Mg a b x y out n q t) (hx : ¬ x < 2 * a.length) (hy : ¬ y < 2 * b.length) : out = Evs a b := by
  have h1 := h.ca.1
  have h2 := h.cb.1
  rcases h.pos with rfl | ⟨e, _⟩
  · have := h.all
    rwa [evs_done ⟨by omega, by omega⟩, List.append_nil] at this
  · omega
/- a new end is taken: from the first list -/
theorem mg_a {a b : List Sp} (ha : SpsGood a) (hb : SpsGood b) {x n q : Nat} {t : Int} {out : List Int} (h : Mg a b x q out n q t) (hp : q = 2 * b.length ∨ (x < 2 * a.length ∧ spEn a x ≤ spEn b q)) (hne : ¬ (x = 2 * a.length ∧ q = 2 * b.length)) :
    (∃ n' q' t', Mg a b (x + 1) q (out ++ [spEn a x]) n' q' t') ∧ t < spEn a x ∧ x < 2 * a.length := by
  have hat : SpAt2 a b x q := ⟨t, h.ca, h.cb⟩
  have hle := hat.le
  have hpk := (pick_iff ha hb hat hne).1 hp
  have hs := step_ne ha hb hat hne
  have hx : x < 2 * a.length := by
    rcases hp with e | e
    · omega
    · exact e.1
  have hnx : spNx a x = spEn a x := by unfold spNx; rw [if_neg (by omega)]
  have hatN : atN a b x q = spEn a x := by unfold atN; rw [if_pos hpk, hnx]
  have hpA : pA a b x q = x + 1 := by unfold pA; rw [if_pos hpk]
  obtain ⟨m, rfl⟩ : ∃ m, n = m + 1 := ⟨n - 1, by have := h.fuel; omega⟩
  have hall := h.all
  rw [evs_step hne, hpA, hatN] at hall
  rw [hpA, hatN] at hs
  have htx : t < spEn a x := h.ca.2.2 x (Nat.le_refl _) hx
  refine ⟨⟨m, qB a b x q, spEn a x, ⟨by rw [List.append_assoc]; exact hall, by have := hs.2.2.2.2; have := h.fuel; omega, hs.1, hs.2.1, by simp, ?_⟩⟩, htx, hx⟩
  by_cases hq : spNx b q ≤ spNx a x
  · right
    have hqb : q ≠ 2 * b.length := by
      intro e
      unfold spNx at hq
      rw [if_pos e, if_neg (by omega)] at hq
      have := en_bd ha hx; omega
    have hnb : spNx b q = spEn b q := by unfold spNx; rw [if_neg hqb]
    refine ⟨by unfold qB; rw [if_pos hq], by omega, by simp⟩
  · left; unfold qB; rw [if_neg hq]
/- from the second one -/
theorem mg_b {a b : List Sp} (ha : SpsGood a) (hb : SpsGood b) {x n q : Nat} {t : Int} {out : List Int} (h : Mg a b x q out n q t) (hp : ¬ (q = 2 * b.length ∨ (x < 2 * a.length ∧ spEn a x ≤ spEn b q))) (hne : ¬ (x = 2 * a.length ∧ q = 2 * b.length)) :
    (∃ n' q' t', Mg a b x (q + 1) (out ++ [spEn b q]) n' q' t') ∧ t < spEn b q ∧ q < 2 * b.length := by
  have hat : SpAt2 a b x q := ⟨t, h.ca, h.cb⟩
  have hle := hat.le
  have hpk : ¬ spNx a x ≤ spNx b q := fun e => hp ((pick_iff ha hb hat hne).2 e)
  have hs := step_ne ha hb hat hne
  have hq : q < 2 * b.length := by omega
  have hnx : spNx b q = spEn b q := by unfold spNx; rw [if_neg (by omega)]
  have hatN : atN a b x q = spEn b q := by unfold atN; rw [if_neg hpk, hnx]
  have hpA : pA a b x q = x := by unfold pA; rw [if_neg hpk]
  have hqB : qB a b x q = q + 1 := by unfold qB; rw [if_pos (by omega)]
  obtain ⟨m, rfl⟩ : ∃ m, n = m + 1 := ⟨n - 1, by have := h.fuel; omega⟩
  have hall := h.all
  rw [evs_step hne, hpA, hatN, hqB] at hall
  rw [hpA, hatN, hqB] at hs
  have htx : t < spEn b q := h.cb.2.2 q (Nat.le_refl _) hq
  exact ⟨⟨m, q + 1, spEn b q, ⟨by rw [List.append_assoc]; exact hall, by have := hs.2.2.2.2; have := h.fuel; omega, hs.1, hs.2.1, by simp, .inl rfl⟩⟩, htx, hq⟩
/- an end that was taken already -/
theorem mg_dup {a b : List Sp} {x y n q : Nat} {t : Int} {out : List Int} (h : Mg a b x y out n q t) (hy : y ≠ q) :
    Mg a b x (y + 1) out n q t ∧ y < 2 * b.length ∧ out.getLast? = some (spEn b y) ∧ (x < 2 * a.length → ¬ spEn a x ≤ spEn b y) := by
  rcases h.pos with e | ⟨e, e1, e2⟩
  · exact absurd e hy
  · have := h.cb.1
    refine ⟨⟨h.all, h.fuel, h.ca, h.cb, h.last, .inl (by omega)⟩, by omega, by rw [e1]; exact e2, fun hx => ?_⟩
    have := h.ca.2.2 x (Nat.le_refl _) hx
    omega
theorem mg_len {a b : List Sp} {x y n q : Nat} {t : Int} {out : List Int} (h : Mg a b x y out n q t) : out.length ≤ 2 * a.length + 2 * b.length := by
  have := congrArg List.length h.all
  rw [List.length_append] at this
  have := Evs_len a b
  omega
theorem snoc_of {l : List Int} {t : Int} (h : l.getLast? = some t) : ∃ ys, l = ys ++ [t] := by
  rcases List.eq_nil_or_concat l with rfl | ⟨ys, z, rfl⟩
  · simp at h
  · rw [List.concat_eq_append] at h ⊢
    exact ⟨ys, by simpa using h⟩
theorem l5Merged_any (a b : List Sp) (va vb : Value) (w : World) (ha : SpsGood a) (hb : SpsGood b) (hla : a.length ≤ 200) (hlb : b.length ≤ 200) (hA : ZIn w va (spEnds a)) (hB : ZIn w vb (spEnds b)) :
    Calls Tryz.prog 203 #[va, vb] w fun e w' => ∃ v', e = .returned v' ∧ ZRow w' w.heap.size v' (Evs a b) ∧ Below w.heap.size w w' := by
  obtain ⟨A, ca, rfl, fA⟩ := hA
  obtain ⟨B, cb, rfl, fB⟩ := hB
  have hna := spEnds_len a
  have hnb := spEnds_len b
  have FA : Hid (0 < (spEnds a).length → ∃ b off, A = some ⟨b, off, none⟩ ∧ ∀ i, i < (spEnds a).length → w.cell? ⟨b, off + i, none⟩ = some (.int .i64 (spEn a i))) := Lib.hid fun h => by
    obtain ⟨b, off, hA, hf⟩ := fA h
    refine ⟨b, off, hA, fun i hi => ?_⟩
    have h2 := spEnds_get a i (by omega)
    rw [List.getElem?_eq_getElem hi] at h2
    injection h2 with h2
    rw [hf i hi, h2]
  have FB : Hid (0 < (spEnds b).length → ∃ b' off, B = some ⟨b', off, none⟩ ∧ ∀ i, i < (spEnds b).length → w.cell? ⟨b', off + i, none⟩ = some (.int .i64 (spEn b i))) := Lib.hid fun h => by
    obtain ⟨b', off, hB, hf⟩ := fB h
    refine ⟨b', off, hB, fun i hi => ?_⟩
    have h2 := spEnds_get b i (by omega)
    rw [List.getElem?_eq_getElem hi] at h2
    injection h2 with h2
    rw [hf i hi, h2]
  clear fA fB
  generalize (spEnds a).length = na at *
  generalize (spEnds b).length = nb at *
  go_enter Tryz.func203, Tryz.ntmps203
  go_upto_region 2 with fail
  have hr0 : ZRow (w.alloc (.cells #[] 3)) w.heap.size (.slice (some ⟨w.heap.size, 0, none⟩) 0 0) [] := RowK.empty w _ _ _ (Nat.le_refl _)
  have hb0 : Below w.heap.size w (w.alloc (.cells #[] 3)) := by repeat' (first|with_reducible (first|exact lowRefl _|apply lowSet|apply lowDrew|apply lowDrewN|apply lowAlloc)|(with_reducible refine lowCall ?_ (by assumption))|(show (_ : Nat) ≤ _;first|(simp;done)|(simp;omega)|omega))
  generalize w.alloc (.cells #[] 3) = w1 at *
  have HNA := Lib.hid hna
  have HNB := Lib.hid hnb
  have hna2 : na ≤ 400 := by omega
  have hnb2 : nb ≤ 400 := by omega
  clear hna hnb
  go_wp2
  go_loopw [5, 6, 7] (fun o i k wr => ∃ (x y : Nat) (vo : Value) (out : List Int) (n q : Nat) (t : Int), i = .int .i64 x ∧ k = .int .i64 y ∧ vo = o ∧ Mg a b x y out n q t ∧ ZRow wr w.heap.size vo out ∧ Below w.heap.size w wr) (fun _ i k _ => (na - (intOf i).toNat) + (nb - (intOf k).toNat))
  case atStart =>
    obtain ⟨t, hm⟩ := mg_start ha hb
    exact ⟨0, 0, _, [], _, _, t, rfl, rfl, rfl, hm, hr0, hb0⟩
  case round =>
    clear hr0 hb0
    obtain ⟨x, y, vo, out, n, q, t, rfl, rfl, rfl, hm, hr, hbl⟩ := hrel
    have HM := Lib.hid hm
    have hol := mg_len hm
    clear hm
    by_cases hx : x < na
    · obtain ⟨gA, oA, rfl, hfA⟩ := FA.out (by omega)
      have cA := hfA x hx
      have NA : ∀ w', Below wr.drew.heap.size wr.drew w' → w'.cell? ⟨gA, oA + x, none⟩ = some (.int .i64 (spEn a x)) := fun w' h => cell_lift (cell_lift cA (hbl.block _ (block_lt_of_cell cA))) ((undrew h).block _ (Nat.lt_of_lt_of_le (block_lt_of_cell cA) hbl.size))
      clear hfA cA
      by_cases hy : y < nb
      · obtain ⟨gB, oB, rfl, hfB⟩ := FB.out (by omega)
        have cB := hfB y hy
        have NB : ∀ w', Below wr.drew.heap.size wr.drew w' → w'.cell? ⟨gB, oB + y, none⟩ = some (.int .i64 (spEn b y)) := fun w' h => cell_lift (cell_lift cB (hbl.block _ (block_lt_of_cell cB))) ((undrew h).block _ (Nat.lt_of_lt_of_le (block_lt_of_cell cB) hbl.size))
        clear hfB cB
        go_upto_region 6 with fail
        have e1 : ((y : Int) == (nb : Int)) = false := by simp; omega
        have e2 : decide ((x : Int) < (na : Int)) = true := by simp; omega
        by_cases hle : spEn a x ≤ spEn b y
        · have e3 : decide (spEn a x ≤ spEn b y) = true := decide_eq_true hle
          have hyq : y = q := Classical.byContradiction fun e => (mg_dup HM.out e).2.2.2 (by have := HNA.out; omega) hle
          subst hyq
          have FA2 := Lib.hid (mg_a ha hb HM.out (.inr ⟨by have := HNA.out; omega, hle⟩) (by have := HNA.out; omega))
          clear hle
          ((refine wp_region_held0 (by kernel_rfl) (by kernel_rfl) (fun _ _ _ d _ h => by cases d <;> exact h) ?_; intro Fq hFq); (repeat (first | (refine wpHeld_skip (by rfl) ?_; ((try simp only [Act.put, List.setIfInBounds_toArray, List.set_cons_zero, List.set_cons_succ]))) | (refine wpHeld_run ?_ rfl ?_ ?_; rotate_left; (focus (intro w' hbq Kq hKq; go_simp; (try simp only [e1, e2, e3]); (try (rw [IntWalk.i64_in]; rotate_left; focus (constructor <;> omega))); first | exact hKq _ (Below.refl _ _) | first | (have c1 := NA _ hbq; go_simp; exact hKq _ (Below.refl _ _)) | (have c1 := NB _ hbq; go_simp; exact hKq _ (Below.refl _ _)))); ((try simp only [Act.put, List.setIfInBounds_toArray, List.set_cons_zero, List.set_cons_succ]))))); ((refine wpHeld_nil (hFq _ ?_); clear hFq; intro w' hbq; ((try (have B0 := Jb (b := w.heap.size) (by repeat' (first|with_reducible (first|assumption|apply J0|apply J1|apply J2|apply J3|apply J4|apply J5|apply J6|apply J7|apply J8|apply J9)|(with_reducible show _ ≠ _;first|omega|(simp;done)))) hbq; have C0 := Jc B0; have F0 := Jf B0)); (try (have B1 := Jb (b := w.heap.size + 1) (by repeat' (first|with_reducible (first|assumption|apply J0|apply J1|apply J2|apply J3|apply J4|apply J5|apply J6|apply J7|apply J8|apply J9)|(with_reducible show _ ≠ _;first|omega|(simp;done)))) hbq; have C1 := Jc B1; have F1 := Jf B1)); (try (have B2 := Jb (b := w.heap.size + 1 + 1) (by repeat' (first|with_reducible (first|assumption|apply J0|apply J1|apply J2|apply J3|apply J4|apply J5|apply J6|apply J7|apply J8|apply J9)|(with_reducible show _ ≠ _;first|omega|(simp;done)))) hbq; have C2 := Jc B2; have F2 := Jf B2))))); have hb2 := lowCall hbl (undrew hbq); have hr2 := hr.below (undrew hbq); (try have cA := NA _ hbq); (try have cB := NB _ hbq); clear hbq hr hbl; (try clear NA); (try clear NB); go_upto_region 11 with fail)
          (have ⟨⟨n2, q2, t2, hm2⟩, hlt2, _⟩ := FA2.out; have HM2 := Lib.hid hm2; clear hm2; rcases List.eq_nil_or_concat out with rfl | ⟨ys, z, hz⟩; (focus (obtain ⟨A3, c3, hv3, _, _⟩ := hr2.shape; subst hv3; (go_wp2_with (at_builtin; refine append_z w' rfl _ _ rfl w.heap.size _ _ (spEn a x) _ hr2 rfl rfl (by simp) hb2.size ?_; intro v2 w2 hr3 hg3)); have hb3 := (lowAlloc hb2 (.cells #[.int .i64 (spEn a x)] 3)).grown hg3 (by have := hb2.size; simp; omega) (fun g hg => (World.ownsRow.lt hr2.own g hg).1); go_roundw; (case rel => exact ⟨_, _, _, _, n2, q2, t2, by go_num, by go_num, rfl, HM2.out, hr3, hb3⟩); (case measure => simp [intOf]; omega))); (focus (rw [List.concat_eq_append] at hz; subst hz; have hzt := HM.out.last z (by simp); have hzl : decide (z < spEn a x) = true := decide_eq_true (by omega); obtain ⟨A3, c3, hv3, hA3⟩ := ZRow.seen hr2; subst hv3; obtain ⟨b3, o3, hA4, hf3⟩ := hA3 (by simp); subst hA4; have cz := hf3 ys.length (by simp); simp only [List.getElem_append_right (Nat.le_refl _), Nat.sub_self, List.getElem_cons_zero] at cz; clear hf3; have hyl : (ys ++ [z]).length = ys.length + 1 := (by simp); rw [hyl] at hr2 hol ⊢; (go_wp2_with (at_builtin; refine append_z w' rfl _ _ rfl w.heap.size _ _ (spEn a x) _ hr2 rfl rfl (by simp; omega) hb2.size ?_; intro v2 w2 hr3 hg3)); have hb3 := (lowAlloc hb2 (.cells #[.int .i64 (spEn a x)] 3)).grown hg3 (by have := hb2.size; simp; omega) (fun g hg => (World.ownsRow.lt hr2.own g hg).1); go_roundw; (case rel => exact ⟨_, _, _, _, n2, q2, t2, by go_num, by go_num, rfl, HM2.out, hr3, hb3⟩); (case measure => simp [intOf]; omega))))
        · have e3 : decide (spEn a x ≤ spEn b y) = false := decide_eq_false hle
          by_cases hyq : y = q
          · subst hyq
            have FA2 := Lib.hid (mg_b ha hb HM.out (fun e => by rcases e with e | e; (have := HNB.out; omega); exact hle e.2) (by have := HNA.out; omega))
            clear hle
            ((refine wp_region_held0 (by kernel_rfl) (by kernel_rfl) (fun _ _ _ d _ h => by cases d <;> exact h) ?_; intro Fq hFq); (repeat (first | (refine wpHeld_skip (by rfl) ?_; ((try simp only [Act.put, List.setIfInBounds_toArray, List.set_cons_zero, List.set_cons_succ]))) | (refine wpHeld_run ?_ rfl ?_ ?_; rotate_left; (focus (intro w' hbq Kq hKq; go_simp; (try simp only [e1, e2, e3]); (try (rw [IntWalk.i64_in]; rotate_left; focus (constructor <;> omega))); first | exact hKq _ (Below.refl _ _) | first | (have c1 := NA _ hbq; go_simp; exact hKq _ (Below.refl _ _)) | (have c1 := NB _ hbq; go_simp; exact hKq _ (Below.refl _ _)))); ((try simp only [Act.put, List.setIfInBounds_toArray, List.set_cons_zero, List.set_cons_succ]))))); ((refine wpHeld_nil (hFq _ ?_); clear hFq; intro w' hbq; ((try (have B0 := Jb (b := w.heap.size) (by repeat' (first|with_reducible (first|assumption|apply J0|apply J1|apply J2|apply J3|apply J4|apply J5|apply J6|apply J7|apply J8|apply J9)|(with_reducible show _ ≠ _;first|omega|(simp;done)))) hbq; have C0 := Jc B0; have F0 := Jf B0)); (try (have B1 := Jb (b := w.heap.size + 1) (by repeat' (first|with_reducible (first|assumption|apply J0|apply J1|apply J2|apply J3|apply J4|apply J5|apply J6|apply J7|apply J8|apply J9)|(with_reducible show _ ≠ _;first|omega|(simp;done)))) hbq; have C1 := Jc B1; have F1 := Jf B1)); (try (have B2 := Jb (b := w.heap.size + 1 + 1) (by repeat' (first|with_reducible (first|assumption|apply J0|apply J1|apply J2|apply J3|apply J4|apply J5|apply J6|apply J7|apply J8|apply J9)|(with_reducible show _ ≠ _;first|omega|(simp;done)))) hbq; have C2 := Jc B2; have F2 := Jf B2))))); have hb2 := lowCall hbl (undrew hbq); have hr2 := hr.below (undrew hbq); (try have cA := NA _ hbq); (try have cB := NB _ hbq); clear hbq hr hbl; (try clear NA); (try clear NB); go_upto_region 11 with fail)
            (have ⟨⟨n2, q2, t2, hm2⟩, hlt2, _⟩ := FA2.out; have HM2 := Lib.hid hm2; clear hm2; rcases List.eq_nil_or_concat out with rfl | ⟨ys, z, hz⟩; (focus (obtain ⟨A3, c3, hv3, _, _⟩ := hr2.shape; subst hv3; (go_wp2_with (at_builtin; refine append_z w' rfl _ _ rfl w.heap.size _ _ (spEn b y) _ hr2 rfl rfl (by simp) hb2.size ?_; intro v2 w2 hr3 hg3)); have hb3 := (lowAlloc hb2 (.cells #[.int .i64 (spEn b y)] 3)).grown hg3 (by have := hb2.size; simp; omega) (fun g hg => (World.ownsRow.lt hr2.own g hg).1); go_roundw; (case rel => exact ⟨_, _, _, _, n2, q2, t2, by go_num, by go_num, rfl, HM2.out, hr3, hb3⟩); (case measure => simp [intOf]; omega))); (focus (rw [List.concat_eq_append] at hz; subst hz; have hzt := HM.out.last z (by simp); have hzl : decide (z < spEn b y) = true := decide_eq_true (by omega); obtain ⟨A3, c3, hv3, hA3⟩ := ZRow.seen hr2; subst hv3; obtain ⟨b3, o3, hA4, hf3⟩ := hA3 (by simp); subst hA4; have cz := hf3 ys.length (by simp); simp only [List.getElem_append_right (Nat.le_refl _), Nat.sub_self, List.getElem_cons_zero] at cz; clear hf3; have hyl : (ys ++ [z]).length = ys.length + 1 := (by simp); rw [hyl] at hr2 hol ⊢; (go_wp2_with (at_builtin; refine append_z w' rfl _ _ rfl w.heap.size _ _ (spEn b y) _ hr2 rfl rfl (by simp; omega) hb2.size ?_; intro v2 w2 hr3 hg3)); have hb3 := (lowAlloc hb2 (.cells #[.int .i64 (spEn b y)] 3)).grown hg3 (by have := hb2.size; simp; omega) (fun g hg => (World.ownsRow.lt hr2.own g hg).1); go_roundw; (case rel => exact ⟨_, _, _, _, n2, q2, t2, by go_num, by go_num, rfl, HM2.out, hr3, hb3⟩); (case measure => simp [intOf]; omega))))
          · clear hle
            ((refine wp_region_held0 (by kernel_rfl) (by kernel_rfl) (fun _ _ _ d _ h => by cases d <;> exact h) ?_; intro Fq hFq); (repeat (first | (refine wpHeld_skip (by rfl) ?_; ((try simp only [Act.put, List.setIfInBounds_toArray, List.set_cons_zero, List.set_cons_succ]))) | (refine wpHeld_run ?_ rfl ?_ ?_; rotate_left; (focus (intro w' hbq Kq hKq; go_simp; (try simp only [e1, e2, e3]); (try (rw [IntWalk.i64_in]; rotate_left; focus (constructor <;> omega))); first | exact hKq _ (Below.refl _ _) | first | (have c1 := NA _ hbq; go_simp; exact hKq _ (Below.refl _ _)) | (have c1 := NB _ hbq; go_simp; exact hKq _ (Below.refl _ _)))); ((try simp only [Act.put, List.setIfInBounds_toArray, List.set_cons_zero, List.set_cons_succ]))))); ((refine wpHeld_nil (hFq _ ?_); clear hFq; intro w' hbq; ((try (have B0 := Jb (b := w.heap.size) (by repeat' (first|with_reducible (first|assumption|apply J0|apply J1|apply J2|apply J3|apply J4|apply J5|apply J6|apply J7|apply J8|apply J9)|(with_reducible show _ ≠ _;first|omega|(simp;done)))) hbq; have C0 := Jc B0; have F0 := Jf B0)); (try (have B1 := Jb (b := w.heap.size + 1) (by repeat' (first|with_reducible (first|assumption|apply J0|apply J1|apply J2|apply J3|apply J4|apply J5|apply J6|apply J7|apply J8|apply J9)|(with_reducible show _ ≠ _;first|omega|(simp;done)))) hbq; have C1 := Jc B1; have F1 := Jf B1)); (try (have B2 := Jb (b := w.heap.size + 1 + 1) (by repeat' (first|with_reducible (first|assumption|apply J0|apply J1|apply J2|apply J3|apply J4|apply J5|apply J6|apply J7|apply J8|apply J9)|(with_reducible show _ ≠ _;first|omega|(simp;done)))) hbq; have C2 := Jc B2; have F2 := Jf B2))))); have hb2 := lowCall hbl (undrew hbq); have hr2 := hr.below (undrew hbq); (try have cA := NA _ hbq); (try have cB := NB _ hbq); clear hbq hr hbl; (try clear NA); (try clear NB); go_upto_region 11 with fail)
            (have ⟨hm2, hy2, hlast, _⟩ := mg_dup HM.out hyq; have HM2 := Lib.hid hm2; clear hm2; obtain ⟨ys, hz⟩ := snoc_of hlast; clear hlast; subst hz; have hzl : decide (spEn b y < spEn b y) = false := (by simp); obtain ⟨A3, c3, hv3, hA3⟩ := ZRow.seen hr2; subst hv3; obtain ⟨b3, o3, hA4, hf3⟩ := hA3 (by simp); subst hA4; have cz := hf3 ys.length (by simp); simp only [List.getElem_append_right (Nat.le_refl _), Nat.sub_self, List.getElem_cons_zero] at cz; clear hf3; have hyl : (ys ++ [spEn b y]).length = ys.length + 1 := (by simp); rw [hyl] at hr2 hol ⊢; go_wp2; go_roundw; (case rel => exact ⟨_, _, _, _, n, q, t, rfl, by go_num, rfl, HM2.out, hr2, hb2⟩); (case measure => simp [intOf]; omega))
      · have hm2 := HM.out
        have hyq : y = q := Classical.byContradiction fun e => by have := (mg_dup hm2 e).2.1; have := HNB.out; omega
        subst hyq
        have hynb : y = nb := by have := hm2.cb.1; have := HNB.out; omega
        have FA2 := Lib.hid (mg_a ha hb hm2 (.inl (by have := HNB.out; omega)) (by have := HNA.out; omega))
        subst hynb
        clear hm2
        go_upto_region 6 with fail
        have e1 : ((y : Int) == (y : Int)) = true := by simp
        have e2 : decide ((x : Int) < (na : Int)) = true := by simp; omega
        have e3 : decide ((y : Int) < (y : Int)) = false := by simp
        ((refine wp_region_held0 (by kernel_rfl) (by kernel_rfl) (fun _ _ _ d _ h => by cases d <;> exact h) ?_; intro Fq hFq); (repeat (first | (refine wpHeld_skip (by rfl) ?_; ((try simp only [Act.put, List.setIfInBounds_toArray, List.set_cons_zero, List.set_cons_succ]))) | (refine wpHeld_run ?_ rfl ?_ ?_; rotate_left; (focus (intro w' hbq Kq hKq; go_simp; (try simp only [e1, e2, e3]); (try (rw [IntWalk.i64_in]; rotate_left; focus (constructor <;> omega))); first | exact hKq _ (Below.refl _ _) | first | (have c1 := NA _ hbq; go_simp; exact hKq _ (Below.refl _ _)) | (have c1 := NB _ hbq; go_simp; exact hKq _ (Below.refl _ _)))); ((try simp only [Act.put, List.setIfInBounds_toArray, List.set_cons_zero, List.set_cons_succ]))))); ((refine wpHeld_nil (hFq _ ?_); clear hFq; intro w' hbq; ((try (have B0 := Jb (b := w.heap.size) (by repeat' (first|with_reducible (first|assumption|apply J0|apply J1|apply J2|apply J3|apply J4|apply J5|apply J6|apply J7|apply J8|apply J9)|(with_reducible show _ ≠ _;first|omega|(simp;done)))) hbq; have C0 := Jc B0; have F0 := Jf B0)); (try (have B1 := Jb (b := w.heap.size + 1) (by repeat' (first|with_reducible (first|assumption|apply J0|apply J1|apply J2|apply J3|apply J4|apply J5|apply J6|apply J7|apply J8|apply J9)|(with_reducible show _ ≠ _;first|omega|(simp;done)))) hbq; have C1 := Jc B1; have F1 := Jf B1)); (try (have B2 := Jb (b := w.heap.size + 1 + 1) (by repeat' (first|with_reducible (first|assumption|apply J0|apply J1|apply J2|apply J3|apply J4|apply J5|apply J6|apply J7|apply J8|apply J9)|(with_reducible show _ ≠ _;first|omega|(simp;done)))) hbq; have C2 := Jc B2; have F2 := Jf B2))))); have hb2 := lowCall hbl (undrew hbq); have hr2 := hr.below (undrew hbq); (try have cA := NA _ hbq); (try have cB := NB _ hbq); clear hbq hr hbl; (try clear NA); (try clear NB); go_upto_region 11 with fail)
        (have ⟨⟨n2, q2, t2, hm2⟩, hlt2, _⟩ := FA2.out; have HM2 := Lib.hid hm2; clear hm2; rcases List.eq_nil_or_concat out with rfl | ⟨ys, z, hz⟩; (focus (obtain ⟨A3, c3, hv3, _, _⟩ := hr2.shape; subst hv3; (go_wp2_with (at_builtin; refine append_z w' rfl _ _ rfl w.heap.size _ _ (spEn a x) _ hr2 rfl rfl (by simp) hb2.size ?_; intro v2 w2 hr3 hg3)); have hb3 := (lowAlloc hb2 (.cells #[.int .i64 (spEn a x)] 3)).grown hg3 (by have := hb2.size; simp; omega) (fun g hg => (World.ownsRow.lt hr2.own g hg).1); go_roundw; (case rel => exact ⟨_, _, _, _, n2, q2, t2, by go_num, by go_num, rfl, HM2.out, hr3, hb3⟩); (case measure => simp [intOf]; omega))); (focus (rw [List.concat_eq_append] at hz; subst hz; have hzt := HM.out.last z (by simp); have hzl : decide (z < spEn a x) = true := decide_eq_true (by omega); obtain ⟨A3, c3, hv3, hA3⟩ := ZRow.seen hr2; subst hv3; obtain ⟨b3, o3, hA4, hf3⟩ := hA3 (by simp); subst hA4; have cz := hf3 ys.length (by simp); simp only [List.getElem_append_right (Nat.le_refl _), Nat.sub_self, List.getElem_cons_zero] at cz; clear hf3; have hyl : (ys ++ [z]).length = ys.length + 1 := (by simp); rw [hyl] at hr2 hol ⊢; (go_wp2_with (at_builtin; refine append_z w' rfl _ _ rfl w.heap.size _ _ (spEn a x) _ hr2 rfl rfl (by simp; omega) hb2.size ?_; intro v2 w2 hr3 hg3)); have hb3 := (lowAlloc hb2 (.cells #[.int .i64 (spEn a x)] 3)).grown hg3 (by have := hb2.size; simp; omega) (fun g hg => (World.ownsRow.lt hr2.own g hg).1); go_roundw; (case rel => exact ⟨_, _, _, _, n2, q2, t2, by go_num, by go_num, rfl, HM2.out, hr3, hb3⟩); (case measure => simp [intOf]; omega))))
    · by_cases hy : y < nb
      · obtain ⟨gB, oB, rfl, hfB⟩ := FB.out (by omega)
        have cB := hfB y hy
        have NB : ∀ w', Below wr.drew.heap.size wr.drew w' → w'.cell? ⟨gB, oB + y, none⟩ = some (.int .i64 (spEn b y)) := fun w' h => cell_lift (cell_lift cB (hbl.block _ (block_lt_of_cell cB))) ((undrew h).block _ (Nat.lt_of_lt_of_le (block_lt_of_cell cB) hbl.size))
        clear hfB cB
        obtain rfl : na = x := by have := HM.out.ca.1; have := HNA.out; omega
        go_upto_region 6 with fail
        have e1 : ((y : Int) == (nb : Int)) = false := by simp; omega
        have e2 : decide ((na : Int) < (na : Int)) = false := by simp
        have e3 : (0 : Int) = 0 := rfl
        by_cases hyq : y = q
        · subst hyq
          have FA2 := Lib.hid (mg_b ha hb HM.out (fun e => by have := HNA.out; have := HNB.out; omega) (by have := HNB.out; omega))
          ((refine wp_region_held0 (by kernel_rfl) (by kernel_rfl) (fun _ _ _ d _ h => by cases d <;> exact h) ?_; intro Fq hFq); (repeat (first | (refine wpHeld_skip (by rfl) ?_; ((try simp only [Act.put, List.setIfInBounds_toArray, List.set_cons_zero, List.set_cons_succ]))) | (refine wpHeld_run ?_ rfl ?_ ?_; rotate_left; (focus (intro w' hbq Kq hKq; go_simp; (try simp only [e1, e2, e3]); (try (rw [IntWalk.i64_in]; rotate_left; focus (constructor <;> omega))); first | exact hKq _ (Below.refl _ _) | first | (have c1 := NA _ hbq; go_simp; exact hKq _ (Below.refl _ _)) | (have c1 := NB _ hbq; go_simp; exact hKq _ (Below.refl _ _)))); ((try simp only [Act.put, List.setIfInBounds_toArray, List.set_cons_zero, List.set_cons_succ]))))); ((refine wpHeld_nil (hFq _ ?_); clear hFq; intro w' hbq; ((try (have B0 := Jb (b := w.heap.size) (by repeat' (first|with_reducible (first|assumption|apply J0|apply J1|apply J2|apply J3|apply J4|apply J5|apply J6|apply J7|apply J8|apply J9)|(with_reducible show _ ≠ _;first|omega|(simp;done)))) hbq; have C0 := Jc B0; have F0 := Jf B0)); (try (have B1 := Jb (b := w.heap.size + 1) (by repeat' (first|with_reducible (first|assumption|apply J0|apply J1|apply J2|apply J3|apply J4|apply J5|apply J6|apply J7|apply J8|apply J9)|(with_reducible show _ ≠ _;first|omega|(simp;done)))) hbq; have C1 := Jc B1; have F1 := Jf B1)); (try (have B2 := Jb (b := w.heap.size + 1 + 1) (by repeat' (first|with_reducible (first|assumption|apply J0|apply J1|apply J2|apply J3|apply J4|apply J5|apply J6|apply J7|apply J8|apply J9)|(with_reducible show _ ≠ _;first|omega|(simp;done)))) hbq; have C2 := Jc B2; have F2 := Jf B2))))); have hb2 := lowCall hbl (undrew hbq); have hr2 := hr.below (undrew hbq); (try have cA := NA _ hbq); (try have cB := NB _ hbq); clear hbq hr hbl; (try clear NA); (try clear NB); go_upto_region 11 with fail)
          (have ⟨⟨n2, q2, t2, hm2⟩, hlt2, _⟩ := FA2.out; have HM2 := Lib.hid hm2; clear hm2; rcases List.eq_nil_or_concat out with rfl | ⟨ys, z, hz⟩; (focus (obtain ⟨A3, c3, hv3, _, _⟩ := hr2.shape; subst hv3; (go_wp2_with (at_builtin; refine append_z w' rfl _ _ rfl w.heap.size _ _ (spEn b y) _ hr2 rfl rfl (by simp) hb2.size ?_; intro v2 w2 hr3 hg3)); have hb3 := (lowAlloc hb2 (.cells #[.int .i64 (spEn b y)] 3)).grown hg3 (by have := hb2.size; simp; omega) (fun g hg => (World.ownsRow.lt hr2.own g hg).1); go_roundw; (case rel => exact ⟨_, _, _, _, n2, q2, t2, by go_num, by go_num, rfl, HM2.out, hr3, hb3⟩); (case measure => simp [intOf]; omega))); (focus (rw [List.concat_eq_append] at hz; subst hz; have hzt := HM.out.last z (by simp); have hzl : decide (z < spEn b y) = true := decide_eq_true (by omega); obtain ⟨A3, c3, hv3, hA3⟩ := ZRow.seen hr2; subst hv3; obtain ⟨b3, o3, hA4, hf3⟩ := hA3 (by simp); subst hA4; have cz := hf3 ys.length (by simp); simp only [List.getElem_append_right (Nat.le_refl _), Nat.sub_self, List.getElem_cons_zero] at cz; clear hf3; have hyl : (ys ++ [z]).length = ys.length + 1 := (by simp); rw [hyl] at hr2 hol ⊢; (go_wp2_with (at_builtin; refine append_z w' rfl _ _ rfl w.heap.size _ _ (spEn b y) _ hr2 rfl rfl (by simp; omega) hb2.size ?_; intro v2 w2 hr3 hg3)); have hb3 := (lowAlloc hb2 (.cells #[.int .i64 (spEn b y)] 3)).grown hg3 (by have := hb2.size; simp; omega) (fun g hg => (World.ownsRow.lt hr2.own g hg).1); go_roundw; (case rel => exact ⟨_, _, _, _, n2, q2, t2, by go_num, by go_num, rfl, HM2.out, hr3, hb3⟩); (case measure => simp [intOf]; omega))))
        · ((refine wp_region_held0 (by kernel_rfl) (by kernel_rfl) (fun _ _ _ d _ h => by cases d <;> exact h) ?_; intro Fq hFq); (repeat (first | (refine wpHeld_skip (by rfl) ?_; ((try simp only [Act.put, List.setIfInBounds_toArray, List.set_cons_zero, List.set_cons_succ]))) | (refine wpHeld_run ?_ rfl ?_ ?_; rotate_left; (focus (intro w' hbq Kq hKq; go_simp; (try simp only [e1, e2, e3]); (try (rw [IntWalk.i64_in]; rotate_left; focus (constructor <;> omega))); first | exact hKq _ (Below.refl _ _) | first | (have c1 := NA _ hbq; go_simp; exact hKq _ (Below.refl _ _)) | (have c1 := NB _ hbq; go_simp; exact hKq _ (Below.refl _ _)))); ((try simp only [Act.put, List.setIfInBounds_toArray, List.set_cons_zero, List.set_cons_succ]))))); ((refine wpHeld_nil (hFq _ ?_); clear hFq; intro w' hbq; ((try (have B0 := Jb (b := w.heap.size) (by repeat' (first|with_reducible (first|assumption|apply J0|apply J1|apply J2|apply J3|apply J4|apply J5|apply J6|apply J7|apply J8|apply J9)|(with_reducible show _ ≠ _;first|omega|(simp;done)))) hbq; have C0 := Jc B0; have F0 := Jf B0)); (try (have B1 := Jb (b := w.heap.size + 1) (by repeat' (first|with_reducible (first|assumption|apply J0|apply J1|apply J2|apply J3|apply J4|apply J5|apply J6|apply J7|apply J8|apply J9)|(with_reducible show _ ≠ _;first|omega|(simp;done)))) hbq; have C1 := Jc B1; have F1 := Jf B1)); (try (have B2 := Jb (b := w.heap.size + 1 + 1) (by repeat' (first|with_reducible (first|assumption|apply J0|apply J1|apply J2|apply J3|apply J4|apply J5|apply J6|apply J7|apply J8|apply J9)|(with_reducible show _ ≠ _;first|omega|(simp;done)))) hbq; have C2 := Jc B2; have F2 := Jf B2))))); have hb2 := lowCall hbl (undrew hbq); have hr2 := hr.below (undrew hbq); (try have cA := NA _ hbq); (try have cB := NB _ hbq); clear hbq hr hbl; (try clear NA); (try clear NB); go_upto_region 11 with fail)
          (have ⟨hm2, hy2, hlast, _⟩ := mg_dup HM.out hyq; have HM2 := Lib.hid hm2; clear hm2; obtain ⟨ys, hz⟩ := snoc_of hlast; clear hlast; subst hz; have hzl : decide (spEn b y < spEn b y) = false := (by simp); obtain ⟨A3, c3, hv3, hA3⟩ := ZRow.seen hr2; subst hv3; obtain ⟨b3, o3, hA4, hf3⟩ := hA3 (by simp); subst hA4; have cz := hf3 ys.length (by simp); simp only [List.getElem_append_right (Nat.le_refl _), Nat.sub_self, List.getElem_cons_zero] at cz; clear hf3; have hyl : (ys ++ [spEn b y]).length = ys.length + 1 := (by simp); rw [hyl] at hr2 hol ⊢; go_wp2; go_roundw; (case rel => exact ⟨_, _, _, _, n, q, t, rfl, by go_num, rfl, HM2.out, hr2, hb2⟩); (case measure => simp [intOf]; omega))
      · have hd := mg_done HM.out (by have := HNA.out; omega) (by have := HNB.out; omega)
        rw [hd] at hr
        clear hd
        go_wp2
        go_ret
        exact ⟨_, rfl, hr, hbl⟩
end Go.Proofs.YtegibpepdndocabGreat
