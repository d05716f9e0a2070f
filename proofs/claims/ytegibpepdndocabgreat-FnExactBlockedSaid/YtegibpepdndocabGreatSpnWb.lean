import Derived.Test.YtegibpepdndocabGreatSpnOb
namespace Go.Proofs.YtegibpepdndocabGreat
open Has renaming new → J0, new1 → J1, new2 → J2, new3 → J3, new4 → J4, drew → J5, drewN → J6, alloc → J7, same → J8, other → J9, cell → Jc, frozen → Jf, below → Jb
open Go.ChangeShapes Go.WideShapes Go.ChangeAt Go.RowKit
set_option maxHeartbeats 1000000
set_option maxRecDepth 8000
set_option linter.unusedSimpArgs false
attribute [local go_sem] VGo_value VGo_skip VGo_enter

theorem inner_step {l : List Sp} {a b : Int} {j : Nat} (hj : j < l.length) {F T I O : Int} (hF : (if l[j].f < a then a else l[j].f) = F) (hT : (if b < l[j].t then b else l[j].t) = T) (hI : (if l[j].f < a then 0 else l[j].i) = I) (hO : (if b < l[j].t then 0 else l[j].o) = O) :
    (F < T → spInner (l.take (j + 1)) a b = spInner (l.take j) a b ++ [⟨F, T, I, O⟩]) ∧ (¬ F < T → spInner (l.take (j + 1)) a b = spInner (l.take j) a b) := by
  rw [spInner_succ hj]
  unfold spCutS
  rw [hF, hT, hI, hO]
  refine ⟨fun h => by rw [if_pos h], fun h => by rw [if_neg h, List.append_nil]⟩
theorem SRow.snoc {w : World} {B : Nat} {v : Value} {l : List Sp} {s : Sp} (h : RowK w B 87 4 v (l.map Sp.cells ++ [s.cells])) : SRow w B v (l ++ [s]) := by
  rw [SRow, List.map_append]; exact h
theorem sp_one {s : Sp} : ∀ u ∈ s.cells, u.oneCell' = true := by
  intro u hu
  simp only [Sp.cells, List.mem_cons, List.not_mem_nil, or_false] at hu
  rcases hu with rfl | rfl | rfl | rfl <;> rfl
/- 'append(v, s)' where s lies in a new block of its own -/
theorem append_sp (wr : World) {ops : Array Oper} {rest : List Oper} {o : Oper} {a : Act} {Q : Exit → Act → World → Prop} (hgd : o.guard = none) (s x : Operand)
    (ho : o.op = .call { callee := .builtin .append, args := #[s, x], argTypes := #[77, 77] })
    (B : Nat) (v : Value) (l : List Sp) (e1 e2 e3 e4 : Int) (Tb : TypeId) (hr : SRow wr B v l) (hs : a.eval s = v) (hx : a.eval x = .slice (some ⟨wr.heap.size, 0, none⟩) 1 1) (hn : l.length < 1000000) (hB : B ≤ wr.heap.size)
    (hK : ∀ v' w', SRow w' B v' (l ++ [⟨e1, e2, e3, e4⟩]) → (wr.alloc (.cells #[.int .i64 e1, .int .i64 e2, .int .i64 e3, .int .i64 e4] Tb)).grownBy w' v.ownBlock → wpList Tryz.prog ops Q rest (a.put o.dst v') w') :
    wpList Tryz.prog ops Q (o :: rest) a (wr.alloc (.cells #[.int .i64 e1, .int .i64 e2, .int .i64 e3, .int .i64 e4] Tb)) :=
  append_k _ hgd s x 77 87 4 32 _ ho Tryz.underlying77 infoSp rfl (by omega) B v _ (Sp.cells ⟨e1, e2, e3, e4⟩) (hr.alloc _) hs wr.heap.size hx _ Tb (Has.new _ _ _) rfl rfl sp_one (by rw [List.length_map]; omega) (by omega) (by rw [World.size_alloc]; omega)
    fun v' w' h1 h2 => hK v' w' (SRow.snoc h1) h2
theorem l5Within_any (l : List Sp) (v : Value) (a b : Int) (w : World) (h : SIn w v l) (hl : l.length ≤ 100000) :
    Calls Tryz.prog 83 #[v, .int .i64 a, .int .i64 b] w fun e w' => ∃ v', e = .returned v' ∧ SRow w' w.heap.size v' (spInner l a b) ∧ Below w.heap.size w w' := by
  obtain ⟨A, c, rfl, hA⟩ := h
  have HA := Lib.hid hA
  clear hA
  go_enter Tryz.func83, Tryz.ntmps83
  go_upto_region 2 with fail
  have hr0 : SRow (w.alloc (.cells #[] 87)) w.heap.size (.slice (some ⟨w.heap.size, 0, none⟩) 0 0) [] := RowK.empty w _ _ _ (Nat.le_refl _)
  have hb0 : Below w.heap.size w (w.alloc (.cells #[] 87)) := by repeat' (first|with_reducible (first|exact lowRefl _|apply lowSet|apply lowDrew|apply lowDrewN|apply lowAlloc)|(with_reducible refine lowCall ?_ (by assumption))|(show (_ : Nat) ≤ _;first|(simp;done)|(simp;omega)|omega))
  generalize w.alloc (.cells #[] 87) = w1 at *
  go_wp2
  go_loopw [7, 8] (fun o i wr => ∃ (j : Nat) (vo : Value), j ≤ l.length ∧ i = .int .i64 j ∧ vo = o ∧ SRow wr w.heap.size vo (spInner (l.take j) a b) ∧ Below w.heap.size w wr) (fun _ i _ => l.length - (intOf i).toNat)
  case atStart => exact ⟨0, _, by omega, rfl, rfl, by simpa [spInner] using hr0, hb0⟩
  case round =>
    clear hr0 hb0
    obtain ⟨j, vo, hj, rfl, rfl, hr, hb⟩ := hrel
    by_cases hc : j < l.length
    · obtain ⟨b0, off, rfl, hf⟩ := HA.out (by omega)
      obtain ⟨c0, c1, c2, c3⟩ := (hf j hc).below hb
      clear hf
      have hle := Nat.le_trans (spInner_len (l.take j) a b) (by simp; omega : (l.take j).length ≤ 100000)
      go_upto_region 6 with fail
      refine (fun (k : ∀ wm, Has wm wr.heap.size #[.int .i64 l[j].f, .int .i64 l[j].t, .int .i64 l[j].i, .int .i64 l[j].o] 87 → SRow wm w.heap.size vo (spInner (l.take j) a b) → Below w.heap.size w wm → w.heap.size ≤ wr.heap.size → some wr.heap.size ≠ Value.ownBlock vo → Code.wp _ _ _ _ wm) => k _ ?_ ?_ ?_ ?_ ?_) ?_
      · (refine Has.as (by repeat' (first|with_reducible (first|assumption|apply J0|apply J1|apply J2|apply J3|apply J4|apply J5|apply J6|apply J7|apply J8|apply J9)|(with_reducible show _ ≠ _;first|omega|(simp;done)))) ?_; first | (with_reducible rfl) | (simp only [List.setIfInBounds_toArray, List.set_cons_zero, List.set_cons_succ]; first | done | rfl) | rfl | (simp; done))
      · exact hr.alloc _
      · repeat' (first|with_reducible (first|exact lowRefl _|apply lowSet|apply lowDrew|apply lowDrewN|apply lowAlloc)|(with_reducible refine lowCall ?_ (by assumption))|(show (_ : Nat) ≤ _;first|(simp;done)|(simp;omega)|omega))
      · exact hb.size
      · exact own_fresh hr.own
      generalize wr.heap.size = bX
      clear hb hr c0 c1 c2 c3 wr
      intro wr BX hr hb hbX hne
      have CX := Jc BX
      have FX := Jf BX
      by_cases h1 : l[j].f < a
      · by_cases h2 : b < l[j].t
        · go_upto_region 12 with fail
          (refine (fun (k : ∀ (F T I O : Int) wm, (if l[j].f < a then a else l[j].f) = F → (if b < l[j].t then b else l[j].t) = T → (if l[j].f < a then 0 else l[j].i) = I → (if b < l[j].t then 0 else l[j].o) = O → Has wm bX #[.int .i64 F, .int .i64 T, .int .i64 I, .int .i64 O] 87 → SRow wm w.heap.size vo (spInner (l.take j) a b) → Below w.heap.size w wm → Code.wp _ _ _ _ wm) => k a b 0 0 _ (by simp [h1]) (by simp [h2]) (by simp [h1]) (by simp [h2]) ?_ ?_ ?_) ?_; (focus (refine Has.as (by repeat' (first|with_reducible (first|assumption|apply J0|apply J1|apply J2|apply J3|apply J4|apply J5|apply J6|apply J7|apply J8|apply J9)|(with_reducible show _ ≠ _;first|omega|(simp;done)))) ?_; first | (with_reducible rfl) | (simp only [List.setIfInBounds_toArray, List.set_cons_zero, List.set_cons_succ]; first | done | rfl) | rfl | (simp; done))); (focus (repeat' (first | with_reducible exact hr | (with_reducible refine RowK.set ?_ hne)))); (focus repeat' (first|with_reducible (first|exact lowRefl _|apply lowSet|apply lowDrew|apply lowDrewN|apply lowAlloc)|(with_reducible refine lowCall ?_ (by assumption))|(show (_ : Nat) ≤ _;first|(simp;done)|(simp;omega)|omega))); clear hb hr CX FX BX wr; intro F T I O wr hF hT hI hO BX hr hb; have CX := Jc BX; have FX := Jf BX; have ⟨s1, s2⟩ := inner_step hc hF hT hI hO; have HS1 := Lib.hid s1; have HS2 := Lib.hid s2; clear s1 s2 hF hT hI hO)
          (by_cases hlt : F < T; (focus (have hle2 : w.heap.size ≤ wr.heap.size := hb.size; (go_wp2_with (at_builtin; refine append_sp wr rfl _ _ rfl w.heap.size _ _ _ _ _ _ _ hr rfl rfl (by omega) hle2 ?_; intro v2 w2 hr2 hg2)); rw [← HS1.out hlt] at hr2; have hb2 := (lowAlloc hb (.cells #[.int .i64 F, .int .i64 T, .int .i64 I, .int .i64 O] 87)).grown hg2 (by simp; omega) (fun g hg => (World.ownsRow.lt hr.own g hg).1); go_roundw; (case rel => exact ⟨j + 1, _, by omega, by go_num, rfl, hr2, hb2⟩); (case measure => simp [intOf]; omega))); (focus (rw [← HS2.out hlt] at hr; have hlt2 : decide (F < T) = false := decide_eq_false hlt; go_wp2; go_roundw; (case rel => exact ⟨j + 1, _, by omega, by go_num, rfl, hr, hb⟩); (case measure => simp [intOf]; omega))))
        · have h3 : decide (b < l[j].t) = false := decide_eq_false h2
          go_upto_region 12 with fail
          (refine (fun (k : ∀ (F T I O : Int) wm, (if l[j].f < a then a else l[j].f) = F → (if b < l[j].t then b else l[j].t) = T → (if l[j].f < a then 0 else l[j].i) = I → (if b < l[j].t then 0 else l[j].o) = O → Has wm bX #[.int .i64 F, .int .i64 T, .int .i64 I, .int .i64 O] 87 → SRow wm w.heap.size vo (spInner (l.take j) a b) → Below w.heap.size w wm → Code.wp _ _ _ _ wm) => k a l[j].t 0 l[j].o _ (by simp [h1]) (by simp [h2]) (by simp [h1]) (by simp [h2]) ?_ ?_ ?_) ?_; (focus (refine Has.as (by repeat' (first|with_reducible (first|assumption|apply J0|apply J1|apply J2|apply J3|apply J4|apply J5|apply J6|apply J7|apply J8|apply J9)|(with_reducible show _ ≠ _;first|omega|(simp;done)))) ?_; first | (with_reducible rfl) | (simp only [List.setIfInBounds_toArray, List.set_cons_zero, List.set_cons_succ]; first | done | rfl) | rfl | (simp; done))); (focus (repeat' (first | with_reducible exact hr | (with_reducible refine RowK.set ?_ hne)))); (focus repeat' (first|with_reducible (first|exact lowRefl _|apply lowSet|apply lowDrew|apply lowDrewN|apply lowAlloc)|(with_reducible refine lowCall ?_ (by assumption))|(show (_ : Nat) ≤ _;first|(simp;done)|(simp;omega)|omega))); clear hb hr CX FX BX wr; intro F T I O wr hF hT hI hO BX hr hb; have CX := Jc BX; have FX := Jf BX; have ⟨s1, s2⟩ := inner_step hc hF hT hI hO; have HS1 := Lib.hid s1; have HS2 := Lib.hid s2; clear s1 s2 hF hT hI hO)
          (by_cases hlt : F < T; (focus (have hle2 : w.heap.size ≤ wr.heap.size := hb.size; (go_wp2_with (at_builtin; refine append_sp wr rfl _ _ rfl w.heap.size _ _ _ _ _ _ _ hr rfl rfl (by omega) hle2 ?_; intro v2 w2 hr2 hg2)); rw [← HS1.out hlt] at hr2; have hb2 := (lowAlloc hb (.cells #[.int .i64 F, .int .i64 T, .int .i64 I, .int .i64 O] 87)).grown hg2 (by simp; omega) (fun g hg => (World.ownsRow.lt hr.own g hg).1); go_roundw; (case rel => exact ⟨j + 1, _, by omega, by go_num, rfl, hr2, hb2⟩); (case measure => simp [intOf]; omega))); (focus (rw [← HS2.out hlt] at hr; have hlt2 : decide (F < T) = false := decide_eq_false hlt; go_wp2; go_roundw; (case rel => exact ⟨j + 1, _, by omega, by go_num, rfl, hr, hb⟩); (case measure => simp [intOf]; omega))))
      · have h4 : decide (l[j].f < a) = false := decide_eq_false h1
        by_cases h2 : b < l[j].t
        · go_upto_region 12 with fail
          (refine (fun (k : ∀ (F T I O : Int) wm, (if l[j].f < a then a else l[j].f) = F → (if b < l[j].t then b else l[j].t) = T → (if l[j].f < a then 0 else l[j].i) = I → (if b < l[j].t then 0 else l[j].o) = O → Has wm bX #[.int .i64 F, .int .i64 T, .int .i64 I, .int .i64 O] 87 → SRow wm w.heap.size vo (spInner (l.take j) a b) → Below w.heap.size w wm → Code.wp _ _ _ _ wm) => k l[j].f b l[j].i 0 _ (by simp [h1]) (by simp [h2]) (by simp [h1]) (by simp [h2]) ?_ ?_ ?_) ?_; (focus (refine Has.as (by repeat' (first|with_reducible (first|assumption|apply J0|apply J1|apply J2|apply J3|apply J4|apply J5|apply J6|apply J7|apply J8|apply J9)|(with_reducible show _ ≠ _;first|omega|(simp;done)))) ?_; first | (with_reducible rfl) | (simp only [List.setIfInBounds_toArray, List.set_cons_zero, List.set_cons_succ]; first | done | rfl) | rfl | (simp; done))); (focus (repeat' (first | with_reducible exact hr | (with_reducible refine RowK.set ?_ hne)))); (focus repeat' (first|with_reducible (first|exact lowRefl _|apply lowSet|apply lowDrew|apply lowDrewN|apply lowAlloc)|(with_reducible refine lowCall ?_ (by assumption))|(show (_ : Nat) ≤ _;first|(simp;done)|(simp;omega)|omega))); clear hb hr CX FX BX wr; intro F T I O wr hF hT hI hO BX hr hb; have CX := Jc BX; have FX := Jf BX; have ⟨s1, s2⟩ := inner_step hc hF hT hI hO; have HS1 := Lib.hid s1; have HS2 := Lib.hid s2; clear s1 s2 hF hT hI hO)
          (by_cases hlt : F < T; (focus (have hle2 : w.heap.size ≤ wr.heap.size := hb.size; (go_wp2_with (at_builtin; refine append_sp wr rfl _ _ rfl w.heap.size _ _ _ _ _ _ _ hr rfl rfl (by omega) hle2 ?_; intro v2 w2 hr2 hg2)); rw [← HS1.out hlt] at hr2; have hb2 := (lowAlloc hb (.cells #[.int .i64 F, .int .i64 T, .int .i64 I, .int .i64 O] 87)).grown hg2 (by simp; omega) (fun g hg => (World.ownsRow.lt hr.own g hg).1); go_roundw; (case rel => exact ⟨j + 1, _, by omega, by go_num, rfl, hr2, hb2⟩); (case measure => simp [intOf]; omega))); (focus (rw [← HS2.out hlt] at hr; have hlt2 : decide (F < T) = false := decide_eq_false hlt; go_wp2; go_roundw; (case rel => exact ⟨j + 1, _, by omega, by go_num, rfl, hr, hb⟩); (case measure => simp [intOf]; omega))))
        · have h3 : decide (b < l[j].t) = false := decide_eq_false h2
          go_upto_region 12 with fail
          (refine (fun (k : ∀ (F T I O : Int) wm, (if l[j].f < a then a else l[j].f) = F → (if b < l[j].t then b else l[j].t) = T → (if l[j].f < a then 0 else l[j].i) = I → (if b < l[j].t then 0 else l[j].o) = O → Has wm bX #[.int .i64 F, .int .i64 T, .int .i64 I, .int .i64 O] 87 → SRow wm w.heap.size vo (spInner (l.take j) a b) → Below w.heap.size w wm → Code.wp _ _ _ _ wm) => k l[j].f l[j].t l[j].i l[j].o _ (by simp [h1]) (by simp [h2]) (by simp [h1]) (by simp [h2]) ?_ ?_ ?_) ?_; (focus (refine Has.as (by repeat' (first|with_reducible (first|assumption|apply J0|apply J1|apply J2|apply J3|apply J4|apply J5|apply J6|apply J7|apply J8|apply J9)|(with_reducible show _ ≠ _;first|omega|(simp;done)))) ?_; first | (with_reducible rfl) | (simp only [List.setIfInBounds_toArray, List.set_cons_zero, List.set_cons_succ]; first | done | rfl) | rfl | (simp; done))); (focus (repeat' (first | with_reducible exact hr | (with_reducible refine RowK.set ?_ hne)))); (focus repeat' (first|with_reducible (first|exact lowRefl _|apply lowSet|apply lowDrew|apply lowDrewN|apply lowAlloc)|(with_reducible refine lowCall ?_ (by assumption))|(show (_ : Nat) ≤ _;first|(simp;done)|(simp;omega)|omega))); clear hb hr CX FX BX wr; intro F T I O wr hF hT hI hO BX hr hb; have CX := Jc BX; have FX := Jf BX; have ⟨s1, s2⟩ := inner_step hc hF hT hI hO; have HS1 := Lib.hid s1; have HS2 := Lib.hid s2; clear s1 s2 hF hT hI hO)
          (by_cases hlt : F < T; (focus (have hle2 : w.heap.size ≤ wr.heap.size := hb.size; (go_wp2_with (at_builtin; refine append_sp wr rfl _ _ rfl w.heap.size _ _ _ _ _ _ _ hr rfl rfl (by omega) hle2 ?_; intro v2 w2 hr2 hg2)); rw [← HS1.out hlt] at hr2; have hb2 := (lowAlloc hb (.cells #[.int .i64 F, .int .i64 T, .int .i64 I, .int .i64 O] 87)).grown hg2 (by simp; omega) (fun g hg => (World.ownsRow.lt hr.own g hg).1); go_roundw; (case rel => exact ⟨j + 1, _, by omega, by go_num, rfl, hr2, hb2⟩); (case measure => simp [intOf]; omega))); (focus (rw [← HS2.out hlt] at hr; have hlt2 : decide (F < T) = false := decide_eq_false hlt; go_wp2; go_roundw; (case rel => exact ⟨j + 1, _, by omega, by go_num, rfl, hr, hb⟩); (case measure => simp [intOf]; omega))))
    · obtain rfl : j = l.length := by omega
      rw [List.take_length] at hr
      go_wp2
      go_ret
      exact ⟨_, rfl, hr, hb⟩
/- out of the limits, or spans that are none: nothing -/
theorem spWithin_no {l : List Sp} {a b : Int} (h : ¬ (sOk l = true ∧ -1073741824 ≤ a ∧ a ≤ 1073741824 ∧ -1073741824 ≤ b ∧ b ≤ 1073741824)) : spWithin l a b = [] := by unfold spWithin; rw [if_neg h]
theorem spWithin_yes {l : List Sp} {a b : Int} (h : sOk l = true ∧ -1073741824 ≤ a ∧ a ≤ 1073741824 ∧ -1073741824 ≤ b ∧ b ≤ 1073741824) : spWithin l a b = spInner l a b := by unfold spWithin; rw [if_pos h]
theorem ispansWithin_any (l : List Sp) (v : Value) (a b : Int) (w : World) (h : SIn w v l) (hl : l.length ≤ 9223372036854775807) :
    Calls Tryz.prog 71 #[v, .int .i64 a, .int .i64 b] w fun e w' => ∃ v', e = .returned v' ∧ SRow w' w.heap.size v' (spWithin l a b) ∧ Below w.heap.size w w' := by
  have H := Lib.hid h
  cases hk : sOk l
  · rw [spWithin_no (by rw [hk]; simp)]
    go_enter Tryz.func71, Tryz.ntmps71
    go_wp2_with (go_at_call 43; refine (ispansOk_any l _ _ H.out hl).mono ?_; rintro e w' ⟨rfl, hbq⟩; rw [hk])
    go_ret
    exact ⟨_, rfl, RowK.nil _ _ _ _, hbq⟩
  · by_cases ha : -1073741824 ≤ a ∧ a ≤ 1073741824
    · by_cases hb : -1073741824 ≤ b ∧ b ≤ 1073741824
      · rw [spWithin_yes ⟨hk, ha.1, ha.2, hb⟩]
        have hlen := ((sOk_iff l).1 hk).1
        obtain ⟨A, c, rfl, hA⟩ := h
        have HA := Lib.hid hA
        clear hA
        go_enter Tryz.func71, Tryz.ntmps71
        go_upto_region 4 with (first | (go_at_call 43; refine (ispansOk_any l _ _ H.out hl).mono ?_; rintro e w1 ⟨rfl, hb1⟩; rw [hk]) | (go_at_call 79; ((with_reducible refine (within_yes a _ _ _ (by omega) (by omega)).mono ?_); rintro e w' ⟨rfl, rfl⟩)) | (go_at_call 79; ((with_reducible refine (within_yes b _ _ _ (by omega) (by omega)).mono ?_); rintro e w' ⟨rfl, rfl⟩)))
        have hr0 : SRow w1 w.heap.size (.slice none 0 0) [] := RowK.nil _ _ _ _
        go_wp2
        go_loopw [7, 25] (fun o i wr => ∃ (j : Nat) (vo : Value), j ≤ l.length ∧ i = .int .i64 j ∧ vo = o ∧ SRow wr w.heap.size vo (spInner (l.take j) a b) ∧ Below w.heap.size w wr) (fun _ i _ => l.length - (intOf i).toNat)
        case atStart => exact ⟨0, _, by omega, rfl, rfl, by simpa [spInner] using hr0, hb1⟩
        case round =>
          clear hr0 hb1 ha hb
          obtain ⟨j, vo, hj, rfl, rfl, hr, hb⟩ := hrel
          by_cases hc : j < l.length
          · obtain ⟨b0, off, rfl, hf⟩ := HA.out (by omega)
            obtain ⟨c0, c1, c2, c3⟩ := (hf j hc).below hb
            clear hf
            have hle := Nat.le_trans (spInner_len (l.take j) a b) (by simp; omega : (l.take j).length ≤ 100000)
            go_upto_region 7 with fail
            refine (fun (k : ∀ wm, Has wm wr.heap.size #[.int .i64 l[j].f, .int .i64 l[j].t, .int .i64 l[j].i, .int .i64 l[j].o] 87 → SRow wm w.heap.size vo (spInner (l.take j) a b) → Below w.heap.size w wm → w.heap.size ≤ wr.heap.size → some wr.heap.size ≠ Value.ownBlock vo → Code.wp _ _ _ _ wm) => k _ ?_ ?_ ?_ ?_ ?_) ?_
            · (refine Has.as (by repeat' (first|with_reducible (first|assumption|apply J0|apply J1|apply J2|apply J3|apply J4|apply J5|apply J6|apply J7|apply J8|apply J9)|(with_reducible show _ ≠ _;first|omega|(simp;done)))) ?_; first | (with_reducible rfl) | (simp only [List.setIfInBounds_toArray, List.set_cons_zero, List.set_cons_succ]; first | done | rfl) | rfl | (simp; done))
            · exact hr.alloc _
            · repeat' (first|with_reducible (first|exact lowRefl _|apply lowSet|apply lowDrew|apply lowDrewN|apply lowAlloc)|(with_reducible refine lowCall ?_ (by assumption))|(show (_ : Nat) ≤ _;first|(simp;done)|(simp;omega)|omega))
            · exact hb.size
            · exact own_fresh hr.own
            generalize wr.heap.size = bX
            clear hb hr c0 c1 c2 c3 wr
            intro wr BX hr hb hbX hne
            have CX := Jc BX
            have FX := Jf BX
            by_cases h1 : l[j].f < a
            · by_cases h2 : b < l[j].t
              · go_upto_region 11 with fail
                (refine (fun (k : ∀ (F T I O : Int) wm, (if l[j].f < a then a else l[j].f) = F → (if b < l[j].t then b else l[j].t) = T → (if l[j].f < a then 0 else l[j].i) = I → (if b < l[j].t then 0 else l[j].o) = O → Has wm bX #[.int .i64 F, .int .i64 T, .int .i64 I, .int .i64 O] 87 → SRow wm w.heap.size vo (spInner (l.take j) a b) → Below w.heap.size w wm → Code.wp _ _ _ _ wm) => k a b 0 0 _ (by simp [h1]) (by simp [h2]) (by simp [h1]) (by simp [h2]) ?_ ?_ ?_) ?_; (focus (refine Has.as (by repeat' (first|with_reducible (first|assumption|apply J0|apply J1|apply J2|apply J3|apply J4|apply J5|apply J6|apply J7|apply J8|apply J9)|(with_reducible show _ ≠ _;first|omega|(simp;done)))) ?_; first | (with_reducible rfl) | (simp only [List.setIfInBounds_toArray, List.set_cons_zero, List.set_cons_succ]; first | done | rfl) | rfl | (simp; done))); (focus (repeat' (first | with_reducible exact hr | (with_reducible refine RowK.set ?_ hne)))); (focus repeat' (first|with_reducible (first|exact lowRefl _|apply lowSet|apply lowDrew|apply lowDrewN|apply lowAlloc)|(with_reducible refine lowCall ?_ (by assumption))|(show (_ : Nat) ≤ _;first|(simp;done)|(simp;omega)|omega))); clear hb hr CX FX BX wr; intro F T I O wr hF hT hI hO BX hr hb; have CX := Jc BX; have FX := Jf BX; have ⟨s1, s2⟩ := inner_step hc hF hT hI hO; have HS1 := Lib.hid s1; have HS2 := Lib.hid s2; clear s1 s2 hF hT hI hO)
                (by_cases hlt : F < T; (focus (have hle2 : w.heap.size ≤ wr.heap.size := hb.size; (go_wp2_with (at_builtin; refine append_sp wr rfl _ _ rfl w.heap.size _ _ _ _ _ _ _ hr rfl rfl (by omega) hle2 ?_; intro v2 w2 hr2 hg2)); rw [← HS1.out hlt] at hr2; have hb2 := (lowAlloc hb (.cells #[.int .i64 F, .int .i64 T, .int .i64 I, .int .i64 O] 87)).grown hg2 (by simp; omega) (fun g hg => (World.ownsRow.lt hr.own g hg).1); go_roundw; (case rel => exact ⟨j + 1, _, by omega, by go_num, rfl, hr2, hb2⟩); (case measure => simp [intOf]; omega))); (focus (rw [← HS2.out hlt] at hr; have hlt2 : decide (F < T) = false := decide_eq_false hlt; go_wp2; go_roundw; (case rel => exact ⟨j + 1, _, by omega, by go_num, rfl, hr, hb⟩); (case measure => simp [intOf]; omega))))
              · have h3 : decide (b < l[j].t) = false := decide_eq_false h2
                go_upto_region 11 with fail
                (refine (fun (k : ∀ (F T I O : Int) wm, (if l[j].f < a then a else l[j].f) = F → (if b < l[j].t then b else l[j].t) = T → (if l[j].f < a then 0 else l[j].i) = I → (if b < l[j].t then 0 else l[j].o) = O → Has wm bX #[.int .i64 F, .int .i64 T, .int .i64 I, .int .i64 O] 87 → SRow wm w.heap.size vo (spInner (l.take j) a b) → Below w.heap.size w wm → Code.wp _ _ _ _ wm) => k a l[j].t 0 l[j].o _ (by simp [h1]) (by simp [h2]) (by simp [h1]) (by simp [h2]) ?_ ?_ ?_) ?_; (focus (refine Has.as (by repeat' (first|with_reducible (first|assumption|apply J0|apply J1|apply J2|apply J3|apply J4|apply J5|apply J6|apply J7|apply J8|apply J9)|(with_reducible show _ ≠ _;first|omega|(simp;done)))) ?_; first | (with_reducible rfl) | (simp only [List.setIfInBounds_toArray, List.set_cons_zero, List.set_cons_succ]; first | done | rfl) | rfl | (simp; done))); (focus (repeat' (first | with_reducible exact hr | (with_reducible refine RowK.set ?_ hne)))); (focus repeat' (first|with_reducible (first|exact lowRefl _|apply lowSet|apply lowDrew|apply lowDrewN|apply lowAlloc)|(with_reducible refine lowCall ?_ (by assumption))|(show (_ : Nat) ≤ _;first|(simp;done)|(simp;omega)|omega))); clear hb hr CX FX BX wr; intro F T I O wr hF hT hI hO BX hr hb; have CX := Jc BX; have FX := Jf BX; have ⟨s1, s2⟩ := inner_step hc hF hT hI hO; have HS1 := Lib.hid s1; have HS2 := Lib.hid s2; clear s1 s2 hF hT hI hO)
                (by_cases hlt : F < T; (focus (have hle2 : w.heap.size ≤ wr.heap.size := hb.size; (go_wp2_with (at_builtin; refine append_sp wr rfl _ _ rfl w.heap.size _ _ _ _ _ _ _ hr rfl rfl (by omega) hle2 ?_; intro v2 w2 hr2 hg2)); rw [← HS1.out hlt] at hr2; have hb2 := (lowAlloc hb (.cells #[.int .i64 F, .int .i64 T, .int .i64 I, .int .i64 O] 87)).grown hg2 (by simp; omega) (fun g hg => (World.ownsRow.lt hr.own g hg).1); go_roundw; (case rel => exact ⟨j + 1, _, by omega, by go_num, rfl, hr2, hb2⟩); (case measure => simp [intOf]; omega))); (focus (rw [← HS2.out hlt] at hr; have hlt2 : decide (F < T) = false := decide_eq_false hlt; go_wp2; go_roundw; (case rel => exact ⟨j + 1, _, by omega, by go_num, rfl, hr, hb⟩); (case measure => simp [intOf]; omega))))
            · have h4 : decide (l[j].f < a) = false := decide_eq_false h1
              by_cases h2 : b < l[j].t
              · go_upto_region 11 with fail
                (refine (fun (k : ∀ (F T I O : Int) wm, (if l[j].f < a then a else l[j].f) = F → (if b < l[j].t then b else l[j].t) = T → (if l[j].f < a then 0 else l[j].i) = I → (if b < l[j].t then 0 else l[j].o) = O → Has wm bX #[.int .i64 F, .int .i64 T, .int .i64 I, .int .i64 O] 87 → SRow wm w.heap.size vo (spInner (l.take j) a b) → Below w.heap.size w wm → Code.wp _ _ _ _ wm) => k l[j].f b l[j].i 0 _ (by simp [h1]) (by simp [h2]) (by simp [h1]) (by simp [h2]) ?_ ?_ ?_) ?_; (focus (refine Has.as (by repeat' (first|with_reducible (first|assumption|apply J0|apply J1|apply J2|apply J3|apply J4|apply J5|apply J6|apply J7|apply J8|apply J9)|(with_reducible show _ ≠ _;first|omega|(simp;done)))) ?_; first | (with_reducible rfl) | (simp only [List.setIfInBounds_toArray, List.set_cons_zero, List.set_cons_succ]; first | done | rfl) | rfl | (simp; done))); (focus (repeat' (first | with_reducible exact hr | (with_reducible refine RowK.set ?_ hne)))); (focus repeat' (first|with_reducible (first|exact lowRefl _|apply lowSet|apply lowDrew|apply lowDrewN|apply lowAlloc)|(with_reducible refine lowCall ?_ (by assumption))|(show (_ : Nat) ≤ _;first|(simp;done)|(simp;omega)|omega))); clear hb hr CX FX BX wr; intro F T I O wr hF hT hI hO BX hr hb; have CX := Jc BX; have FX := Jf BX; have ⟨s1, s2⟩ := inner_step hc hF hT hI hO; have HS1 := Lib.hid s1; have HS2 := Lib.hid s2; clear s1 s2 hF hT hI hO)
                (by_cases hlt : F < T; (focus (have hle2 : w.heap.size ≤ wr.heap.size := hb.size; (go_wp2_with (at_builtin; refine append_sp wr rfl _ _ rfl w.heap.size _ _ _ _ _ _ _ hr rfl rfl (by omega) hle2 ?_; intro v2 w2 hr2 hg2)); rw [← HS1.out hlt] at hr2; have hb2 := (lowAlloc hb (.cells #[.int .i64 F, .int .i64 T, .int .i64 I, .int .i64 O] 87)).grown hg2 (by simp; omega) (fun g hg => (World.ownsRow.lt hr.own g hg).1); go_roundw; (case rel => exact ⟨j + 1, _, by omega, by go_num, rfl, hr2, hb2⟩); (case measure => simp [intOf]; omega))); (focus (rw [← HS2.out hlt] at hr; have hlt2 : decide (F < T) = false := decide_eq_false hlt; go_wp2; go_roundw; (case rel => exact ⟨j + 1, _, by omega, by go_num, rfl, hr, hb⟩); (case measure => simp [intOf]; omega))))
              · have h3 : decide (b < l[j].t) = false := decide_eq_false h2
                go_upto_region 11 with fail
                (refine (fun (k : ∀ (F T I O : Int) wm, (if l[j].f < a then a else l[j].f) = F → (if b < l[j].t then b else l[j].t) = T → (if l[j].f < a then 0 else l[j].i) = I → (if b < l[j].t then 0 else l[j].o) = O → Has wm bX #[.int .i64 F, .int .i64 T, .int .i64 I, .int .i64 O] 87 → SRow wm w.heap.size vo (spInner (l.take j) a b) → Below w.heap.size w wm → Code.wp _ _ _ _ wm) => k l[j].f l[j].t l[j].i l[j].o _ (by simp [h1]) (by simp [h2]) (by simp [h1]) (by simp [h2]) ?_ ?_ ?_) ?_; (focus (refine Has.as (by repeat' (first|with_reducible (first|assumption|apply J0|apply J1|apply J2|apply J3|apply J4|apply J5|apply J6|apply J7|apply J8|apply J9)|(with_reducible show _ ≠ _;first|omega|(simp;done)))) ?_; first | (with_reducible rfl) | (simp only [List.setIfInBounds_toArray, List.set_cons_zero, List.set_cons_succ]; first | done | rfl) | rfl | (simp; done))); (focus (repeat' (first | with_reducible exact hr | (with_reducible refine RowK.set ?_ hne)))); (focus repeat' (first|with_reducible (first|exact lowRefl _|apply lowSet|apply lowDrew|apply lowDrewN|apply lowAlloc)|(with_reducible refine lowCall ?_ (by assumption))|(show (_ : Nat) ≤ _;first|(simp;done)|(simp;omega)|omega))); clear hb hr CX FX BX wr; intro F T I O wr hF hT hI hO BX hr hb; have CX := Jc BX; have FX := Jf BX; have ⟨s1, s2⟩ := inner_step hc hF hT hI hO; have HS1 := Lib.hid s1; have HS2 := Lib.hid s2; clear s1 s2 hF hT hI hO)
                (by_cases hlt : F < T; (focus (have hle2 : w.heap.size ≤ wr.heap.size := hb.size; (go_wp2_with (at_builtin; refine append_sp wr rfl _ _ rfl w.heap.size _ _ _ _ _ _ _ hr rfl rfl (by omega) hle2 ?_; intro v2 w2 hr2 hg2)); rw [← HS1.out hlt] at hr2; have hb2 := (lowAlloc hb (.cells #[.int .i64 F, .int .i64 T, .int .i64 I, .int .i64 O] 87)).grown hg2 (by simp; omega) (fun g hg => (World.ownsRow.lt hr.own g hg).1); go_roundw; (case rel => exact ⟨j + 1, _, by omega, by go_num, rfl, hr2, hb2⟩); (case measure => simp [intOf]; omega))); (focus (rw [← HS2.out hlt] at hr; have hlt2 : decide (F < T) = false := decide_eq_false hlt; go_wp2; go_roundw; (case rel => exact ⟨j + 1, _, by omega, by go_num, rfl, hr, hb⟩); (case measure => simp [intOf]; omega))))
          · obtain rfl : j = l.length := by omega
            rw [List.take_length] at hr
            go_wp2
            go_ret
            exact ⟨_, rfl, hr, hb⟩
      · rw [spWithin_no (by omega)]
        have hb' : b < -1073741824 ∨ 1073741824 < b := by omega
        go_enter Tryz.func71, Tryz.ntmps71
        go_wp2_with (first | (go_at_call 43; refine (ispansOk_any l _ _ H.out hl).mono ?_; rintro e w1 ⟨rfl, hbq⟩; rw [hk]) | (go_at_call 79; ((with_reducible refine (within_yes a _ _ _ (by omega) (by omega)).mono ?_); rintro e w' ⟨rfl, rfl⟩)) | (go_at_call 79; ((with_reducible refine (within_no b _ _ _ hb').mono ?_); rintro e w' ⟨rfl, rfl⟩)))
        go_ret
        exact ⟨_, rfl, RowK.nil _ _ _ _, hbq⟩
    · rw [spWithin_no (by omega)]
      have ha' : a < -1073741824 ∨ 1073741824 < a := by omega
      go_enter Tryz.func71, Tryz.ntmps71
      go_wp2_with (first | (go_at_call 43; refine (ispansOk_any l _ _ H.out hl).mono ?_; rintro e w1 ⟨rfl, hbq⟩; rw [hk]) | (go_at_call 79; ((with_reducible refine (within_no a _ _ _ ha').mono ?_); rintro e w' ⟨rfl, rfl⟩)))
      go_ret
      exact ⟨_, rfl, RowK.nil _ _ _ _, hbq⟩
end Go.Proofs.YtegibpepdndocabGreat
