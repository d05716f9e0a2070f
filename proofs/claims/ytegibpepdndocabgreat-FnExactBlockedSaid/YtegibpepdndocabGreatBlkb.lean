import Derived.Test.YtegibpepdndocabGreatMotLb
import Derived.Test.YtegibpepdndocabGreatShgb
section
namespace Go.Proofs.YtegibpepdndocabGreat
open Go Go.RowKit

/- A region whose order is open: held operations (a mask tells which), two calls that make memory of their own, one behind the other; behind these, one after another, the rest. -/
section
variable {P : Program} {ops : Array Oper} {Q : Exit → Act → World → Prop} {md : Region.Mode} {S : World → Prop}
def duoB (md : Region.Mode) (ops : Array Oper) (n0 ip iq : Nat) (listed : Array Bool) : Bool :=
  decide (Region.ready md ops listed = [ip]) && decide (Region.ready md ops (listed.setIfInBounds ip true) = [iq]) && seenB n0 ((listed.setIfInBounds ip true).setIfInBounds iq true) && linB md ops (ops.size - n0) n0 ((listed.setIfInBounds ip true).setIfInBounds iq true)
def DuoK (P : Program) (ops : Array Oper) (Q : Exit → Act → World → Prop) (S : World → Prop) (op oq : Oper) (tl : List Oper) (a : Act) : Prop :=
  ∃ (R : Value → World → Prop) (T : Value → Value → World → Prop), (∀ v w1 w2, R v w1 → Below w1.heap.size w1 w2 → R v w2) ∧ (∀ v u w1 w2, T v u w1 → Below w1.heap.size w1 w2 → T v u w2) ∧
    Region.wanted op (yielded ops a.tmps) = true ∧ (∀ v, Region.wanted oq (yielded ops (a.put op.dst v).tmps) = true) ∧
    (∀ w, S w → ∀ K : Value → World → Prop, (∀ v w', Below w.heap.size w w' → R v w' → K v w') → VGo P K ((execOp a.eval op).run P w)) ∧
    (∀ v w, S w → R v w → ∀ K : Value → World → Prop, (∀ u w', Below w.heap.size w w' → T v u w' → K u w') → VGo P K ((execOp (a.put op.dst v).eval oq).run P w)) ∧
    ∀ v u w, S w → T v u w → wpList P ops Q tl ((a.put op.dst v).put oq.dst u) w
theorem held_duo {n0 ip iq : Nat} {op oq : Oper} {tl : List Oper} {listed : Array Bool} {a : Act} (hstab : ∀ w w', S w → Below w.heap.size w w' → S w')
    (hop : ops[ip]? = some op) (hoq : ops[iq]? = some oq) (htl : ∀ j, j < ops.size - n0 → tl[j]? = ops[n0 + j]?) (hlen : tl.length = ops.size - n0)
    (hB : duoB md ops n0 ip iq listed = true) (h : DuoK P ops Q S op oq tl a) (w : World) (hS : S w) : heldN P md ops Q S n0 2 listed a w := by
  simp only [duoB, Bool.and_eq_true, decide_eq_true_eq] at hB
  obtain ⟨⟨⟨hr, hr1⟩, hs⟩, hlin⟩ := hB
  obtain ⟨R, T, hR, hT, hw, hw2, hcall, hcall2, htail⟩ := h
  refine ⟨by rw [hr]; simp, hS, fun _ => True, fun _ _ _ _ => trivial, trivial, fun w1 hS1 _ j hj => ?_⟩
  rw [hr] at hj
  have hin : j = ip := by simpa using hj
  subst hin
  unfold wpOp
  simp only [hop, hw, if_true]
  refine .inl (upon_VGo2 (hcall w1 hS1 _ fun v w2 hb hRv => ?_))
  have hS2 := hstab _ _ hS1 hb
  refine ⟨by rw [hr1]; simp, hS2, R v, fun w3 w4 h5 k => hR v _ _ h5 k, hRv, fun w3 hS3 hR3 i hi => ?_⟩
  rw [hr1] at hi
  have hin : i = iq := by simpa using hi
  subst hin
  unfold wpOp
  simp only [hoq, hw2 v, if_true]
  refine .inl (upon_VGo2 (hcall2 v w3 hS3 hR3 _ fun u w4 hb4 hRu => ?_))
  have hS4 := hstab _ _ hS3 hb4
  exact ⟨fun k hk => seenB_spec hs hk, hS4, T v u, fun w5 w6 h7 k => hT v u _ _ h7 k, hRu, fun w5 hS5 hR5 => lin_any _ n0 _ _ w5 tl htl hlen hlin (htail v u w5 hS5 hR5)⟩
end
def heldGB (ops : Array Oper) (m : List Bool) (ip iq : Nat) : Bool :=
  Region.noSelect ops && tailWaits .any ops m.length && decide (m.length ≤ ops.size) && decide ((maskI 0 m).length + 2 = m.length) &&
  headN .any ops m.length (duoB .any ops m.length ip iq) (maskI 0 m) (Array.replicate ops.size false)
theorem wp_region_heldG {P : Program} {Q : Exit → Act → World → Prop} {id : Nat} {a : Act} {w : World} {l : List Oper} {op oq : Oper} (m : List Bool) (ip iq : Nat) (hm : P.follows .mixedOrders = true) (hB : heldGB l.toArray m ip iq = true)
    (hop : l[ip]? = some op) (hoq : l[iq]? = some oq) (hQ : ∀ c a w (d : Option Tmp) (v : Value), Q (.panic c) (a.put d v) w → Q (.panic c) a w)
    (h : ∀ Fin : Act → Prop, (∀ a', DuoK P l.toArray Q (Below w.drew.heap.size w.drew) op oq (l.drop m.length) a' → Fin a') →
      wpHeld P l.toArray (Below w.drew.heap.size w.drew) Fin (maskL m l) a) : (Code.region id l.toArray true).wp P Q a w := by
  replace h := h _ (fun _ hf => hf)
  simp only [heldGB, Bool.and_eq_true, decide_eq_true_eq] at hB
  obtain ⟨⟨⟨⟨hsel, htw⟩, hle⟩, hlen⟩, hh⟩ := hB
  have hsz : l.toArray.size = l.length := by simp
  have e1 := mask_map (ops := l.toArray) m l 0 (by omega) (fun j hj => by simp)
  refine wp_region_any hm ?_
  have := heldN_lex (md := .any) (P := P) (ops := l.toArray) (Q := Q) (S := Below w.drew.heap.size w.drew) (g := 2) (T := duoB .any l.toArray m.length ip iq) (F := fun _ => True) (fun _ _ _ _ => trivial) (below_stab w.drew) hsel htw hQ
    (Fin := DuoK P l.toArray Q (Below w.drew.heap.size w.drew) op oq (l.drop m.length))
    (fun listed a' _ hT hf w' hS _ => held_duo (below_stab w.drew) (by simpa using hop) (by simpa using hoq) (fun j hj => by rw [List.getElem?_drop]; simp) (by simp) hT hf w' hS)
    (maskI 0 m) (maskL m l) (Array.replicate l.toArray.size false) a closed_none e1 hh h w.drew (Below.refl _ _) trivial
  have h2 := wpAny_of_heldN _ _ _ _ this
  rw [hlen, show m.length + (l.toArray.size - m.length) = l.toArray.size by omega] at h2
  exact h2
end Go.Proofs.YtegibpepdndocabGreat
end
section
namespace Go.Proofs.YtegibpepdndocabGreat
open Go.ChangeShapes Go.WideShapes Go.ChangeAt Go.RowKit
set_option linter.unusedSimpArgs false
set_option linter.unusedVariables false
set_option maxHeartbeats 4000000

attribute [local go_sem] VGo_value VGo_skip VGo_enter
attribute [-go_sem] callMethod
attribute [-go_sem] loadVar storeVar
attribute [local go_sem] lvA svA lvVec lvHalf lvBall lvBox lvMot lvRayI
abbrev Farb (t : Int) : Prop := -1073741824 ≤ t ∧ t ≤ 1073741824
/- something of a solid lies between two parts of a ray -/
def BlkP (l : List Pt) (r : Sx) (a b : Int) : Prop := CutOk l r ∧ Farb a ∧ Farb b ∧ 0 < (spInner (sct l r) a b).length
theorem sct_good {l : List Pt} {r : Sx} (h : CutOk l r) : sOk (sct l r) = true ∧ (sct l r).length ≤ 24 := by
  have hS := h.1
  have h24 := hS.1.1.2
  have h0 := hS.1.1.1
  have hlen := lvs_len l
  have e : sct l r = (shp (lvs l) (l.length - 1)).sp r := by unfold sct; rw [dec_yes h, if_pos rfl]
  have h1 := sp_len r (shp (lvs l) (l.length - 1))
  have h2 := nl_le hS (l.length - 1) (by omega)
  have hok : (shp (lvs l) (l.length - 1)).ok := shp_ok (wf_lvs hS) (l.length - 1 + 1) (l.length - 1) (by omega) (by omega)
  have hsf : (shp (lvs l) (l.length - 1)).sfc := shp_sfc (wf_lvs hS) (by omega) (l.length - 1 + 1) (l.length - 1) (by omega) (by omega)
  have h3 := sp_good r h.2 _ hok hsf
  rw [e]
  exact ⟨sOk_true ⟨by omega, h3⟩, by omega⟩
theorem sct_none {l : List Pt} {r : Sx} (h : ¬ CutOk l r) : sct l r = [] := by unfold sct; rw [dec_no h, if_neg (by simp)]
theorem blk_len {l : List Pt} {r : Sx} {a b : Int} : decide (0 < (spWithin (sct l r) a b).length) = dec (BlkP l r a b) := by
  by_cases hc : CutOk l r
  · have hg := sct_good hc
    by_cases hf : Farb a ∧ Farb b
    · rw [spWithin_yes ⟨hg.1, hf.1.1, hf.1.2, hf.2⟩]
      by_cases hp : 0 < (spInner (sct l r) a b).length
      · rw [decide_eq_true hp, dec_yes (show BlkP l r a b from ⟨hc, hf.1, hf.2, hp⟩)]
      · rw [decide_eq_false hp, dec_no (fun h : BlkP l r a b => hp h.2.2.2)]
    · rw [spWithin_no (fun h => hf ⟨⟨h.2.1, h.2.2.1⟩, h.2.2.2⟩), dec_no (fun h : BlkP l r a b => hf ⟨h.2.1, h.2.2.1⟩)]; rfl
  · rw [sct_none hc, dec_no (fun h : BlkP l r a b => hc h.1)]
    unfold spWithin
    split <;> rfl
set_option maxRecDepth 100000 in
theorem iBlocked_any (l : List Pt) (v : Value) (r : Sx) (a b : Int) (w : World) (hl : PIn w v l) (hn : l.length ≤ 1048576) :
    Calls Tryz.prog 23 #[v, r.val, .int .i64 a, .int .i64 b] w fun e w' => e = .returned (.bool (dec (BlkP l r a b))) ∧ Below w.heap.size w w' := by
  have HL := Lib.hid hl
  clear hl
  rw [← blk_len]
  have h24 : (sct l r).length ≤ 24 := by
    by_cases hc : CutOk l r
    · exact (sct_good hc).2
    · rw [sct_none hc]; simp
  have HC : Hid (∀ w, PIn w v l → Calls Tryz.prog 35 #[v, r.val] w fun e w' => ∃ u, e = .returned u ∧ SRow w' w.heap.size u (sct l r) ∧ Below w.heap.size w w') := Lib.hid fun w h => iSolidCut_any l v r w h hn
  generalize sct l r = s at *
  go_enter Tryz.func23, Tryz.ntmps23
  go_wp2_with (first | (go_at_call 35; (with_reducible refine (HC.out _ (HL.out.below (lowAlloc (lowRefl w) _))).mono ?_); rintro e w1 ⟨u, rfl, ru, hb1⟩) | (go_at_call 71; (with_reducible refine (ispansWithin_any s u a b _ (SRow.seen ru) (by omega)).mono ?_); rintro e w2 ⟨u2, rfl, ru2, hb2⟩; obtain ⟨A2, c2, hv2, _⟩ := SRow.shape0 ru2; subst hv2))
  have hL := lowCall (lowCall (lowAlloc (lowRefl w) _) hb1) hb2
  go_ret
  exact ⟨by first | rfl | (simp; done) | (simp; omega), hL⟩
theorem l8Asked_any (l : List Pt) (v : Value) (r : Sx) (t : Int) (w : World) (hl : PIn w v l) (hn : l.length ≤ 1048576) :
    Calls Tryz.prog 82 #[v, r.val, .int .i64 t] w fun e w' => e = .returned (.bool (dec (CutOk l r ∧ Farb t))) ∧ Below w.heap.size w w' := by
  have HL := Lib.hid hl
  have HC : Hid (∀ w, PIn w v l → Calls Tryz.prog 39 #[v] w fun e w' => e = .returned (.bool (dec (SolidP l))) ∧ Below w.heap.size w w') := Lib.hid fun w h => sSolidOk_any l v w h hn
  clear hl
  by_cases hS : SolidP l
  · rw [dec_yes hS] at HC
    by_cases hv : Rok r.a r.b r.c r.d r.e r.f
    · have HV := Lib.hid hv
      by_cases hf : Farb t
      · rw [dec_yes (show CutOk l r ∧ Farb t from ⟨⟨hS, hv⟩, hf⟩)]
        clear hS hv
        obtain ⟨f1, f2⟩ := hf
        go_enter Tryz.func82, Tryz.ntmps82
        go_wp2_with (first | (go_at_call 39; (with_reducible refine (HC.out _ (HL.out.below (lowAlloc (lowRefl w) _))).mono ?_); rintro e w' ⟨rfl, hbq⟩; have B0 := (Has.new w _ _).below hbq; have C0 := Has.cell B0) | (go_at_call 67; ((with_reducible refine (srayOk_yes _ _ _ _ _ _ _ HV.out).mono ?_); rintro e w2 ⟨rfl, hbq⟩)) | (go_at_call 72; ((with_reducible refine (l1In_yes _ _ _ _ (by omega) (by omega)).mono ?_); rintro e w' ⟨rfl, rfl⟩)))
        go_ret; refine ⟨rfl, ?_⟩; (repeat' (first|with_reducible (first|exact lowRefl _|apply lowSet|apply lowDrew|apply lowDrewN|apply lowAlloc)|(with_reducible refine lowCall ?_ (by assumption))|(show (_ : Nat) ≤ _;first|(simp;done)|(simp;omega)|omega)))
      · rw [dec_no (fun h : CutOk l r ∧ Farb t => hf h.2)]
        have hf' : t < -1073741824 ∨ 1073741824 < t := by unfold Farb at hf; omega
        clear hS hv hf
        go_enter Tryz.func82, Tryz.ntmps82
        go_wp2_with (first | (go_at_call 39; (with_reducible refine (HC.out _ (HL.out.below (lowAlloc (lowRefl w) _))).mono ?_); rintro e w' ⟨rfl, hbq⟩; have B0 := (Has.new w _ _).below hbq; have C0 := Has.cell B0) | (go_at_call 67; ((with_reducible refine (srayOk_yes _ _ _ _ _ _ _ HV.out).mono ?_); rintro e w2 ⟨rfl, hbq⟩)) | (go_at_call 72; ((with_reducible refine (l1In_no _ _ _ _ hf').mono ?_); rintro e w' ⟨rfl, rfl⟩)))
        go_ret; refine ⟨rfl, ?_⟩; (repeat' (first|with_reducible (first|exact lowRefl _|apply lowSet|apply lowDrew|apply lowDrewN|apply lowAlloc)|(with_reducible refine lowCall ?_ (by assumption))|(show (_ : Nat) ≤ _;first|(simp;done)|(simp;omega)|omega)))
    · rw [dec_no (fun h : CutOk l r ∧ Farb t => hv h.1.2)]
      have HV := Lib.hid hv
      clear hS hv
      go_enter Tryz.func82, Tryz.ntmps82
      go_wp2_with (first | (go_at_call 39; (with_reducible refine (HC.out _ (HL.out.below (lowAlloc (lowRefl w) _))).mono ?_); rintro e w' ⟨rfl, hbq⟩; have B0 := (Has.new w _ _).below hbq; have C0 := Has.cell B0) | (go_at_call 67; ((with_reducible refine (srayOk_no _ _ _ _ _ _ _ HV.out).mono ?_); rintro e w2 ⟨rfl, hbq⟩)))
      go_ret; refine ⟨rfl, ?_⟩; (repeat' (first|with_reducible (first|exact lowRefl _|apply lowSet|apply lowDrew|apply lowDrewN|apply lowAlloc)|(with_reducible refine lowCall ?_ (by assumption))|(show (_ : Nat) ≤ _;first|(simp;done)|(simp;omega)|omega)))
  · rw [dec_no hS] at HC
    rw [dec_no (fun h : CutOk l r ∧ Farb t => hS h.1.1)]
    clear hS
    go_enter Tryz.func82, Tryz.ntmps82
    go_wp2_with (go_at_call 39; (with_reducible refine (HC.out _ (HL.out.below (lowAlloc (lowRefl w) _))).mono ?_); rintro e w' ⟨rfl, hbq⟩; have B0 := (Has.new w _ _).below hbq; have C0 := Has.cell B0)
    go_ret; refine ⟨rfl, ?_⟩; (repeat' (first|with_reducible (first|exact lowRefl _|apply lowSet|apply lowDrew|apply lowDrewN|apply lowAlloc)|(with_reducible refine lowCall ?_ (by assumption))|(show (_ : Nat) ≤ _;first|(simp;done)|(simp;omega)|omega)))
set_option maxRecDepth 100000 in
theorem sBlocked_any (l : List Pt) (v : Value) (r : Sx) (a b : Int) (w : World) (hl : PIn w v l) (hn : l.length ≤ 1048576) :
    Calls Tryz.prog 21 #[v, r.val, .int .i64 a, .int .i64 b] w fun e w' => e = .returned (.bool (dec (BlkP l r a b))) ∧ Below w.heap.size w w' := by
  obtain ⟨A, c, rfl, -⟩ := id hl
  have HL := Lib.hid hl
  have HC : Hid (∀ w, PIn w (.slice A l.length c) l → Calls Tryz.prog 82 #[.slice A l.length c, r.val, .int .i64 a] w fun e w' => e = .returned (.bool (dec (CutOk l r ∧ Farb a))) ∧ Below w.heap.size w w') := Lib.hid fun w h => l8Asked_any l _ r a w h hn
  clear hl
  by_cases hc : CutOk l r ∧ Farb a
  · rw [dec_yes hc] at HC
    by_cases hf : Farb b
    · obtain ⟨hS, hv⟩ := hc.1
      obtain ⟨m, hm⟩ : ∃ m, l.length = m + 1 := ⟨l.length - 1, by have := hS.1.1.1; omega⟩
      have e1 : sct l r = (shp (lvs l) m).sp r := by unfold sct; rw [dec_yes hc.1, if_pos rfl, show l.length - 1 = m by omega]
      have h24 := (sct_good hc.1).2
      have HR : Hid (decide (0 < (spInner (sct l r) a b).length) = dec (BlkP l r a b)) := Lib.hid (by
        by_cases hp : 0 < (spInner (sct l r) a b).length
        · rw [decide_eq_true hp, dec_yes (show BlkP l r a b from ⟨hc.1, hc.2, hf, hp⟩)]
        · rw [decide_eq_false hp, dec_no (fun h : BlkP l r a b => hp h.2.2.2)])
      rw [← HR.out]
      clear HR
      rw [e1] at h24 ⊢
      have HF : Hid (SForm l) := Lib.hid (SForm.solid hS)
      have HM := Lib.hid hS.2.1
      have hl24 := hS.1.1.2
      have HH := Lib.hid (fun v w (h : PIn w v (lvs l)) => l7Spans_any (lvs l) v r hv (wf_lvs hS) (by rw [lvs_len]; omega) (fun i hi => by rw [lvs_len] at hi; have := nl_le hS i hi; omega) (m + 1) m (by omega) (by rw [lvs_len]; omega) w h)
      have hmi : (l.length : Int) - 1 = m := by omega
      obtain ⟨f1, f2⟩ := hf
      clear hS hv hm hl24 hc e1
      generalize (shp (lvs l) m).sp r = s at *
      go_enter Tryz.func21, Tryz.ntmps21
      go_upto_region 3 with (first | (go_at_call 82; (with_reducible refine (HC.out _ (HL.out.below (lowAlloc (lowRefl w) _))).mono ?_); rintro e w' ⟨rfl, hbq⟩; have B0 := (Has.new w _ _).below hbq; have C0 := Has.cell B0) | (go_at_call 72; ((with_reducible refine (l1In_yes _ _ _ _ (by omega) (by omega)).mono ?_); rintro e w' ⟨rfl, rfl⟩)))
      have hL : Below w.heap.size w w' := by repeat' (first|with_reducible (first|exact lowRefl _|apply lowSet|apply lowDrew|apply lowDrewN|apply lowAlloc)|(with_reducible refine lowCall ?_ (by assumption))|(show (_ : Nat) ≤ _;first|(simp;done)|(simp;omega)|omega))
      have HL2 := Lib.hid (HL.out.below hL)
      clear hbq C0
      refine wp_region_heldG [true, false, true, true, true, true, false, true, true] 1 6 (by kernel_rfl) (by kernel_rfl) rfl rfl (fun _ _ _ d _ h => by cases d <;> exact h) ?_
      intro Fq hFq
      simp only [maskL]
      repeat (first | (refine wpHeld_skip (by rfl) ?_; ((try simp only [Act.put, List.setIfInBounds_toArray, List.set_cons_zero, List.set_cons_succ]))) | (refine wpHeld_run ?_ rfl ?_ ?_; rotate_left; (focus (intro w' hbq Kq hKq; go_simp; (try (rw [IntWalk.i64_in]; rotate_left; focus (constructor <;> omega))); first | exact hKq _ (Below.refl _ _) | (have C0 := Has.cell (B0.below (undrew hbq)); go_simp; exact hKq _ (Below.refl _ _)))); ((try simp only [Act.put, List.setIfInBounds_toArray, List.set_cons_zero, List.set_cons_succ]))))
      refine wpHeld_nil (hFq _ ⟨fun v w1 => PRow w1 w.heap.size v (lvs l), fun _ u w1 => SRow w1 w.heap.size u s, fun v w1 w2 h k => RowK.below h k, fun _ u w1 w2 h k => RowK.below h k, rfl, fun _ => rfl, ?_, ?_, ?_⟩)
      · intro w2 hS2 K hK
        go_simp
        go_at_call 85; (with_reducible refine (l7Leaves_any l _ _ (HL2.out.below (undrew hS2)) HF.out HM.out).mono ?_); rintro e w3 ⟨vc, rfl, hr, hb⟩
        refine back ?_
        exact hK _ _ hb (RowK.mono hr (Nat.le_trans hL.size hS2.size))
      · intro vc w2 hS2 hr K hK
        have hr : PRow w2 w.heap.size vc (lvs l) := hr
        go_simp
        go_at_call 84; (with_reducible refine (HH.out _ _ (PRow.seen hr)).mono ?_); rintro e w3 ⟨u, rfl, ru, hb3⟩
        refine back ?_
        exact hK _ _ hb3 (RowK.mono ru (Nat.le_trans hL.size hS2.size))
      · intro vc u w2 hS2 hr
        have hr : SRow w2 w.heap.size u s := hr
        have hL2 := lowCall hL (undrew hS2)
        clear hFq
        simp only [List.length_cons, List.length_nil, Nat.zero_add, Nat.reduceAdd, List.drop_succ_cons, List.drop_zero]
        go_wp2_with (go_at_call 83; (with_reducible refine (l5Within_any s u a b _ (SRow.seen hr) (by omega)).mono ?_); rintro e w3 ⟨u2, rfl, ru2, hb3⟩; obtain ⟨A2, c2, hv2, _⟩ := SRow.shape0 ru2; subst hv2)
        go_ret
        exact ⟨by first | rfl | (simp; done) | (simp; omega), lowCall hL2 hb3⟩
    · rw [dec_no (fun h : BlkP l r a b => hf h.2.2.1)]
      have hf' : b < -1073741824 ∨ 1073741824 < b := by unfold Farb at hf; omega
      clear hf hc
      go_enter Tryz.func21, Tryz.ntmps21
      go_wp2_with (first | (go_at_call 82; (with_reducible refine (HC.out _ (HL.out.below (lowAlloc (lowRefl w) _))).mono ?_); rintro e w' ⟨rfl, hbq⟩; have B0 := (Has.new w _ _).below hbq; have C0 := Has.cell B0) | (go_at_call 72; ((with_reducible refine (l1In_no _ _ _ _ hf').mono ?_); rintro e w' ⟨rfl, rfl⟩)))
      go_ret; refine ⟨rfl, ?_⟩; (repeat' (first|with_reducible (first|exact lowRefl _|apply lowSet|apply lowDrew|apply lowDrewN|apply lowAlloc)|(with_reducible refine lowCall ?_ (by assumption))|(show (_ : Nat) ≤ _;first|(simp;done)|(simp;omega)|omega)))
  · rw [dec_no hc] at HC
    rw [dec_no (fun h : BlkP l r a b => hc ⟨h.1, h.2.1⟩)]
    clear hc
    go_enter Tryz.func21, Tryz.ntmps21
    go_wp2_with (go_at_call 82; (with_reducible refine (HC.out _ (HL.out.below (lowAlloc (lowRefl w) _))).mono ?_); rintro e w' ⟨rfl, hbq⟩; have B0 := (Has.new w _ _).below hbq; have C0 := Has.cell B0)
    go_ret; refine ⟨rfl, ?_⟩; (repeat' (first|with_reducible (first|exact lowRefl _|apply lowSet|apply lowDrew|apply lowDrewN|apply lowAlloc)|(with_reducible refine lowCall ?_ (by assumption))|(show (_ : Nat) ≤ _;first|(simp;done)|(simp;omega)|omega)))
end Go.Proofs.YtegibpepdndocabGreat
end
