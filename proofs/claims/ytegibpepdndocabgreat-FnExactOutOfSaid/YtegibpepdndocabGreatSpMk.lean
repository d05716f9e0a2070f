import Derived.Test.YtegibpepdndocabGreatSpFk
namespace Go.Proofs.YtegibpepdndocabGreat
open Go.ChangeShapes Go.WideShapes Go.ChangeAt Go.RowKit
set_option linter.unusedSimpArgs false
set_option linter.unusedVariables false
set_option maxHeartbeats 2000000

attribute [local go_sem] VGo_value VGo_skip VGo_enter
attribute [local go_sem] Pt.arr0 Pt.arr1 Pt.arr2 Pt.arr3 Pt.arr4 Pt.arr5 Pt.arr6 Pt.arr7 Pt.arr8 Pt.arr9 Pt.arr10 Pt.arr11 Pt.arr12 Pt.arr13 Pt.arr14 Pt.arr15 Pt.arr16 Pt.arr17 Pt.arr18 Pt.arr19 Pt.arr20 Pt.arr21 Pt.arr22 Pt.arr23 Pt.arr24 Pt.arr25 Pt.arr26
attribute [-go_sem] loadVar storeVar
attribute [local go_sem] lvA svA
attribute [local go_sem high] ptLoadNew ptStoreNew moStoreNew
theorem grownRow2 (V : World) (b : Nat) (cs : Array Value) : V.grownBy (V.setRow b cs) (some b) :=
  ⟨rfl, rfl, rfl, by simp, fun k _ hk => setRow_other V b k cs (fun e => hk (by rw [e]))⟩
/- rows of motions -/
abbrev MRo (w : World) (B : Nat) (v : Value) (n : Nat) (J : Nat → Mo) : Prop := RowK w B 47 9 v ((List.range n).map fun i => (J i).cells)
theorem infoMo : (Tryz.prog.info? 47).map (fun i => (i.zero, i.size, i.bytes)) = some (some Mo.zero.val, 9, 56) := by kernel_rfl
theorem MRo.load {w : World} {B g n c : Nat} {J : Nat → Mo} (h : MRo w B (.slice (some ⟨g, 0, none⟩) n c) n J) (i : Nat) (hi : i < n) :
    (Go.loadVar 47 ⟨g, i * 9, none⟩).run Tryz.prog w = .ok (J i).val w :=
  run_loadVar_mid w g (i * 9) _ (J i).cells _ (fun j v hj => by
    have hj9 : j < 9 := (List.getElem?_eq_some_iff.1 hj).1
    rw [RowK.cell h (by simp) i j (by simpa using hi) hj9]; simpa using hj) Tryz.underlying47 rfl moSize
theorem MRo.storeAt {w : World} {B g n c : Nat} {J : Nat → Mo} (h : MRo w B (.slice (some ⟨g, 0, none⟩) n c) n J) (i : Nat) (k : Int) (hk : (i : Int) = k) (hi : i < n) (m : Mo) :
    (Go.storeVar 47 ⟨g, i * 9, none⟩ m.val).run Tryz.prog w = .ok () (w.setCells g (i * 9) m.cells) ∧
    MRo (w.setCells g (i * 9) m.cells) B (.slice (some ⟨g, 0, none⟩) n c) n (updM J k m) ∧ w.grownBy (w.setCells g (i * 9) m.cells) (some g) := by
  have hlen : n = ((List.range n).map fun i => (J i).cells).length := by simp
  refine ⟨?_, ?_⟩
  · exact run_storeVar_mid (P := Tryz.prog) w g (i * 9) _ m.cells.toArray (fun j hj => ⟨by
      have hj9 : j < 9 := hj
      rw [RowK.cell h hlen i j (by simpa using hi) hj9]
      have : j < (((List.range n).map fun i => (J i).cells)[i]'(by simpa using hi)).length := by simp [Mo.cells]; exact hj9
      rw [List.getElem?_eq_getElem this]; rfl, RowK.frozen h hlen _⟩) moSize (all_oneCell_toArray m.one)
  · have hs := RowK.storeAll m.cells 0 w _ i _ h hlen (by simpa using hi) rfl rfl
    rw [setAll_cells, Nat.add_zero, List.take_zero, List.nil_append] at hs
    have e : ((List.range n).map fun i => (J i).cells).set i m.cells = (List.range n).map fun x => (updM J k m x).cells := by
      apply List.ext_getElem
      · simp
      · intro x hx hy
        simp only [List.length_map, List.length_range] at hy
        by_cases h2 : i = x
        · subst h2
          simp [updM, hk]
        · rw [List.getElem_set_ne h2]
          simp [updM, show ¬ (x : Int) = k by omega]
    rw [e] at hs
    exact hs
/- the motions of the model are never far out -/
def Mo.far (m : Mo) (t : Nat) : Prop := Perm m.a m.b m.c ∧ Vok m.p m.q m.r (400 * t + 400)
theorem tog_far {o m : Mo} {t : Nat} (ho : o.ok) (hm : m.far t) : (tog o m).far (t + 1) := by
  refine ⟨tog_perm o m ho.1 hm.1, ?_⟩
  have h1 := tu3_vok (p := m.a) (q := m.b) (r := m.c) (k := m.k) (l := m.l) (n := m.n) ho.2
  have h2 := hm.2
  show Vok (tu _ _ _ _ _ + m.p) (tu _ _ _ _ _ + m.q) (tu _ _ _ _ _ + m.r) _
  unfold Vok at *
  omega
theorem far_up {m : Mo} {t : Nat} (h : m.far t) : m.far (t + 1) := ⟨h.1, by have := h.2; unfold Vok at *; omega⟩
theorem rest_far : Mo.rest.far 0 := ⟨.inl ⟨rfl, rfl, rfl⟩, by simp [Mo.rest, Vok]⟩
theorem jn_far {l : List Pt} (h6 : ∀ i, i < l.length → (pa l i).k = 6 → (pa l i).m.ok) : ∀ t, t ≤ l.length → ∀ i, (Jn Mo.rest l t i).far t
  | 0, _, i => by
    simp only [Jn]
    split <;> exact rest_far
  | t + 1, ht, i => by
    have ih := jn_far h6 t (by omega)
    simp only [Jn]
    by_cases hm : (i : Int) ∈ made (pa l (l.length - 1 - t))
    · rw [spread_in _ _ (.inl hm)]
      unfold own
      split
      · rename_i hk; exact tog_far (h6 _ (by omega) hk) (ih _)
      · exact far_up (ih _)
    · rw [spread_out _ _ hm]
      exact far_up (ih i)
theorem l3TogetherX (o m : Mo) (w : World) (ho : o.ok) (hm : Perm m.a m.b m.c ∧ Vok m.p m.q m.r 100000) : Calls Tryz.prog 169 #[o.val, m.val] w fun e w' => e = .returned ((tog o m).val) ∧ Below w.heap.size w w' :=
  l3TogetherW o.a o.b o.c o.k o.l o.n o.p o.q o.r m.a m.b m.c m.k m.l m.n m.p m.q m.r _ _ _ _ _ _ _ _ _ w ho hm ⟨rfl, rfl, rfl⟩ (togE o m)
theorem smotOk_any (m : Mo) (w : World) : Calls Tryz.prog 167 #[m.val] w fun e w' => e = .returned (.bool (dec m.ok)) ∧ Below w.heap.size w w' := by
  by_cases h : m.ok
  · rw [dec_yes h]; exact smotOk_yes _ _ _ _ _ _ _ _ _ w h
  · rw [dec_no h]; exact smotOk_no _ _ _ _ _ _ _ _ _ w h
/- whether the motions of the last t parts are ones -/
def OkT (l : List Pt) (t : Nat) : Prop := ∀ j, j < l.length → l.length - t ≤ j → MOk l j
theorem range_rest (n : Nat) : (List.range (n + 1)).map (fun (_ : Nat) => Mo.rest.cells) = (List.range n).map (fun (_ : Nat) => Mo.rest.cells) ++ [Mo.rest.cells] := by simp [List.range_succ]
set_option maxRecDepth 100000 in
theorem l7Motions_any (l : List Pt) (v : Value) (w : World) (hl : PIn w v l) (hF : SForm l) : Calls Tryz.prog 97 #[v] w fun e w' => ∃ v', e = .returned (.tuple #[v', .bool (dec (∀ i, i < l.length → MOk l i))]) ∧ MRo w' w.heap.size v' l.length (Jn Mo.rest l l.length) ∧ Below w.heap.size w w' := by
  have h1 : 1 ≤ l.length := hF.1.1.1
  have h24 : l.length ≤ 24 := hF.1.1.2
  obtain ⟨A, c, rfl, hf⟩ := hl
  obtain ⟨b, off, rfl, hr⟩ := hf h1
  have HR := Lib.hid hr
  have HF := Lib.hid hF
  clear hr hF hf
  go_enter Tryz.func97, Tryz.ntmps97
  go_wp2
  go_loopw [4, 5] (fun o i wr => ∃ j : Nat, j ≤ l.length ∧ i = .int .i64 j ∧ MRo wr w.heap.size o j (fun _ => Mo.rest) ∧ Below w.heap.size w wr) (fun _ i _ => l.length - (intOf i).toNat)
  case atStart => exact ⟨0, by omega, rfl, RowK.empty w w.heap.size 9 _ (Nat.le_refl _), lowAlloc (lowRefl w) _⟩
  case round =>
    obtain ⟨j, hj, rfl, hro, hb⟩ := hrel
    by_cases hc : j < l.length
    · go_wp2_with (first | ((go_at_call 168; ((with_reducible refine (l7Rest_any _).mono ?_); rintro e w2 ⟨rfl, hbq⟩)); have hro2 := (RowK.below hro hbq).alloc (.cells Mo.rest.cells.toArray 47); have hb2 := lowCall hb hbq) | (at_builtin; refine append_k _ rfl _ _ _ 47 9 56 _ rfl Tryz.underlying141 infoMo rfl (by omega) w.heap.size _ _ Mo.rest.cells hro2 rfl w2.heap.size rfl _ _ (Has.new _ _ _) rfl rfl Mo.rest.one (by simp; omega) (by omega) (by simp; have := hb2.size; omega) ?_; intro v' w3 hr3 hg3))
      rw [← range_rest] at hr3
      exact ⟨⟨j + 1, by omega, by go_num, hr3, (lowAlloc hb2 _).grown hg3 (by simp; have := hb2.size; omega) (fun k hk => (hro.own.lt k hk).1)⟩, by simp [intOf]; omega⟩
    · obtain rfl : j = l.length := by omega
      obtain ⟨A2, cR, hv, hA2, -⟩ := hro.shape
      rw [List.length_map, List.length_range] at hv hA2
      obtain ⟨g, rfl, hg1, hg2⟩ := hA2 h1
      subst hv
      clear hA2
      have hm0 : MRo wr w.heap.size (.slice (some ⟨g, 0, none⟩) l.length cR) l.length (Jn Mo.rest l 0) := by
        have e : Jn Mo.rest l 0 = fun _ => Mo.rest := by funext i; simp only [Jn]; split <;> rfl
        rw [e]; exact hro
      have hb0 := hb
      clear hro hb
      go_wp2
      go_loopw [6, 7] (fun okv i wr2 => ∃ (t : Nat) (bo : Bool), t ≤ l.length ∧ i = .int .i64 ((l.length : Int) - 1 - t) ∧ okv = .bool bo ∧ (bo = true ↔ OkT l t) ∧ MRo wr2 w.heap.size (.slice (some ⟨g, 0, none⟩) l.length cR) l.length (Jn Mo.rest l t) ∧ g < wr2.heap.size ∧ Below w.heap.size w wr2) (fun _ i _ => (intOf i + 1).toNat)
      case atStart => exact ⟨0, true, by omega, by simp, rfl, ⟨fun _ j hj hk => by omega, fun _ => rfl⟩, hm0, hg2, hb0⟩
      case round =>
        clear hm0 hb0 hg2
        obtain ⟨t, bo, ht, rfl, rfl, hbo, hro, hgl, hb⟩ := hrel
        have HBO := Lib.hid hbo
        clear hbo
        by_cases hc : t < l.length
        · obtain ⟨i, hi⟩ : ∃ i : Nat, (l.length : Int) - 1 - t = i := ⟨l.length - 1 - t, by omega⟩
          have hil : i < l.length := by omega
          have hi2 : l.length - 1 - t = i := by omega
          have LD := ((HR.out i hil).below hb).load
          have LM := MRo.load (RowK.alloc hro (.cells (pa l i).arr 49)) i hil
          have hmo : Jn Mo.rest l t i = mo l i := by unfold mo; rw [show l.length - 1 - i = t by omega]
          have hst : Jn Mo.rest l (t + 1) = spread (Jn Mo.rest l t) (made (pa l i)) (own (pa l i) (Jn Mo.rest l t i)) := by simp only [Jn]; rw [hi2]
          have hfar := jn_far HF.out.2 t (by omega) i
          have hokt : OkT l (t + 1) ↔ OkT l t ∧ MOk l i := ⟨fun h => ⟨fun j hj hk => h j hj (by omega), h i hil (by omega)⟩, fun h j hj hk => by
            by_cases e : j = i
            · subst e; exact h.2
            · exact h.1 j hj (by omega)⟩
          have h6 := HF.out.2 i hil
          have hpa := pa_get l i hil
          have hkk := (HF.out.1.2.1 i hil hil).1
          have hlk := (HF.out.1.2.1 i hil hil).2
          unfold MOk at hokt
          rw [← hmo] at hokt
          rw [← hpa] at LD hkk hlk
          generalize hme : Jn Mo.rest l t i = m at LM hst hfar hokt
          have HME := Lib.hid hme
          clear hme
          generalize pa l i = p at LD LM hst hokt h6 hkk hlk
          have hmk : ∀ k ∈ made p, 0 ≤ k ∧ k < i := fun k hk => lks_mem _ _ _ _ hlk hk
          have HST := Lib.hid hst
          have HOKT := Lib.hid hokt
          have HFAR := Lib.hid hfar
          have H6 := Lib.hid h6
          have HKK := Lib.hid hkk
          have HMK := Lib.hid hmk
          have HIT := Lib.hid (show (i : Int) - 1 = (l.length : Int) - 1 - ((t + 1 : Nat) : Int) by omega)
          have HMS := Lib.hid (show ((i : Int) - 1 + 1).toNat < ((i : Int) + 1).toNat by omega)
          rw [hi]
          clear hmo hst hfar hokt h6 hkk hlk hmk hi hi2 hpa
          go_upto_region 12 with fail
          refine (fun (k : ∀ V, MRo V w.heap.size (.slice (some ⟨g, 0, none⟩) l.length cR) l.length (Jn Mo.rest l t) → Below w.heap.size w V → Has V wr.heap.size p.arr 49 → Has V (wr.heap.size + 1) m.cells.toArray 47 → Code.wp _ _ _ _ V) => k _ ?_ ?_ ?_ ?_) ?_
          · exact RowK.alloc (RowK.alloc hro _) _
          · exact lowAlloc (lowAlloc hb _) _
          · exact (Has.new wr p.arr 49).alloc _
          · exact Has.as (Has.new1 wr _ _ _) rfl
          intro V hro2 hb2 bX bM
          have hwX : w.heap.size ≤ wr.heap.size := hb.size
          clear hro hb LD LM
          have hgX : g ≠ wr.heap.size := by omega
          have hgM : g ≠ wr.heap.size + 1 := by omega
          generalize wr.heap.size = Bx at hgl hgX hgM hwX bX bM ⊢
          clear wr
          have hgV : g < V.heap.size := by have := bX.lt; omega
          clear hgl
          have CX := Has.cell bX
          have hbs := hb2.size
          by_cases hk2 : p.k ≤ 2
          · have hmd := made_none p (.inl (by omega))
            have hk0 := HKK.out.1.1
            have hst2 : Jn Mo.rest l (t + 1) = Jn Mo.rest l t := by rw [HST.out, hmd]; rfl
            have HS2 := Lib.hid hst2
            have HOK2 : Hid (OkT l (t + 1) ↔ OkT l t) := Lib.hid (by rw [HOKT.out]; exact ⟨fun k => k.1, fun k => ⟨k, fun h => by omega⟩⟩)
            clear hmd hst2
            go_wp2
            go_roundw
            case rel => exact ⟨t + 1, bo, by omega, congrArg (Value.int .i64) HIT.out, rfl, HBO.out.trans HOK2.out.symm, by rw [HS2.out]; exact hro2, hgV, hb2⟩
            case measure => exact HMS.out
          · by_cases hk6 : p.k = 6
            · have hmd := made_one p hk6
              have HMD := Lib.hid hmd
              have HK6 := Lib.hid hk6
              have HPM := Lib.hid (H6.out hk6)
              have HFM : Hid (Perm m.a m.b m.c ∧ Vok m.p m.q m.r 100000) := Lib.hid ⟨HFAR.out.1, by have := HFAR.out.2; unfold Vok at *; omega⟩
              clear hmd
              go_upto_region 13 with fail
              have NX : ∀ w', Below V.drew.heap.size V.drew w' → (loadVar 47 ⟨Bx, 15, none⟩).run Tryz.prog w' = .ok p.m.val w' := fun w' h => ptMove ((bX.drew).below h)
              have NR : ∀ w', Below V.drew.heap.size V.drew w' → (loadVar 47 ⟨g, i * 9, none⟩).run Tryz.prog w' = .ok m.val w' := fun w' h => by have := MRo.load (RowK.below (RowK.drew hro2) h) i hil; rwa [HME.out] at this
              have HX := Lib.hid NX
              have HRR := Lib.hid NR
              clear NX NR
              (refine wp_region_held1 7 (by kernel_rfl) (by kernel_rfl) rfl (fun _ _ _ d _ h => by cases d <;> exact h) ?_; intro Fq hFq; simp only [List.take_succ_cons, List.take_zero])
              repeat (first | (refine wpHeld_skip (by rfl) ?_; ((try simp only [Act.put, List.setIfInBounds_toArray, List.set_cons_zero, List.set_cons_succ]))) | (refine wpHeld_run ?_ rfl ?_ ?_; rotate_left; (focus (intro w' hbq Kq hKq; go_simp; (try (rw [IntWalk.i64_in]; rotate_left; focus (constructor <;> omega))); first | exact hKq _ (Below.refl _ _) | first | (go_at_call 169; ((with_reducible refine (l3TogetherX p.m m _ HPM.out HFM.out).mono ?_); rintro e w2 ⟨rfl, hbr⟩; refine back ?_; exact hKq _ hbr)) | (have c1 := HX.out _ hbq; have c2 := HRR.out _ hbq; go_simp; exact hKq _ (Below.refl _ _)))); ((try simp only [Act.put, List.setIfInBounds_toArray, List.set_cons_zero, List.set_cons_succ]))))
              refine wpHeld_nil (hFq _ ?_)
              clear hFq
              intro V1 hbq
              have hu := undrew hbq
              have bX1 := bX.below hu
              have bM1 := bM.below hu
              have hro3 := RowK.below hro2 hu
              have hb3 := lowCall hb2 hu
              have hg3 := hu.size
              have SM := moStore (tog p.m m) bM1 rfl
              go_upto_region 14 with fail
              have bX2 := Has.setRowO (g := Bx + 1) (by omega) bX1 (tog p.m m).cells.toArray
              have bM2 := Has.setRow bM1 (tog p.m m).cells.toArray
              have hro4 := RowK.kept hro3 (grownRow2 V1 (Bx + 1) (tog p.m m).cells.toArray) (.inr fun e => hgM (Option.some.inj e))
              have hb4 := lowRow (g := Bx + 1) hb3 (by omega) (tog p.m m).cells.toArray
              have hgV4 : g < (V1.setRow (Bx + 1) (tog p.m m).cells.toArray).heap.size := by simp; omega
              clear hro2 hb2 bX bM CX HX HRR hbq hu bX1 bM1 hro3 hb3 hg3 SM hgV hbs
              generalize V1.setRow (Bx + 1) (tog p.m m).cells.toArray = V2 at bX2 bM2 hro4 hb4 hgV4 ⊢
              clear V1 V
              have hg0 := HMK.out p.A (by rw [HMD.out]; exact List.mem_cons_self ..)
              obtain ⟨an, han⟩ : ∃ an : Nat, p.A = an := ⟨p.A.toNat, by omega⟩
              have hal : an < l.length := by omega
              have HAN := Lib.hid han
              have hok3 : (OkT l (t + 1) ↔ OkT l t ∧ (tog p.m m).ok) := by
                rw [HOKT.out]; exact ⟨fun k => ⟨k.1, (k.2 hk6).2⟩, fun k => ⟨k.1, fun _ => ⟨HPM.out, k.2⟩⟩⟩
              have HOK3 := Lib.hid hok3
              have LMM := moLoad _ bM2
              have CX2 := Has.cell bX2
              clear hok3 hg0
              cases bo with
              | false =>
                go_upto_region 16 with fail
                have RS := (MRo.storeAt hro4 an p.A HAN.out.symm hal (tog p.m m)).1
                have RR := Lib.hid (MRo.storeAt hro4 an p.A HAN.out.symm hal (tog p.m m)).2.1
                have RL := Lib.hid (lowCells (a := w) (g := g) hg1 (tog p.m m).cells (an * 9) _ hb4)
                have NB := Lib.hid ((bX2.grown (grownCells V2 g (an * 9) (tog p.m m).cells) (by simp; omega)))
                have RG : Hid (g < (V2.setCells g (an * 9) (tog p.m m).cells).heap.size) := Lib.hid (by rw [sizeCells]; exact hgV4)
                clear hro4 hb4 hgV4
                go_upto_region 17 with fail
                have CX3 := Has.cell NB.out
                go_wp2_with ((go_at_call 118; ((with_reducible refine (l7Two_no _ _ (.inr (by omega))).mono ?_); rintro e w' ⟨rfl, rfl⟩)))
                go_roundw
                case rel => exact ⟨t + 1, false, by omega, congrArg (Value.int .i64) HIT.out, rfl, ⟨(fun k => by cases k), fun k => HBO.out.2 (HOK3.out.1 k).1⟩, by rw [HST.out, HMD.out, own, if_pos HK6.out]; exact RR.out, RG.out, RL.out⟩
                case measure => exact HMS.out
              | true =>
                obtain ⟨b2, hb2e⟩ : ∃ b2, dec (tog p.m m).ok = b2 := ⟨_, rfl⟩
                have HCM : Hid (∀ w, Calls Tryz.prog 167 #[(tog p.m m).val] w fun e w' => e = .returned (.bool b2) ∧ Below w.heap.size w w') := Lib.hid fun w => by have := smotOk_any (tog p.m m) w; rwa [hb2e] at this
                have HB2 := Lib.hid hb2e
                clear hb2e
                go_upto_region 15 with ((go_at_call 167; ((with_reducible refine (HCM.out _).mono ?_); rintro e w2 ⟨rfl, hbq⟩)))
                have bX3 := bX2.below hbq
                have bM3 := bM2.below hbq
                have hro5 := RowK.below hro4 hbq
                have hb5 := lowCall hb4 hbq
                have hgV5 : g < w2.heap.size := Nat.lt_of_lt_of_le hgV4 hbq.size
                clear bX2 bM2 hro4 hb4 hgV4 LMM CX2 hbq
                have LMM := moLoad _ bM3
                have CX2 := Has.cell bX3
                have RS := (MRo.storeAt hro5 an p.A HAN.out.symm hal (tog p.m m)).1
                have RR := Lib.hid (MRo.storeAt hro5 an p.A HAN.out.symm hal (tog p.m m)).2.1
                have RL := Lib.hid (lowCells (a := w) (g := g) hg1 (tog p.m m).cells (an * 9) _ hb5)
                have NB := Lib.hid ((bX3.grown (grownCells w2 g (an * 9) (tog p.m m).cells) (by simp; omega)))
                have RG : Hid (g < (w2.setCells g (an * 9) (tog p.m m).cells).heap.size) := Lib.hid (by rw [sizeCells]; exact hgV5)
                clear hro5 hb5 hgV5
                go_upto_region 17 with fail
                have CX3 := Has.cell NB.out
                go_wp2_with ((go_at_call 118; ((with_reducible refine (l7Two_no _ _ (.inr (by omega))).mono ?_); rintro e w' ⟨rfl, rfl⟩)))
                go_roundw
                case rel => exact ⟨t + 1, b2, by omega, congrArg (Value.int .i64) HIT.out, rfl, by rw [HOK3.out, ← HB2.out, dec_iff]; exact ⟨fun k => ⟨HBO.out.1 (by first | rfl | trivial), k⟩, fun k => k.2⟩, by rw [HST.out, HMD.out, own, if_pos HK6.out]; exact RR.out, RG.out, RL.out⟩
                case measure => exact HMS.out
            · have h3 : 3 ≤ p.k := by omega
              have h5 : p.k ≤ 5 := by have := HKK.out.1.2; omega
              have hmd := made_two p h3 h5
              have hA0 := HMK.out p.A (by rw [hmd]; exact List.mem_cons_self ..)
              have hB0 := HMK.out p.B (by rw [hmd]; exact List.mem_cons_of_mem _ (List.mem_cons_self ..))
              have HMD := Lib.hid hmd
              obtain ⟨an, han⟩ : ∃ an : Nat, p.A = an := ⟨p.A.toNat, by omega⟩
              obtain ⟨bn, hbn⟩ : ∃ bn : Nat, p.B = bn := ⟨p.B.toNat, by omega⟩
              have hal : an < l.length := by omega
              have hbl : bn < l.length := by omega
              have HAN := Lib.hid han
              have HBN := Lib.hid hbn
              have HOK2 : Hid (OkT l (t + 1) ↔ OkT l t) := Lib.hid (by rw [HOKT.out]; exact ⟨fun k => k.1, fun k => ⟨k, fun h => by omega⟩⟩)
              clear hmd hA0 hB0
              go_upto_region 16 with fail
              have LMM := moLoad _ bM
              have RS := (MRo.storeAt hro2 an p.A HAN.out.symm hal m).1
              have HRR := Lib.hid (MRo.storeAt hro2 an p.A HAN.out.symm hal m).2.1
              have HRL := Lib.hid (lowCells (a := w) (g := g) hg1 m.cells (an * 9) _ hb2)
              have HNB := Lib.hid (bX.grown (grownCells V g (an * 9) m.cells) (by simp; omega))
              have HNM := Lib.hid (bM.grown (grownCells V g (an * 9) m.cells) (by simp; omega))
              have HRG : Hid (g < (V.setCells g (an * 9) m.cells).heap.size) := Lib.hid (by rw [sizeCells]; exact hgV)
              clear hro2 hb2 bX bM hgV
              go_upto_region 17 with fail
              have RR := HRR.out
              have RL := HRL.out
              have NB := HNB.out
              have NM := HNM.out
              have RG := HRG.out
              clear HRR HRL HNB HNM HRG
              generalize V.setCells g (an * 9) m.cells = V2 at RR RL NB NM RG ⊢
              clear RS LMM CX
              have CX3 := Has.cell NB
              have LM3 := moLoad _ NM
              have RS := (MRo.storeAt RR bn p.B HBN.out.symm hbl m).1
              have RR2 := Lib.hid (MRo.storeAt RR bn p.B HBN.out.symm hbl m).2.1
              have RL2 := Lib.hid (lowCells (a := w) (g := g) hg1 m.cells (bn * 9) _ RL)
              have RG2 : Hid (g < (V2.setCells g (bn * 9) m.cells).heap.size) := Lib.hid (by rw [sizeCells]; exact RG)
              clear RR RL NB NM RG
              go_wp2_with ((go_at_call 118; ((with_reducible refine (l7Two_yes _ _ h3 h5).mono ?_); rintro e w' ⟨rfl, rfl⟩)))
              go_roundw
              case rel => exact ⟨t + 1, bo, by omega, congrArg (Value.int .i64) HIT.out, rfl, HBO.out.trans HOK2.out.symm, by rw [HST.out, HMD.out, own, if_neg hk6]; exact RR2.out, RG2.out, RL2.out⟩
              case measure => exact HMS.out
        · obtain rfl : t = l.length := by omega
          rw [show (l.length : Int) - 1 - (l.length : Int) = -1 by omega]
          have hfin : bo = dec (∀ i, i < l.length → MOk l i) := by
            cases bo
            · exact (dec_no fun k => by have := HBO.out.2 (fun j hj _ => k j hj); cases this).symm
            · exact (dec_yes fun j hj => HBO.out.1 rfl j hj (by omega)).symm
          subst hfin
          go_wp2
          refine bodyPost_ret (v := .tuple #[.slice (some ⟨g, 0, none⟩) l.length cR, .bool (dec (∀ i, i < l.length → MOk l i))]) (by simp [results, Tryz.results97, go_sem]) rfl ⟨_, rfl, hro, hb⟩
end Go.Proofs.YtegibpepdndocabGreat
