import Derived.Test.YtckenfomnenknaaSwiu
namespace Go.Proofs.Ytckenfomnenknaa
open Go.ChangeShapes Go.WideShapes Go.ChangeAt Go.RowKit
set_option linter.unusedSimpArgs false
set_option linter.unusedVariables false
set_option maxHeartbeats 4000000

attribute [local go_sem] VGo_value VGo_skip VGo_enter
attribute [local go_sem] Pt.arr0 Pt.arr1 Pt.arr2 Pt.arr3 Pt.arr4 Pt.arr5 Pt.arr6 Pt.arr7 Pt.arr8 Pt.arr9 Pt.arr10 Pt.arr11 Pt.arr12 Pt.arr13 Pt.arr14 Pt.arr15 Pt.arr16 Pt.arr17 Pt.arr18 Pt.arr19 Pt.arr20 Pt.arr21 Pt.arr22 Pt.arr23 Pt.arr24 Pt.arr25 Pt.arr26
attribute [-go_sem] loadVar storeVar Instr.build
attribute [local go_sem] lvA svA bTwo bMov
attribute [local go_sem high] ptLoadNew ptStoreNew moStoreNew
attribute [local go_sem] Pt.arrSize Pt.fill
/- what is made of two solids -/
def wtPt (k : Int) (a b : List Pt) : Pt := ⟨k, ⟨0, 0, 0, 0⟩, ⟨0, 0, 0, 0⟩, ⟨0, 0, 0, 0, 0, 0⟩, ⟨0, 0, 0, false, false, false, 0, 0, 0⟩, a.length - 1, a.length + b.length - 1, 0⟩
def WithOk (k : Int) (a b : List Pt) : Prop := SolidP a ∧ SolidP b ∧ 3 ≤ k ∧ k ≤ 5
noncomputable def wth (k : Int) (a b : List Pt) : List Pt := if dec (WithOk k a b) then told (a ++ (b.map (bh a.length) ++ [wtPt k a b])) else []
theorem Pt.set24 (p : Pt) (x : Int) : p.arr.setIfInBounds 24 (.int .i64 x) = Pt.arr { p with A := x } := by kernel_rfl
theorem Pt.set25 (p : Pt) (x : Int) : p.arr.setIfInBounds 25 (.int .i64 x) = Pt.arr { p with B := x } := by kernel_rfl
set_option maxRecDepth 100000 in
theorem iSolidWith_yes (k : Int) (a b : List Pt) (va vb : Value) (w : World) (ha : PIn w va a) (hb : PIn w vb b) (na : a.length ≤ 1048576) (nb : b.length ≤ 1048576) (hO : WithOk k a b) :
    Calls Try.prog 45 #[.int .i64 k, va, vb] w fun e w' => ∃ v', e = .returned v' ∧ PRow w' w.heap.size v' (told (a ++ (b.map (bh a.length) ++ [wtPt k a b]))) ∧ Below w.heap.size w w' := by
  obtain ⟨Aa, ca, rfl, -⟩ := id ha
  obtain ⟨Ab, cb, rfl, -⟩ := id hb
  obtain ⟨hSa, hSb, hk3, hk5⟩ := hO
  have HA := Lib.hid ha
  have HB := Lib.hid hb
  have CA : Hid (∀ w, PIn w (.slice Aa a.length ca) a → Calls Try.prog 90 #[.slice Aa a.length ca] w fun e w' => e = .returned (.bool true) ∧ Below w.heap.size w w') := Lib.hid fun w h => by have := iSolidOk_any a _ w h na; rwa [dec_yes hSa] at this
  have CB : Hid (∀ w, PIn w (.slice Ab b.length cb) b → Calls Try.prog 90 #[.slice Ab b.length cb] w fun e w' => e = .returned (.bool true) ∧ Below w.heap.size w w') := Lib.hid fun w h => by have := iSolidOk_any b _ w h nb; rwa [dec_yes hSb] at this
  have hpa := solid_pos hSa
  have hpb := solid_pos hSb
  have HFB := Lib.hid hSb.1
  have HM : Hid (wtPt k a b = ⟨k, ⟨0, 0, 0, 0⟩, ⟨0, 0, 0, 0⟩, ⟨0, 0, 0, 0, 0, 0⟩, ⟨0, 0, 0, false, false, false, 0, 0, 0⟩, a.length - 1, a.length + b.length - 1, 0⟩) := Lib.hid rfl
  clear ha hb hSa hSb
  go_enter Try.func45, Try.ntmps45
  go_upto_region 3 with (first | (go_at_call 90; (with_reducible refine (CA.out _ HA.out).mono ?_); rintro e w2 ⟨rfl, hq1⟩; have HB2 := Lib.hid (HB.out.below hq1)) | (go_at_call 90; (with_reducible refine (CB.out _ HB2.out).mono ?_); rintro e w3 ⟨rfl, hq2⟩) | (go_at_call 66; ((with_reducible refine (within_yes _ _ _ _ hk3 hk5).mono ?_); rintro e w' ⟨rfl, rfl⟩)))
  have hL := lowCall hq1 hq2
  have HA3 := Lib.hid (HA.out.below hL)
  have HB3 := Lib.hid (HB.out.below hL)
  clear hq1 hq2 HA HB HB2 CA CB
  go_upto_region 4 with fail
  rw [← HM.out]
  have B1 : Has (w3.alloc (.cells (wtPt k a b).arr 106)) w3.heap.size (wtPt k a b).arr 106 := Has.new _ _ _
  have hba := (Below.refl w3.heap.size w3).alloc (Nat.le_refl _) (.cells (wtPt k a b).arr 106)
  have hL2 := lowCall hL hba
  have HA4 := Lib.hid (HA3.out.below hba)
  have HB4 := Lib.hid (HB3.out.below hba)
  clear hL hba HA3 HB3 HM
  generalize w3.alloc (.cells (wtPt k a b).arr 106) = w4 at *
  generalize w3.heap.size = bB at *
  refine wp_region_heldE [true, true, true, true, false, true, false] 4 6 (by kernel_rfl) (by kernel_rfl) rfl rfl (fun _ _ _ d _ h => by cases d <;> exact h) ?_
  intro Fq hFq
  simp only [maskL]
  repeat (first | (refine wpHeld_skip (by rfl) ?_; ((try simp only [Act.put, List.setIfInBounds_toArray, List.set_cons_zero, List.set_cons_succ]))) | (refine wpHeld_run ?_ rfl ?_ ?_; rotate_left; (focus (intro w' hbq Kq hKq; go_simp; (try (rw [IntWalk.i64_in]; rotate_left; focus (constructor <;> omega))); first | exact hKq _ (Below.refl _ _) | first | (have PL := ptLoad _ (B1.below (undrew hbq)); go_simp; exact hKq _ (Below.refl _ _)))); ((try simp only [Act.put, List.setIfInBounds_toArray, List.set_cons_zero, List.set_cons_succ]))))
  refine wpHeld_nil (hFq _ ⟨.cells (wtPt k a b).arr 106, fun b => .slice (some ⟨b, 0, none⟩) 1 1, fun v w1 => PRow w1 w.heap.size v (b.map (bh a.length)), fun v w1 w2 h k => RowK.below h k, ?_, ?_, ?_⟩)
  · intro w1 hS1 K hK
    go_simp
    exact hK
  · intro w1 hS1 K hK
    go_simp
    go_at_call 94; (with_reducible refine (partsBehind_any b a.length _ _ (HB4.out.below (undrew hS1)) na HFB.out).mono ?_); rintro e w5 ⟨vc, rfl, hr, hb⟩
    refine back ?_
    exact hK _ _ hb (RowK.mono hr (Nat.le_trans hL2.size hS1.size))
  · intro vc bq w1 hS1 hr hbN hob
    have HB5 : Has w1 bq (wtPt k a b).arr 106 := hob
    obtain ⟨A9, c9, hv9, -, -⟩ := hr.shape
    rw [List.length_map, List.length_map] at hv9
    subst hv9
    have hL1 := lowCall hL2 (undrew hS1)
    have HA5 := Lib.hid (HA4.out.below (undrew hS1))
    have hs1 := hL1.size
    have hlb : (b.map (bh a.length)).length = b.length := List.length_map ..
    clear hFq
    simp only [List.length_cons, List.length_nil, Nat.zero_add, Nat.reduceAdd, List.drop_succ_cons, List.drop_zero]
    go_wp2_with (first | (go_at_call 92; (with_reducible refine (concat3 a (b.map (bh a.length)) [wtPt k a b] _ _ _ _ _ 70 _ (Has.new _ _ _) (HA5.out.below (lowAlloc (lowRefl _) _)) (by omega) (PRow.seen (RowK.alloc hr _)) (by omega) (PIn.one (Has.alloc HB5 _)) (by simp) (by simp; omega)).mono ?_); rintro e w6 ⟨vd, rfl, hr6, hb6⟩; have hL6 := lowCall (lowAlloc hL1 _) hb6) | (go_at_call 91; (with_reducible refine (ifSolid_any _ _ _ _ hr6 (by simp; omega)).mono ?_); rintro e w7 ⟨vt, rfl, hr7, hb7⟩))
    go_ret
    exact ⟨_, rfl, RowK.mono hr7 (by simp; omega), lowCall hL6 hb7⟩
set_option maxRecDepth 100000 in
theorem sSolidWith_yes (k : Int) (a b : List Pt) (va vb : Value) (w : World) (ha : PIn w va a) (hb : PIn w vb b) (na : a.length ≤ 1048576) (nb : b.length ≤ 1048576) (hO : WithOk k a b) :
    Calls Try.prog 44 #[.int .i64 k, va, vb] w fun e w' => ∃ v', e = .returned v' ∧ PRow w' w.heap.size v' (told (a ++ (b.map (bh a.length) ++ [wtPt k a b]))) ∧ Below w.heap.size w w' := by
  obtain ⟨Aa, ca, rfl, -⟩ := id ha
  obtain ⟨Ab, cb, rfl, hAb⟩ := id hb
  obtain ⟨hSa, hSb, hk3, hk5⟩ := hO
  have hpa := solid_pos hSa
  have hpb := solid_pos hSb
  obtain ⟨bb, off, rfl, -⟩ := hAb (by omega)
  clear hAb
  have HA := Lib.hid ha
  have HB := Lib.hid hb
  have CA : Hid (∀ w, PIn w (.slice Aa a.length ca) a → Calls Try.prog 79 #[.slice Aa a.length ca] w fun e w' => e = .returned (.bool true) ∧ Below w.heap.size w w') := Lib.hid fun w h => by have := sSolidOk_any a _ w h na; rwa [dec_yes hSa] at this
  have CB : Hid (∀ w, PIn w (.slice (some ⟨bb, off, none⟩) b.length cb) b → Calls Try.prog 79 #[.slice (some ⟨bb, off, none⟩) b.length cb] w fun e w' => e = .returned (.bool true) ∧ Below w.heap.size w w') := Lib.hid fun w h => by have := sSolidOk_any b _ w h nb; rwa [dec_yes hSb] at this
  have HAB := Lib.hid (form_ab hSb.1)
  have HM : Hid (wtPt k a b = ⟨k, ⟨0, 0, 0, 0⟩, ⟨0, 0, 0, 0⟩, ⟨0, 0, 0, 0, 0, 0⟩, ⟨0, 0, 0, false, false, false, 0, 0, 0⟩, a.length - 1, a.length + b.length - 1, 0⟩) := Lib.hid rfl
  clear ha hb hSa hSb
  go_enter Try.func44, Try.ntmps44
  go_upto_region 3 with (first | (go_at_call 79; (with_reducible refine (CA.out _ HA.out).mono ?_); rintro e w2 ⟨rfl, hq1⟩; have HB2 := Lib.hid (HB.out.below hq1)) | (go_at_call 79; (with_reducible refine (CB.out _ HB2.out).mono ?_); rintro e w3 ⟨rfl, hq2⟩) | (go_at_call 93; ((with_reducible refine (l7Two_yes _ _ hk3 hk5).mono ?_); rintro e w' ⟨rfl, rfl⟩)))
  have hL := lowCall hq1 hq2
  have HA3 := Lib.hid (HA.out.below hL)
  clear hq1 hq2 HA HB2 CA CB
  go_upto_region 4 with (go_at_call 87; (with_reducible refine (l7Copy_any a _ _ HA3.out na).mono ?_); rintro e w4 ⟨vc, rfl, hr0, hb0⟩)
  have hr0 := RowK.mono hr0 hL.size
  have hL2 := lowCall hL hb0
  clear hL hb0 HA3
  go_wp2
  go_loopw [7, 8] (fun o i wr => ∃ (j : Nat) (vo : Value), j ≤ b.length ∧ i = .int .i64 j ∧ vo = o ∧ PRow wr w.heap.size vo (a ++ (b.take j).map (bh a.length)) ∧ Below w.heap.size w wr) (fun _ i _ => b.length - (intOf i).toNat)
  case atStart => exact ⟨0, _, by omega, rfl, rfl, by simpa using hr0, hL2⟩
  case round =>
    clear hr0 hL2
    obtain ⟨j, vo, hj, rfl, rfl, hr, hb⟩ := hrel
    by_cases hc : j < b.length
    · obtain ⟨A', c', hv, hA⟩ := HB.out.below hb
      injection hv with e1 e2 e3
      obtain ⟨b', off', e4, hf⟩ := hA (by omega)
      rw [e4] at e1
      injection e1 with e1
      injection e1 with e5 e6
      subst e5 e6
      have LD := Pat.load (hf j hc)
      obtain ⟨hk, hka, hkb⟩ := HAB.out j hc
      have HT : Hid (a ++ (b.take (j + 1)).map (bh a.length) = (a ++ (b.take j).map (bh a.length)) ++ [bh a.length b[j]]) := Lib.hid (by rw [List.take_succ_eq_append_getElem hc, List.map_append, List.append_assoc]; rfl)
      have hlz : (a ++ (b.take j).map (bh a.length)).length ≤ 100 := by simp; omega
      have HLZ := Lib.hid hlz
      clear hf hA e4 e2 e3 hlz
      generalize b[j] = p at LD hk hka hkb HT
      generalize hzs : a ++ (b.take j).map (bh a.length) = zs at hr HT HLZ
      clear hzs
      have HR := Lib.hid hr
      go_upto_region 8 with fail
      have BP := Has.new wr p.arr 106
      have hbA := (Below.refl wr.heap.size wr).alloc (Nat.le_refl _) (.cells p.arr 106)
      have HR2 := Lib.hid (RowK.below HR.out hbA)
      have hb2 := lowCall hb hbA
      have hng : some wr.heap.size ≠ vo.ownBlock := fun e => by have := (HR.out.own.lt _ e.symm).2; omega
      have hlo : w.heap.size ≤ wr.heap.size := hb.size
      clear HR hbA hb LD hr
      generalize wr.alloc (.cells p.arr 106) = ws at *
      generalize wr.heap.size = bP at *
      have CP := Has.cell BP
      have FP := Has.frozen BP
      by_cases h3 : 3 ≤ p.k
      · obtain ⟨ha0, ha1⟩ := hka h3
        have hk2 : ¬ (p.k ≤ 2) := by omega
        go_upto_region 10 with fail
        have BQ : Has (ws.setCell ⟨bP, 24, none⟩ (.int .i64 (p.A + a.length))) bP (Pt.arr { p with A := p.A + a.length }) 106 := by rw [← Pt.set24]; exact Has.same BP 24 _
        have HR3 := RowK.set (b := bP) (i := 24) (u := .int .i64 (p.A + a.length)) HR2.out hng
        have hb3 := lowSet hb2 (p := ⟨bP, 24, none⟩) hlo (.int .i64 (p.A + a.length))
        refine (fun (k : ∀ wm, Has wm bP (Pt.arr { p with A := p.A + a.length }) 106 → PRow wm w.heap.size vo zs → Below w.heap.size w wm → Code.wp _ _ _ _ wm) => k _ BQ HR3 hb3) ?_
        clear BQ HR3 hb3 HR2 hb2 BP CP FP
        intro wm BQ HR3 hb3
        have CQ := Has.cell BQ
        have FQ := Has.frozen BQ
        by_cases h5 : p.k ≤ 5
        · obtain ⟨hb0, hb1⟩ := hkb h3 h5
          go_upto_region 12 with ((go_at_call 93; ((with_reducible refine (l7Two_yes _ _ h3 h5).mono ?_); rintro e w' ⟨rfl, rfl⟩)))
          have BS : Has (wm.setCell ⟨bP, 25, none⟩ (.int .i64 (p.B + a.length))) bP (Pt.arr { p with A := p.A + a.length, B := p.B + a.length }) 106 := by
            have := Has.same BQ 25 (.int .i64 (p.B + a.length))
            rwa [Pt.set25] at this
          have HR4 := RowK.set (b := bP) (i := 25) (u := .int .i64 (p.B + a.length)) HR3 hng
          have hb4 := lowSet hb3 (p := ⟨bP, 25, none⟩) hlo (.int .i64 (p.B + a.length))
          refine (fun (k : ∀ wm, Has wm bP (Pt.arr { p with A := p.A + a.length, B := p.B + a.length }) 106 → PRow wm w.heap.size vo zs → Below w.heap.size w wm → Code.wp _ _ _ _ wm) => k _ BS HR4 hb4) ?_
          clear BS HR4 hb4 HR3 hb3 BQ CQ FQ
          intro wn BS HR4 hb4
          have PL := ptLoad _ BS
          go_wp2_with (at_builtin; refine append_k _ rfl _ _ _ 106 27 200 Pt.zero.val rfl Try.underlying70 infoPt rfl (by omega) w.heap.size _ _ (Pt.cells { p with A := p.A + a.length, B := p.B + a.length }) (RowK.alloc HR4 _) rfl _ rfl _ _ (Has.new _ _ _) (by simp [Pt.arr]) rfl (Pt.one _) (by rw [List.length_map]; have := HLZ.out; omega) (by omega) (by have := (lowAlloc hb4 (.cells (Pt.arr { p with A := p.A + a.length, B := p.B + a.length }) 106)).size; exact this) ?_; intro v' w9 hr9 hg9)
          first | exact ⟨⟨j + 1, _, by omega, by go_num, rfl, by rw [HT.out, bh_two ⟨h3, h5⟩]; unfold PRow; rw [List.map_append]; exact hr9, (lowAlloc hb4 _).grown hg9 (lowAlloc hb4 _).size (fun k hk => (HR4.own.lt k hk).1)⟩, by simp [intOf]; omega⟩ | (refine ⟨?_, by simp [intOf]; omega⟩; (repeat apply Exists.intro); exact ⟨⟨j + 1, _, by omega, by go_num, rfl, by rw [HT.out, bh_two ⟨h3, h5⟩]; unfold PRow; rw [List.map_append]; exact hr9, (lowAlloc hb4 _).grown hg9 (lowAlloc hb4 _).size (fun k hk => (HR4.own.lt k hk).1)⟩, rfl⟩)
        · go_upto_region 12 with ((go_at_call 93; ((with_reducible refine (l7Two_no _ _ (by first | omega | (show _ ∨ _; omega))).mono ?_); rintro e w' ⟨rfl, rfl⟩)))
          have PL := ptLoad _ BQ
          go_wp2_with (at_builtin; refine append_k _ rfl _ _ _ 106 27 200 Pt.zero.val rfl Try.underlying70 infoPt rfl (by omega) w.heap.size _ _ (Pt.cells { p with A := p.A + a.length }) (RowK.alloc HR3 _) rfl _ rfl _ _ (Has.new _ _ _) (by simp [Pt.arr]) rfl (Pt.one _) (by rw [List.length_map]; have := HLZ.out; omega) (by omega) (by have := (lowAlloc hb3 (.cells (Pt.arr { p with A := p.A + a.length }) 106)).size; exact this) ?_; intro v' w9 hr9 hg9)
          first | exact ⟨⟨j + 1, _, by omega, by go_num, rfl, by rw [HT.out, bh_one (show p.k = 6 by omega)]; unfold PRow; rw [List.map_append]; exact hr9, (lowAlloc hb3 _).grown hg9 (lowAlloc hb3 _).size (fun k hk => (HR3.own.lt k hk).1)⟩, by simp [intOf]; omega⟩ | (refine ⟨?_, by simp [intOf]; omega⟩; (repeat apply Exists.intro); exact ⟨⟨j + 1, _, by omega, by go_num, rfl, by rw [HT.out, bh_one (show p.k = 6 by omega)]; unfold PRow; rw [List.map_append]; exact hr9, (lowAlloc hb3 _).grown hg9 (lowAlloc hb3 _).size (fun k hk => (HR3.own.lt k hk).1)⟩, rfl⟩)
      · have hk2 : p.k ≤ 2 := by omega
        go_upto_region 12 with ((go_at_call 93; ((with_reducible refine (l7Two_no _ _ (by omega)).mono ?_); rintro e w' ⟨rfl, rfl⟩)))
        have PL := ptLoad _ BP
        go_wp2_with (at_builtin; refine append_k _ rfl _ _ _ 106 27 200 Pt.zero.val rfl Try.underlying70 infoPt rfl (by omega) w.heap.size _ _ (Pt.cells p) (RowK.alloc HR2.out _) rfl _ rfl _ _ (Has.new _ _ _) (by simp [Pt.arr]) rfl (Pt.one _) (by rw [List.length_map]; have := HLZ.out; omega) (by omega) (by have := (lowAlloc hb2 (.cells (Pt.arr p) 106)).size; exact this) ?_; intro v' w9 hr9 hg9)
        first | exact ⟨⟨j + 1, _, by omega, by go_num, rfl, by rw [HT.out, bh_none (by omega)]; unfold PRow; rw [List.map_append]; exact hr9, (lowAlloc hb2 _).grown hg9 (lowAlloc hb2 _).size (fun k hk => (HR2.out.own.lt k hk).1)⟩, by simp [intOf]; omega⟩ | (refine ⟨?_, by simp [intOf]; omega⟩; (repeat apply Exists.intro); exact ⟨⟨j + 1, _, by omega, by go_num, rfl, by rw [HT.out, bh_none (by omega)]; unfold PRow; rw [List.map_append]; exact hr9, (lowAlloc hb2 _).grown hg9 (lowAlloc hb2 _).size (fun k hk => (HR2.out.own.lt k hk).1)⟩, rfl⟩)
    · obtain rfl : j = b.length := by omega
      rw [List.take_length] at hr
      have hs := hb.size
      obtain ⟨A9, c9, hv9, -, -⟩ := hr.shape
      have hl9 : ((a ++ b.map (bh a.length)).map Pt.cells).length = a.length + b.length := by simp
      rw [hl9] at hv9
      subst hv9
      go_wp2_with (first | (at_builtin; refine append_k _ rfl _ _ _ 106 27 200 Pt.zero.val rfl Try.underlying70 infoPt rfl (by omega) w.heap.size _ _ (wtPt k a b).cells (RowK.alloc hr _) rfl _ rfl _ _ (Has.new _ _ _) (by simp [Pt.arr, wtPt]) rfl (Pt.one _) (by rw [hl9]; omega) (by omega) (lowAlloc hb _).size ?_; intro v' w9 hr9 hg9; have hr10 : PRow w9 w.heap.size v' (a ++ (b.map (bh a.length) ++ [wtPt k a b])) := (by rw [← List.append_assoc]; unfold PRow; rw [List.map_append]; exact hr9); have hL9 := (lowAlloc hb _).grown hg9 (lowAlloc hb _).size (fun k hk => (hr.own.lt k hk).1)) | (go_at_call 86; (with_reducible refine (l7Told_any _ _ _ _ hr10 (by simp; omega)).mono ?_); rintro e w10 ⟨vt, rfl, hr11, hb11⟩))
      go_ret
      exact ⟨_, rfl, hr11, lowCall hL9 hb11⟩
theorem iSolidWith_any (k : Int) (a b : List Pt) (va vb : Value) (w : World) (ha : PIn w va a) (hb : PIn w vb b) (na : a.length ≤ 1048576) (nb : b.length ≤ 1048576) :
    Calls Try.prog 45 #[.int .i64 k, va, vb] w fun e w' => ∃ v', e = .returned v' ∧ PRow w' w.heap.size v' (wth k a b) ∧ Below w.heap.size w w' := by
  unfold wth
  by_cases hO : WithOk k a b
  · rw [dec_yes hO]; exact iSolidWith_yes k a b va vb w ha hb na nb hO
  · rw [dec_no hO]
    obtain ⟨Aa, ca, rfl, -⟩ := id ha
    obtain ⟨Ab, cb, rfl, -⟩ := id hb
    have HA := Lib.hid ha
    have HB := Lib.hid hb
    by_cases hSa : SolidP a
    · have CA : Hid (∀ w, PIn w (.slice Aa a.length ca) a → Calls Try.prog 90 #[.slice Aa a.length ca] w fun e w' => e = .returned (.bool true) ∧ Below w.heap.size w w') := Lib.hid fun w h => by have := iSolidOk_any a _ w h na; rwa [dec_yes hSa] at this
      by_cases hSb : SolidP b
      · have hk : ¬ (3 ≤ k ∧ k ≤ 5) := fun h => hO ⟨hSa, hSb, h⟩
        have CB : Hid (∀ w, PIn w (.slice Ab b.length cb) b → Calls Try.prog 90 #[.slice Ab b.length cb] w fun e w' => e = .returned (.bool true) ∧ Below w.heap.size w w') := Lib.hid fun w h => by have := iSolidOk_any b _ w h nb; rwa [dec_yes hSb] at this
        clear ha hb hO hSa hSb
        go_enter Try.func45, Try.ntmps45
        go_wp2_with (first | (go_at_call 90; (with_reducible refine (CA.out _ HA.out).mono ?_); rintro e w2 ⟨rfl, hq1⟩; have HB2 := Lib.hid (HB.out.below hq1)) | (go_at_call 90; (with_reducible refine (CB.out _ HB2.out).mono ?_); rintro e w3 ⟨rfl, hq2⟩) | (go_at_call 66; ((with_reducible refine (within_no _ _ _ _ (by omega)).mono ?_); rintro e w' ⟨rfl, rfl⟩)))
        go_ret
        exact ⟨_, rfl, nilRow _ _, lowCall hq1 hq2⟩
      · have CB : Hid (∀ w, PIn w (.slice Ab b.length cb) b → Calls Try.prog 90 #[.slice Ab b.length cb] w fun e w' => e = .returned (.bool false) ∧ Below w.heap.size w w') := Lib.hid fun w h => by have := iSolidOk_any b _ w h nb; rwa [dec_no hSb] at this
        clear ha hb hO hSa hSb
        go_enter Try.func45, Try.ntmps45
        go_wp2_with (first | (go_at_call 90; (with_reducible refine (CA.out _ HA.out).mono ?_); rintro e w2 ⟨rfl, hq1⟩; have HB2 := Lib.hid (HB.out.below hq1)) | (go_at_call 90; (with_reducible refine (CB.out _ HB2.out).mono ?_); rintro e w3 ⟨rfl, hq2⟩))
        go_ret
        exact ⟨_, rfl, nilRow _ _, lowCall hq1 hq2⟩
    · have CA : Hid (∀ w, PIn w (.slice Aa a.length ca) a → Calls Try.prog 90 #[.slice Aa a.length ca] w fun e w' => e = .returned (.bool false) ∧ Below w.heap.size w w') := Lib.hid fun w h => by have := iSolidOk_any a _ w h na; rwa [dec_no hSa] at this
      clear ha hb hO hSa
      go_enter Try.func45, Try.ntmps45
      go_wp2_with (go_at_call 90; (with_reducible refine (CA.out _ HA.out).mono ?_); rintro e w2 ⟨rfl, hq1⟩)
      go_ret
      exact ⟨_, rfl, nilRow _ _, hq1⟩
theorem sSolidWith_any (k : Int) (a b : List Pt) (va vb : Value) (w : World) (ha : PIn w va a) (hb : PIn w vb b) (na : a.length ≤ 1048576) (nb : b.length ≤ 1048576) :
    Calls Try.prog 44 #[.int .i64 k, va, vb] w fun e w' => ∃ v', e = .returned v' ∧ PRow w' w.heap.size v' (wth k a b) ∧ Below w.heap.size w w' := by
  unfold wth
  by_cases hO : WithOk k a b
  · rw [dec_yes hO]; exact sSolidWith_yes k a b va vb w ha hb na nb hO
  · rw [dec_no hO]
    obtain ⟨Aa, ca, rfl, -⟩ := id ha
    obtain ⟨Ab, cb, rfl, -⟩ := id hb
    have HA := Lib.hid ha
    have HB := Lib.hid hb
    by_cases hSa : SolidP a
    · have CA : Hid (∀ w, PIn w (.slice Aa a.length ca) a → Calls Try.prog 79 #[.slice Aa a.length ca] w fun e w' => e = .returned (.bool true) ∧ Below w.heap.size w w') := Lib.hid fun w h => by have := sSolidOk_any a _ w h na; rwa [dec_yes hSa] at this
      by_cases hSb : SolidP b
      · have hk : ¬ (3 ≤ k ∧ k ≤ 5) := fun h => hO ⟨hSa, hSb, h⟩
        have CB : Hid (∀ w, PIn w (.slice Ab b.length cb) b → Calls Try.prog 79 #[.slice Ab b.length cb] w fun e w' => e = .returned (.bool true) ∧ Below w.heap.size w w') := Lib.hid fun w h => by have := sSolidOk_any b _ w h nb; rwa [dec_yes hSb] at this
        clear ha hb hO hSa hSb
        go_enter Try.func44, Try.ntmps44
        go_wp2_with (first | (go_at_call 79; (with_reducible refine (CA.out _ HA.out).mono ?_); rintro e w2 ⟨rfl, hq1⟩; have HB2 := Lib.hid (HB.out.below hq1)) | (go_at_call 79; (with_reducible refine (CB.out _ HB2.out).mono ?_); rintro e w3 ⟨rfl, hq2⟩) | (go_at_call 93; ((with_reducible refine (l7Two_no _ _ (by omega)).mono ?_); rintro e w' ⟨rfl, rfl⟩)))
        go_ret
        exact ⟨_, rfl, nilRow _ _, lowCall hq1 hq2⟩
      · have CB : Hid (∀ w, PIn w (.slice Ab b.length cb) b → Calls Try.prog 79 #[.slice Ab b.length cb] w fun e w' => e = .returned (.bool false) ∧ Below w.heap.size w w') := Lib.hid fun w h => by have := sSolidOk_any b _ w h nb; rwa [dec_no hSb] at this
        clear ha hb hO hSa hSb
        go_enter Try.func44, Try.ntmps44
        go_wp2_with (first | (go_at_call 79; (with_reducible refine (CA.out _ HA.out).mono ?_); rintro e w2 ⟨rfl, hq1⟩; have HB2 := Lib.hid (HB.out.below hq1)) | (go_at_call 79; (with_reducible refine (CB.out _ HB2.out).mono ?_); rintro e w3 ⟨rfl, hq2⟩))
        go_ret
        exact ⟨_, rfl, nilRow _ _, lowCall hq1 hq2⟩
    · have CA : Hid (∀ w, PIn w (.slice Aa a.length ca) a → Calls Try.prog 79 #[.slice Aa a.length ca] w fun e w' => e = .returned (.bool false) ∧ Below w.heap.size w w') := Lib.hid fun w h => by have := sSolidOk_any a _ w h na; rwa [dec_no hSa] at this
      clear ha hb hO hSa
      go_enter Try.func44, Try.ntmps44
      go_wp2_with (go_at_call 79; (with_reducible refine (CA.out _ HA.out).mono ?_); rintro e w2 ⟨rfl, hq1⟩)
      go_ret
      exact ⟨_, rfl, nilRow _ _, hq1⟩
end Go.Proofs.Ytckenfomnenknaa
