import Derived.Test.YtegibpepdndocabGreatShfb
namespace Go.Proofs.YtegibpepdndocabGreat
open Has renaming new → J0, new1 → J1, new2 → J2, new3 → J3, new4 → J4, drew → J5, drewN → J6, alloc → J7, same → J8, other → J9, cell → Jc, frozen → Jf, below → Jb
open Go.ChangeShapes Go.WideShapes Go.ChangeAt Go.RowKit
set_option linter.unusedSimpArgs false
set_option linter.unusedVariables false
set_option maxHeartbeats 4000000

attribute [local go_sem] VGo_value VGo_skip VGo_enter
attribute [-go_sem] callMethod
attribute [local go_sem] cmHas cmCut cmBox
attribute [local go_sem] Pt.arr0 Pt.arr1 Pt.arr2 Pt.arr3 Pt.arr4 Pt.arr5 Pt.arr6 Pt.arr7 Pt.arr8 Pt.arr9 Pt.arr10 Pt.arr11 Pt.arr12 Pt.arr13 Pt.arr14 Pt.arr15 Pt.arr16 Pt.arr17 Pt.arr18 Pt.arr19 Pt.arr20 Pt.arr21 Pt.arr22 Pt.arr23 Pt.arr24 Pt.arr25 Pt.arr26
attribute [-go_sem] loadVar storeVar
attribute [local go_sem] lvA svA lvVec lvHalf lvBall lvBox lvMot
attribute [local go_sem high] ptLoadNew ptStoreNew ptStoreNew1 ptLoadNew1
theorem lvRayI (a : Addr) (w : World) : (loadVar 52 a).run Tryz.prog w = ((loadCells a 6).run Tryz.prog w).andThen fun cs w2 => .ok (.agg cs) w2 := by
  rw [lvB (Tryz.isAgg52 w), Tryz.sizeOf52 w, Result.andThen_ok]
attribute [local go_sem] lvRayI
/- the model: the spans of a ray in the part with an index -/
set_option maxRecDepth 100000 in
theorem l7Spans_any (ps : List Pt) (v : Value) (r : Sx) (k : Rok r.a r.b r.c r.d r.e r.f) (hw : Wf ps) (h24 : ps.length ≤ 24) (hnl : ∀ i, i < ps.length → (shp ps i).nl ≤ 24) : ∀ (n i : Nat), i < n → i < ps.length → ∀ w, PIn w v ps → Calls Tryz.prog 84 #[v, .int .i64 i, r.val] w fun e w' => ∃ u, e = .returned u ∧ SRow w' w.heap.size u ((shp ps i).sp r) ∧ Below w.heap.size w w'
  | 0, i, h, _, _, _ => by omega
  | n + 1, i, hin, hi, w, hl => by
    have ih := l7Spans_any ps v r k hw h24 hnl n
    obtain ⟨A, c, rfl, hA⟩ := id hl
    obtain ⟨b, off, rfl, hf⟩ := hA (by omega)
    have HL := Lib.hid hl
    have LD := Pat.load ((hf i hi).below (lowAlloc (lowRefl w) (.cells #[.int .i64 (r.a), .int .i64 (r.b), .int .i64 (r.c), .int .i64 (r.d), .int .i64 (r.e), .int .i64 (r.f)] 52)))
    obtain ⟨hk, hka, hkb, hlf⟩ := hw i hi
    have hsh := shp_at ps i hi
    have hA1 : 3 ≤ ps[i].k → (shs ps i).getD ps[i].A.toNat Sh.none = shp ps ps[i].A.toNat := fun h3 => by have := hka h3; exact shs_get ps i _ (by omega)
    have hB1 : 3 ≤ ps[i].k → ps[i].k ≤ 5 → (shs ps i).getD ps[i].B.toNat Sh.none = shp ps ps[i].B.toNat := fun h3 h5 => by have := hkb h3 h5; exact shs_get ps i _ (by omega)
    have FG : ∀ x, x < ps.length → (((shp ps x).sp r).length ≤ 24 ∧ SpsGood ((shp ps x).sp r)) := fun x hx => ⟨Nat.le_trans (sp_len r _) (hnl x hx), sp_good r k _ (shp_ok hw ps.length x hx hx) (shp_sfc hw h24 ps.length x hx hx)⟩
    have IH := Lib.hid ih
    have FGH := Lib.hid FG
    clear ih hl hA hf FG
    generalize ps[i] = p at *
    rw [hsh]
    unfold mkSh
    have hi24 : i < 24 := by omega
    by_cases h3 : 3 ≤ p.k
    · rw [if_neg (by omega), if_neg (by omega), if_neg (by omega), hA1 h3]
      obtain ⟨ha0, ha1⟩ := hka h3
      obtain ⟨a, ha⟩ : ∃ a : Nat, p.A = a := ⟨p.A.toNat, by omega⟩
      have hat : p.A.toNat = a := by omega
      rw [hat]
      have RA := Lib.hid (IH.out a (by omega) (by omega))
      obtain ⟨la, ga⟩ := FGH.out a (by omega)
      have GA := Lib.hid ga
      clear ga
      have hk2 : ¬ p.k ≤ 2 := by omega
      by_cases h6 : p.k = 6
      · rw [if_neg (by omega), if_neg (by omega), if_neg (by omega)]
        clear hA1 hB1 hsh hka hkb hlf hat IH FGH GA
        generalize (shp ps a).sp r = sa at *
        go_enter Tryz.func84, Tryz.ntmps84
        go_wp2_with (go_at_call 84; (with_reducible refine (RA.out _ (HL.out.below (by repeat' (first|with_reducible (first|exact lowRefl _|apply lowSet|apply lowDrew|apply lowDrewN|apply lowAlloc)|(with_reducible refine lowCall ?_ (by assumption))|(show (_ : Nat) ≤ _;first|(simp;done)|(simp;omega)|omega))))).mono ?_); rintro e w1 ⟨va, rfl, ra, q1⟩; have B1 := Jb (b := w.heap.size + 1) (by repeat' (first|with_reducible (first|assumption|apply J0|apply J1|apply J2|apply J3|apply J4|apply J5|apply J6|apply J7|apply J8|apply J9)|(with_reducible show _ ≠ _;first|omega|(simp;done)))) q1; have C1 := Jc B1)
        go_ret
        exact ⟨_, rfl, RowK.mono ra (by simp; omega), lowCall (lowAlloc (lowAlloc (lowRefl w) _) _) q1⟩
      · rw [hB1 h3 (by omega)]
        obtain ⟨hb0, hb1⟩ := hkb h3 (by omega)
        obtain ⟨bb, hb⟩ : ∃ bb : Nat, p.B = bb := ⟨p.B.toNat, by omega⟩
        have hbt : p.B.toNat = bb := by omega
        rw [hbt]
        have RB := Lib.hid (IH.out bb (by omega) (by omega))
        obtain ⟨lb, gb⟩ := FGH.out bb (by omega)
        have GB := Lib.hid gb
        clear hA1 hB1 hsh hka hkb hlf hat hbt IH FGH gb
        obtain hk3 | hk4 | hk5 : p.k = 3 ∨ p.k = 4 ∨ p.k = 5 := by omega
        · rw [if_pos hk3]
          show Calls Tryz.prog 84 _ w fun e w' => ∃ u, e = .returned u ∧ SRow w' w.heap.size u (spTotal 1 ((shp ps a).sp r) ((shp ps bb).sp r)) ∧ Below w.heap.size w w'
          generalize (shp ps a).sp r = sa at *
          generalize (shp ps bb).sp r = sb at *
          have HP : Hid (∀ va vb w, SIn w va sa → SIn w vb sb → Calls Tryz.prog 141 #[.int .i64 1, va, vb] w fun e w' => ∃ v', e = .returned v' ∧ SRow w' w.heap.size v' (spTotal 1 sa sb) ∧ Below w.heap.size w w') := Lib.hid fun va vb w ha hb => l5Put_any 1 (by omega) sa sb va vb w ha hb (by omega) (by omega) GA.out GB.out
          go_enter Tryz.func84, Tryz.ntmps84
          go_upto_region 21 with (go_at_call 84; (with_reducible refine (RA.out _ (HL.out.below (by repeat' (first|with_reducible (first|exact lowRefl _|apply lowSet|apply lowDrew|apply lowDrewN|apply lowAlloc)|(with_reducible refine lowCall ?_ (by assumption))|(show (_ : Nat) ≤ _;first|(simp;done)|(simp;omega)|omega))))).mono ?_); rintro e w1 ⟨va, rfl, ra, q1⟩; have B0 := Jb (b := w.heap.size) (by repeat' (first|with_reducible (first|assumption|apply J0|apply J1|apply J2|apply J3|apply J4|apply J5|apply J6|apply J7|apply J8|apply J9)|(with_reducible show _ ≠ _;first|omega|(simp;done)))) q1; have B1 := Jb (b := w.heap.size + 1) (by repeat' (first|with_reducible (first|assumption|apply J0|apply J1|apply J2|apply J3|apply J4|apply J5|apply J6|apply J7|apply J8|apply J9)|(with_reducible show _ ≠ _;first|omega|(simp;done)))) q1)
          have C0 := Jc B0
          have C1 := Jc B1
          have L1 : Below w.heap.size w w1 := lowCall (lowAlloc (lowAlloc (lowRefl w) _) _) q1
          clear q1
          go_upto_region 24 with (go_at_call 84; (with_reducible refine (RB.out _ (HL.out.below L1)).mono ?_); rintro e w2 ⟨vb, rfl, rb, q2⟩; have B2 := B1.below q2)
          have C2 := Jc B2
          have ra2 := RowK.below ra q2
          have L2 := lowCall L1 q2
          clear q2 C0 C1 B0 B1 L1
          go_wp2_with (go_at_call 141; (with_reducible refine (HP.out va vb _ (SRow.seen ra2) (SRow.seen rb)).mono ?_); rintro e w3 ⟨vt, rfl, rt, q3⟩)
          go_ret
          exact ⟨_, rfl, RowK.mono rt L2.size, lowCall L2 q3⟩
        · rw [if_neg (by omega), if_pos hk4]
          show Calls Tryz.prog 84 _ w fun e w' => ∃ u, e = .returned u ∧ SRow w' w.heap.size u (spTotal 0 ((shp ps a).sp r) ((shp ps bb).sp r)) ∧ Below w.heap.size w w'
          generalize (shp ps a).sp r = sa at *
          generalize (shp ps bb).sp r = sb at *
          have HP : Hid (∀ va vb w, SIn w va sa → SIn w vb sb → Calls Tryz.prog 141 #[.int .i64 0, va, vb] w fun e w' => ∃ v', e = .returned v' ∧ SRow w' w.heap.size v' (spTotal 0 sa sb) ∧ Below w.heap.size w w') := Lib.hid fun va vb w ha hb => l5Put_any 0 (by omega) sa sb va vb w ha hb (by omega) (by omega) GA.out GB.out
          go_enter Tryz.func84, Tryz.ntmps84
          go_upto_region 21 with (go_at_call 84; (with_reducible refine (RA.out _ (HL.out.below (by repeat' (first|with_reducible (first|exact lowRefl _|apply lowSet|apply lowDrew|apply lowDrewN|apply lowAlloc)|(with_reducible refine lowCall ?_ (by assumption))|(show (_ : Nat) ≤ _;first|(simp;done)|(simp;omega)|omega))))).mono ?_); rintro e w1 ⟨va, rfl, ra, q1⟩; have B0 := Jb (b := w.heap.size) (by repeat' (first|with_reducible (first|assumption|apply J0|apply J1|apply J2|apply J3|apply J4|apply J5|apply J6|apply J7|apply J8|apply J9)|(with_reducible show _ ≠ _;first|omega|(simp;done)))) q1; have B1 := Jb (b := w.heap.size + 1) (by repeat' (first|with_reducible (first|assumption|apply J0|apply J1|apply J2|apply J3|apply J4|apply J5|apply J6|apply J7|apply J8|apply J9)|(with_reducible show _ ≠ _;first|omega|(simp;done)))) q1)
          have C0 := Jc B0
          have C1 := Jc B1
          have L1 : Below w.heap.size w w1 := lowCall (lowAlloc (lowAlloc (lowRefl w) _) _) q1
          clear q1
          go_upto_region 24 with (go_at_call 84; (with_reducible refine (RB.out _ (HL.out.below L1)).mono ?_); rintro e w2 ⟨vb, rfl, rb, q2⟩; have B2 := B1.below q2)
          have C2 := Jc B2
          have ra2 := RowK.below ra q2
          have L2 := lowCall L1 q2
          clear q2 C0 C1 B0 B1 L1
          go_wp2_with (go_at_call 141; (with_reducible refine (HP.out va vb _ (SRow.seen ra2) (SRow.seen rb)).mono ?_); rintro e w3 ⟨vt, rfl, rt, q3⟩)
          go_ret
          exact ⟨_, rfl, RowK.mono rt L2.size, lowCall L2 q3⟩
        · rw [if_neg (by omega), if_neg (by omega), if_pos hk5]
          show Calls Tryz.prog 84 _ w fun e w' => ∃ u, e = .returned u ∧ SRow w' w.heap.size u (spTotal 2 ((shp ps a).sp r) ((shp ps bb).sp r)) ∧ Below w.heap.size w w'
          generalize (shp ps a).sp r = sa at *
          generalize (shp ps bb).sp r = sb at *
          have HP : Hid (∀ va vb w, SIn w va sa → SIn w vb sb → Calls Tryz.prog 141 #[.int .i64 2, va, vb] w fun e w' => ∃ v', e = .returned v' ∧ SRow w' w.heap.size v' (spTotal 2 sa sb) ∧ Below w.heap.size w w') := Lib.hid fun va vb w ha hb => l5Put_any 2 (by omega) sa sb va vb w ha hb (by omega) (by omega) GA.out GB.out
          go_enter Tryz.func84, Tryz.ntmps84
          go_upto_region 21 with (go_at_call 84; (with_reducible refine (RA.out _ (HL.out.below (by repeat' (first|with_reducible (first|exact lowRefl _|apply lowSet|apply lowDrew|apply lowDrewN|apply lowAlloc)|(with_reducible refine lowCall ?_ (by assumption))|(show (_ : Nat) ≤ _;first|(simp;done)|(simp;omega)|omega))))).mono ?_); rintro e w1 ⟨va, rfl, ra, q1⟩; have B0 := Jb (b := w.heap.size) (by repeat' (first|with_reducible (first|assumption|apply J0|apply J1|apply J2|apply J3|apply J4|apply J5|apply J6|apply J7|apply J8|apply J9)|(with_reducible show _ ≠ _;first|omega|(simp;done)))) q1; have B1 := Jb (b := w.heap.size + 1) (by repeat' (first|with_reducible (first|assumption|apply J0|apply J1|apply J2|apply J3|apply J4|apply J5|apply J6|apply J7|apply J8|apply J9)|(with_reducible show _ ≠ _;first|omega|(simp;done)))) q1)
          have C0 := Jc B0
          have C1 := Jc B1
          have L1 : Below w.heap.size w w1 := lowCall (lowAlloc (lowAlloc (lowRefl w) _) _) q1
          clear q1
          go_upto_region 24 with (go_at_call 84; (with_reducible refine (RB.out _ (HL.out.below L1)).mono ?_); rintro e w2 ⟨vb, rfl, rb, q2⟩; have B2 := B1.below q2)
          have C2 := Jc B2
          have ra2 := RowK.below ra q2
          have L2 := lowCall L1 q2
          clear q2 C0 C1 B0 B1 L1
          go_wp2_with (go_at_call 141; (with_reducible refine (HP.out va vb _ (SRow.seen ra2) (SRow.seen rb)).mono ?_); rintro e w3 ⟨vt, rfl, rt, q3⟩)
          go_ret
          exact ⟨_, rfl, RowK.mono rt L2.size, lowCall L2 q3⟩
    · clear hA1 hB1 hsh hka hkb IH FGH
      have hk2 : p.k ≤ 2 := by omega
      obtain h0 | h0 | h0 : p.k = 0 ∨ p.k = 1 ∨ p.k = 2 := by omega
      · rw [if_pos h0]
        have HC := Lib.hid ((hCut_at p.h r (hlf.1 h0) k).2.2)
        clear hlf
        show Calls Tryz.prog 84 _ w fun e w' => ∃ u, e = .returned u ∧ SRow w' w.heap.size u (lfSp (hCut p.h r) ((i : Int) + 1)) ∧ Below w.heap.size w w'
        generalize hCut p.h r = c2 at *
        obtain ⟨X, Y⟩ := c2
        simp only at HC
        unfold lfSp
        simp only
        by_cases hXY : X < Y
        · rw [if_pos hXY]
          have hYX : ¬ Y ≤ X := by omega
          go_enter Tryz.func84, Tryz.ntmps84
          go_wp2_with ((go_at_call 138; ((with_reducible refine (HC.out _).mono ?_); rintro e w' ⟨rfl, hbq⟩; (try (have B0 := Jb (b := w.heap.size) (by repeat' (first|with_reducible (first|assumption|apply J0|apply J1|apply J2|apply J3|apply J4|apply J5|apply J6|apply J7|apply J8|apply J9)|(with_reducible show _ ≠ _;first|omega|(simp;done)))) hbq; have C0 := Jc B0; have F0 := Jf B0)); (try (have B1 := Jb (b := w.heap.size + 1) (by repeat' (first|with_reducible (first|assumption|apply J0|apply J1|apply J2|apply J3|apply J4|apply J5|apply J6|apply J7|apply J8|apply J9)|(with_reducible show _ ≠ _;first|omega|(simp;done)))) hbq; have C1 := Jc B1; have F1 := Jf B1)); (try (have B2 := Jb (b := w.heap.size + 1 + 1) (by repeat' (first|with_reducible (first|assumption|apply J0|apply J1|apply J2|apply J3|apply J4|apply J5|apply J6|apply J7|apply J8|apply J9)|(with_reducible show _ ≠ _;first|omega|(simp;done)))) hbq; have C2 := Jc B2; have F2 := Jf B2)))))
          have hL : Below w.heap.size w w' := by repeat' (first|with_reducible (first|exact lowRefl _|apply lowSet|apply lowDrew|apply lowDrewN|apply lowAlloc)|(with_reducible refine lowCall ?_ (by assumption))|(show (_ : Nat) ≤ _;first|(simp;done)|(simp;omega)|omega))
          go_ret
          exact ⟨_, rfl, RowK.mono (lfRow w' ⟨X, Y, (i : Int) + 1, (i : Int) + 1⟩) hL.size, lowAlloc hL _⟩
        · rw [if_neg hXY]
          have hYX : Y ≤ X := by omega
          go_enter Tryz.func84, Tryz.ntmps84
          go_wp2_with ((go_at_call 138; ((with_reducible refine (HC.out _).mono ?_); rintro e w' ⟨rfl, hbq⟩; (try (have B0 := Jb (b := w.heap.size) (by repeat' (first|with_reducible (first|assumption|apply J0|apply J1|apply J2|apply J3|apply J4|apply J5|apply J6|apply J7|apply J8|apply J9)|(with_reducible show _ ≠ _;first|omega|(simp;done)))) hbq; have C0 := Jc B0; have F0 := Jf B0)); (try (have B1 := Jb (b := w.heap.size + 1) (by repeat' (first|with_reducible (first|assumption|apply J0|apply J1|apply J2|apply J3|apply J4|apply J5|apply J6|apply J7|apply J8|apply J9)|(with_reducible show _ ≠ _;first|omega|(simp;done)))) hbq; have C1 := Jc B1; have F1 := Jf B1)); (try (have B2 := Jb (b := w.heap.size + 1 + 1) (by repeat' (first|with_reducible (first|assumption|apply J0|apply J1|apply J2|apply J3|apply J4|apply J5|apply J6|apply J7|apply J8|apply J9)|(with_reducible show _ ≠ _;first|omega|(simp;done)))) hbq; have C2 := Jc B2; have F2 := Jf B2)))))
          have hL : Below w.heap.size w w' := by repeat' (first|with_reducible (first|exact lowRefl _|apply lowSet|apply lowDrew|apply lowDrewN|apply lowAlloc)|(with_reducible refine lowCall ?_ (by assumption))|(show (_ : Nat) ≤ _;first|(simp;done)|(simp;omega)|omega))
          go_ret
          exact ⟨_, rfl, spNil _ _, hL⟩
      · rw [if_neg (by omega), if_pos h0]
        have HC := Lib.hid ((bCut_at p.b r (hlf.2.1 h0) k).2.2)
        clear hlf
        show Calls Tryz.prog 84 _ w fun e w' => ∃ u, e = .returned u ∧ SRow w' w.heap.size u (lfSp (bCut p.b r) ((i : Int) + 1)) ∧ Below w.heap.size w w'
        generalize bCut p.b r = c2 at *
        obtain ⟨X, Y⟩ := c2
        simp only at HC
        unfold lfSp
        simp only
        by_cases hXY : X < Y
        · rw [if_pos hXY]
          have hYX : ¬ Y ≤ X := by omega
          go_enter Tryz.func84, Tryz.ntmps84
          go_wp2_with ((go_at_call 139; ((with_reducible refine (HC.out _).mono ?_); rintro e w' ⟨rfl, hbq⟩; (try (have B0 := Jb (b := w.heap.size) (by repeat' (first|with_reducible (first|assumption|apply J0|apply J1|apply J2|apply J3|apply J4|apply J5|apply J6|apply J7|apply J8|apply J9)|(with_reducible show _ ≠ _;first|omega|(simp;done)))) hbq; have C0 := Jc B0; have F0 := Jf B0)); (try (have B1 := Jb (b := w.heap.size + 1) (by repeat' (first|with_reducible (first|assumption|apply J0|apply J1|apply J2|apply J3|apply J4|apply J5|apply J6|apply J7|apply J8|apply J9)|(with_reducible show _ ≠ _;first|omega|(simp;done)))) hbq; have C1 := Jc B1; have F1 := Jf B1)); (try (have B2 := Jb (b := w.heap.size + 1 + 1) (by repeat' (first|with_reducible (first|assumption|apply J0|apply J1|apply J2|apply J3|apply J4|apply J5|apply J6|apply J7|apply J8|apply J9)|(with_reducible show _ ≠ _;first|omega|(simp;done)))) hbq; have C2 := Jc B2; have F2 := Jf B2)))))
          have hL : Below w.heap.size w w' := by repeat' (first|with_reducible (first|exact lowRefl _|apply lowSet|apply lowDrew|apply lowDrewN|apply lowAlloc)|(with_reducible refine lowCall ?_ (by assumption))|(show (_ : Nat) ≤ _;first|(simp;done)|(simp;omega)|omega))
          go_ret
          exact ⟨_, rfl, RowK.mono (lfRow w' ⟨X, Y, (i : Int) + 1, (i : Int) + 1⟩) hL.size, lowAlloc hL _⟩
        · rw [if_neg hXY]
          have hYX : Y ≤ X := by omega
          go_enter Tryz.func84, Tryz.ntmps84
          go_wp2_with ((go_at_call 139; ((with_reducible refine (HC.out _).mono ?_); rintro e w' ⟨rfl, hbq⟩; (try (have B0 := Jb (b := w.heap.size) (by repeat' (first|with_reducible (first|assumption|apply J0|apply J1|apply J2|apply J3|apply J4|apply J5|apply J6|apply J7|apply J8|apply J9)|(with_reducible show _ ≠ _;first|omega|(simp;done)))) hbq; have C0 := Jc B0; have F0 := Jf B0)); (try (have B1 := Jb (b := w.heap.size + 1) (by repeat' (first|with_reducible (first|assumption|apply J0|apply J1|apply J2|apply J3|apply J4|apply J5|apply J6|apply J7|apply J8|apply J9)|(with_reducible show _ ≠ _;first|omega|(simp;done)))) hbq; have C1 := Jc B1; have F1 := Jf B1)); (try (have B2 := Jb (b := w.heap.size + 1 + 1) (by repeat' (first|with_reducible (first|assumption|apply J0|apply J1|apply J2|apply J3|apply J4|apply J5|apply J6|apply J7|apply J8|apply J9)|(with_reducible show _ ≠ _;first|omega|(simp;done)))) hbq; have C2 := Jc B2; have F2 := Jf B2)))))
          have hL : Below w.heap.size w w' := by repeat' (first|with_reducible (first|exact lowRefl _|apply lowSet|apply lowDrew|apply lowDrewN|apply lowAlloc)|(with_reducible refine lowCall ?_ (by assumption))|(show (_ : Nat) ≤ _;first|(simp;done)|(simp;omega)|omega))
          go_ret
          exact ⟨_, rfl, spNil _ _, hL⟩
      · rw [if_neg (by omega), if_neg (by omega), if_pos h0]
        have HC := Lib.hid ((xCut_at p.x r (hlf.2.2 h0).1 k).2.2)
        clear hlf
        show Calls Tryz.prog 84 _ w fun e w' => ∃ u, e = .returned u ∧ SRow w' w.heap.size u (lfSp (xCut p.x r) ((i : Int) + 1)) ∧ Below w.heap.size w w'
        generalize xCut p.x r = c2 at *
        obtain ⟨X, Y⟩ := c2
        simp only at HC
        unfold lfSp
        simp only
        by_cases hXY : X < Y
        · rw [if_pos hXY]
          have hYX : ¬ Y ≤ X := by omega
          go_enter Tryz.func84, Tryz.ntmps84
          go_wp2_with ((go_at_call 140; ((with_reducible refine (HC.out _).mono ?_); rintro e w' ⟨rfl, hbq⟩; (try (have B0 := Jb (b := w.heap.size) (by repeat' (first|with_reducible (first|assumption|apply J0|apply J1|apply J2|apply J3|apply J4|apply J5|apply J6|apply J7|apply J8|apply J9)|(with_reducible show _ ≠ _;first|omega|(simp;done)))) hbq; have C0 := Jc B0; have F0 := Jf B0)); (try (have B1 := Jb (b := w.heap.size + 1) (by repeat' (first|with_reducible (first|assumption|apply J0|apply J1|apply J2|apply J3|apply J4|apply J5|apply J6|apply J7|apply J8|apply J9)|(with_reducible show _ ≠ _;first|omega|(simp;done)))) hbq; have C1 := Jc B1; have F1 := Jf B1)); (try (have B2 := Jb (b := w.heap.size + 1 + 1) (by repeat' (first|with_reducible (first|assumption|apply J0|apply J1|apply J2|apply J3|apply J4|apply J5|apply J6|apply J7|apply J8|apply J9)|(with_reducible show _ ≠ _;first|omega|(simp;done)))) hbq; have C2 := Jc B2; have F2 := Jf B2)))))
          have hL : Below w.heap.size w w' := by repeat' (first|with_reducible (first|exact lowRefl _|apply lowSet|apply lowDrew|apply lowDrewN|apply lowAlloc)|(with_reducible refine lowCall ?_ (by assumption))|(show (_ : Nat) ≤ _;first|(simp;done)|(simp;omega)|omega))
          go_ret
          exact ⟨_, rfl, RowK.mono (lfRow w' ⟨X, Y, (i : Int) + 1, (i : Int) + 1⟩) hL.size, lowAlloc hL _⟩
        · rw [if_neg hXY]
          have hYX : Y ≤ X := by omega
          go_enter Tryz.func84, Tryz.ntmps84
          go_wp2_with ((go_at_call 140; ((with_reducible refine (HC.out _).mono ?_); rintro e w' ⟨rfl, hbq⟩; (try (have B0 := Jb (b := w.heap.size) (by repeat' (first|with_reducible (first|assumption|apply J0|apply J1|apply J2|apply J3|apply J4|apply J5|apply J6|apply J7|apply J8|apply J9)|(with_reducible show _ ≠ _;first|omega|(simp;done)))) hbq; have C0 := Jc B0; have F0 := Jf B0)); (try (have B1 := Jb (b := w.heap.size + 1) (by repeat' (first|with_reducible (first|assumption|apply J0|apply J1|apply J2|apply J3|apply J4|apply J5|apply J6|apply J7|apply J8|apply J9)|(with_reducible show _ ≠ _;first|omega|(simp;done)))) hbq; have C1 := Jc B1; have F1 := Jf B1)); (try (have B2 := Jb (b := w.heap.size + 1 + 1) (by repeat' (first|with_reducible (first|assumption|apply J0|apply J1|apply J2|apply J3|apply J4|apply J5|apply J6|apply J7|apply J8|apply J9)|(with_reducible show _ ≠ _;first|omega|(simp;done)))) hbq; have C2 := Jc B2; have F2 := Jf B2)))))
          have hL : Below w.heap.size w w' := by repeat' (first|with_reducible (first|exact lowRefl _|apply lowSet|apply lowDrew|apply lowDrewN|apply lowAlloc)|(with_reducible refine lowCall ?_ (by assumption))|(show (_ : Nat) ≤ _;first|(simp;done)|(simp;omega)|omega))
          go_ret
          exact ⟨_, rfl, spNil _ _, hL⟩
/- the spans of a ray in a solid -/
def CutOk (l : List Pt) (r : Sx) : Prop := SolidP l ∧ Rok r.a r.b r.c r.d r.e r.f
noncomputable def sct (l : List Pt) (r : Sx) : List Sp := if dec (CutOk l r) then (shp (lvs l) (l.length - 1)).sp r else []
set_option maxRecDepth 100000 in
theorem iSolidCut_any (l : List Pt) (v : Value) (r : Sx) (w : World) (hl : PIn w v l) (hn : l.length ≤ 1048576) : Calls Tryz.prog 35 #[v, r.val] w fun e w' => ∃ u, e = .returned u ∧ SRow w' w.heap.size u (sct l r) ∧ Below w.heap.size w w' := by
  have HL := Lib.hid hl
  unfold sct
  by_cases hS : SolidP l
  · obtain ⟨m, hm⟩ : ∃ m, l.length = m + 1 := ⟨l.length - 1, by have := hS.1.1.1; omega⟩
    have HSO : Hid (∀ w, PIn w v l → Calls Tryz.prog 94 #[v] w fun e w' => e = .returned (.tuple #[(shp (lvs l) m).val, .bool true]) ∧ Below w.heap.size w w') := Lib.hid fun w h => shapeOf_yes l m v w h hn hS hm
    have h24 := hS.1.1.2
    by_cases hv : Rok r.a r.b r.c r.d r.e r.f
    · rw [dec_yes (show CutOk l r from ⟨hS, hv⟩), if_pos rfl, show l.length - 1 = m by omega]
      have hlen := lvs_len l
      have hok : (shp (lvs l) m).ok := shp_ok (wf_lvs hS) (m + 1) m (by omega) (by omega)
      have hsf : (shp (lvs l) m).sfc := shp_sfc (wf_lvs hS) (by omega) (m + 1) m (by omega) (by omega)
      have hnl := nl_le hS m (by omega)
      have HH := Lib.hid (cut_any r hv (shp (lvs l) m) hok hsf (by omega))
      have HV := Lib.hid hv
      clear hl hm hok hsf hnl hS hv hlen
      generalize shp (lvs l) m = s at *
      go_enter Tryz.func35, Tryz.ntmps35
      go_wp2_with (first | (go_at_call 94; (with_reducible refine (HSO.out _ (HL.out.below (lowAlloc (lowRefl w) _))).mono ?_); rintro e w' ⟨rfl, hbq⟩; (try (have B0 := Jb (b := w.heap.size) (by repeat' (first|with_reducible (first|assumption|apply J0|apply J1|apply J2|apply J3|apply J4|apply J5|apply J6|apply J7|apply J8|apply J9)|(with_reducible show _ ≠ _;first|omega|(simp;done)))) hbq; have C0 := Jc B0; have F0 := Jf B0)); (try (have B1 := Jb (b := w.heap.size + 1) (by repeat' (first|with_reducible (first|assumption|apply J0|apply J1|apply J2|apply J3|apply J4|apply J5|apply J6|apply J7|apply J8|apply J9)|(with_reducible show _ ≠ _;first|omega|(simp;done)))) hbq; have C1 := Jc B1; have F1 := Jf B1))) | (go_at_call 40; ((with_reducible refine (irayOk_yes _ _ _ _ _ _ _ HV.out).mono ?_); rintro e w' ⟨rfl, hbq⟩; (try (have B0 := Jb (b := w.heap.size) (by repeat' (first|with_reducible (first|assumption|apply J0|apply J1|apply J2|apply J3|apply J4|apply J5|apply J6|apply J7|apply J8|apply J9)|(with_reducible show _ ≠ _;first|omega|(simp;done)))) hbq; have C0 := Jc B0; have F0 := Jf B0)); (try (have B1 := Jb (b := w.heap.size + 1) (by repeat' (first|with_reducible (first|assumption|apply J0|apply J1|apply J2|apply J3|apply J4|apply J5|apply J6|apply J7|apply J8|apply J9)|(with_reducible show _ ≠ _;first|omega|(simp;done)))) hbq; have C1 := Jc B1; have F1 := Jf B1)))) | (go_at_fn (Sh.cutF s); (with_reducible refine (HH.out _).mono ?_); rintro e w3 ⟨u, rfl, ru, q3⟩))
      have hL : Below w.heap.size w w' := by repeat' (first|with_reducible (first|exact lowRefl _|apply lowSet|apply lowDrew|apply lowDrewN|apply lowAlloc)|(with_reducible refine lowCall ?_ (by assumption))|(show (_ : Nat) ≤ _;first|(simp;done)|(simp;omega)|omega))
      go_ret
      exact ⟨_, rfl, RowK.mono ru hL.size, lowCall hL q3⟩
    · rw [dec_no (fun h : CutOk l r => hv h.2), if_neg (by simp)]
      have HV := Lib.hid hv
      clear hl hm hS hv
      go_enter Tryz.func35, Tryz.ntmps35
      go_wp2_with (first | (go_at_call 94; (with_reducible refine (HSO.out _ (HL.out.below (lowAlloc (lowRefl w) _))).mono ?_); rintro e w' ⟨rfl, hbq⟩; (try (have B0 := Jb (b := w.heap.size) (by repeat' (first|with_reducible (first|assumption|apply J0|apply J1|apply J2|apply J3|apply J4|apply J5|apply J6|apply J7|apply J8|apply J9)|(with_reducible show _ ≠ _;first|omega|(simp;done)))) hbq; have C0 := Jc B0; have F0 := Jf B0)); (try (have B1 := Jb (b := w.heap.size + 1) (by repeat' (first|with_reducible (first|assumption|apply J0|apply J1|apply J2|apply J3|apply J4|apply J5|apply J6|apply J7|apply J8|apply J9)|(with_reducible show _ ≠ _;first|omega|(simp;done)))) hbq; have C1 := Jc B1; have F1 := Jf B1))) | (go_at_call 40; ((with_reducible refine (irayOk_no _ _ _ _ _ _ _ HV.out).mono ?_); rintro e w' ⟨rfl, hbq⟩; (try (have B0 := Jb (b := w.heap.size) (by repeat' (first|with_reducible (first|assumption|apply J0|apply J1|apply J2|apply J3|apply J4|apply J5|apply J6|apply J7|apply J8|apply J9)|(with_reducible show _ ≠ _;first|omega|(simp;done)))) hbq; have C0 := Jc B0; have F0 := Jf B0)); (try (have B1 := Jb (b := w.heap.size + 1) (by repeat' (first|with_reducible (first|assumption|apply J0|apply J1|apply J2|apply J3|apply J4|apply J5|apply J6|apply J7|apply J8|apply J9)|(with_reducible show _ ≠ _;first|omega|(simp;done)))) hbq; have C1 := Jc B1; have F1 := Jf B1)))))
      have hL : Below w.heap.size w w' := by repeat' (first|with_reducible (first|exact lowRefl _|apply lowSet|apply lowDrew|apply lowDrewN|apply lowAlloc)|(with_reducible refine lowCall ?_ (by assumption))|(show (_ : Nat) ≤ _;first|(simp;done)|(simp;omega)|omega))
      go_ret
      exact ⟨_, rfl, spNil _ _, hL⟩
  · rw [dec_no (fun h : CutOk l r => hS h.1), if_neg (by simp)]
    have HSO : Hid (∀ w, PIn w v l → Calls Tryz.prog 94 #[v] w fun e w' => e = .returned (.tuple #[.nilIface, .bool false]) ∧ Below w.heap.size w w') := Lib.hid fun w h => shapeOf_no l v w h hn hS
    clear hl hS
    go_enter Tryz.func35, Tryz.ntmps35
    go_wp2_with (go_at_call 94; (with_reducible refine (HSO.out _ (HL.out.below (lowAlloc (lowRefl w) _))).mono ?_); rintro e w' ⟨rfl, hbq⟩; (try (have B0 := Jb (b := w.heap.size) (by repeat' (first|with_reducible (first|assumption|apply J0|apply J1|apply J2|apply J3|apply J4|apply J5|apply J6|apply J7|apply J8|apply J9)|(with_reducible show _ ≠ _;first|omega|(simp;done)))) hbq; have C0 := Jc B0; have F0 := Jf B0)); (try (have B1 := Jb (b := w.heap.size + 1) (by repeat' (first|with_reducible (first|assumption|apply J0|apply J1|apply J2|apply J3|apply J4|apply J5|apply J6|apply J7|apply J8|apply J9)|(with_reducible show _ ≠ _;first|omega|(simp;done)))) hbq; have C1 := Jc B1; have F1 := Jf B1)))
    have hL : Below w.heap.size w w' := by repeat' (first|with_reducible (first|exact lowRefl _|apply lowSet|apply lowDrew|apply lowDrewN|apply lowAlloc)|(with_reducible refine lowCall ?_ (by assumption))|(show (_ : Nat) ≤ _;first|(simp;done)|(simp;omega)|omega))
    go_ret
    exact ⟨_, rfl, spNil _ _, hL⟩
end Go.Proofs.YtegibpepdndocabGreat
