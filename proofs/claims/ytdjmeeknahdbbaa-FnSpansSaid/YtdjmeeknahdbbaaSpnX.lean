
import Derived.Test.YtdjmeeknahdbbaaSpnV
namespace Go.Proofs.Ytdjmeeknahdbbaa
open Go.ChangeShapes Go.WideShapes Go.ChangeAt Go.RowKit
set_option maxHeartbeats 4000000
set_option maxRecDepth 8000
set_option linter.unusedSimpArgs false
set_option linter.unusedVariables false
attribute [local go_sem] VGo_value VGo_skip VGo_enter

theorem wFnSpans {A : Option Addr} {n c : Nat} {w : World} (hnc : n ≤ c) (hcap : c ≤ 9223372036854775807) (hcode : Code w w.heap.size A n) :
    Calls Try.prog 5 #[.slice A n c] w fun e w' => e = .returned (.bool true) ∧ Below w.heap.size w w' := by
  by_cases hn : 1048576 < n
  · go_enter Try.func5, Try.ntmps5
    go_wp2
    go_ret
    exact ⟨rfl, lowRefl w⟩
  go_enter Try.func5, Try.ntmps5
  go_upto_region 4 with (go_at_call 34; refine (drawBoth_any _ _ _ _ hnc hcap hcode).mono ?_; rintro e w1 ⟨v1, v2, a, b, rfl, ha4, hb4, hra, hrb, hL1⟩)
  clear hcode
  have na : a.length ≤ 9223372036854775807 := by omega
  have nb : b.length ≤ 9223372036854775807 := by omega
  have m0 : (spPut 0 a b).length ≤ 9223372036854775807 := Nat.le_trans spPut_le (by omega)
  have m1 : (spPut 1 a b).length ≤ 9223372036854775807 := Nat.le_trans spPut_le (by omega)
  have m2 : (spPut 2 a b).length ≤ 9223372036854775807 := Nat.le_trans spPut_le (by omega)
  go_upto_region 5 with (first | (go_at_call 35; (with_reducible refine (ispansBoth_any a b v1 v2 _ (SRow.seen hra) (SRow.seen hrb) na nb).mono ?_); rintro e w2 ⟨x0, rfl, r0, b0⟩) | (go_at_call 36; (with_reducible refine (ispansEither_any a b v1 v2 _ (SRow.seen (hra.below b0)) (SRow.seen (hrb.below b0)) na nb).mono ?_); rintro e w3 ⟨x1, rfl, r1, b1⟩) | (go_at_call 37; (with_reducible refine (ispansLess_any a b v1 v2 _ (SRow.seen ((hra.below b0).below b1)) (SRow.seen ((hrb.below b0).below b1)) na nb).mono ?_); rintro e w4 ⟨x2, rfl, r2, b2⟩))
  have hL4 := lowCall (lowCall (lowCall hL1 b0) b1) b2
  have Fa := Lib.hid (((hra.below b0).below b1).below b2)
  have Fb := Lib.hid (((hrb.below b0).below b1).below b2)
  have F0 := Lib.hid ((r0.below b1).below b2)
  have F1 := Lib.hid (r1.below b2)
  have F2 := Lib.hid r2
  clear hra hrb r0 r1 r2 b0 b1 b2 hL1
  go_upto_region 7 with (first | (go_at_call 39; (with_reducible refine (sspansBoth_any a b v1 v2 _ (SRow.seen Fa.out) (SRow.seen Fb.out) na nb).mono ?_); rintro e w5 ⟨y0, rfl, q0, d0⟩) | (go_at_call 38; (with_reducible refine (wlSpans_yes (spPut 0 a b) x0 y0 _ (SRow.seen (F0.out.below d0)) (SRow.seen q0) m0).mono ?_); rintro e w6 ⟨rfl, d1⟩; have D1 := lowCall d0 d1) | (go_at_call 40; (with_reducible refine (sspansEither_any a b v1 v2 _ (SRow.seen (Fa.out.below D1)) (SRow.seen (Fb.out.below D1)) na nb).mono ?_); rintro e w7 ⟨y1, rfl, q1, d2⟩; have D2 := lowCall D1 d2) | (go_at_call 38; (with_reducible refine (wlSpans_yes (spPut 1 a b) x1 y1 _ (SRow.seen (F1.out.below D2)) (SRow.seen q1) m1).mono ?_); rintro e w8 ⟨rfl, d3⟩; have D3 := lowCall D2 d3) | (go_at_call 41; (with_reducible refine (sspansLess_any a b v1 v2 _ (SRow.seen (Fa.out.below D3)) (SRow.seen (Fb.out.below D3)) na nb).mono ?_); rintro e w9 ⟨y2, rfl, q2, d4⟩; have D4 := lowCall D3 d4) | (go_at_call 38; (with_reducible refine (wlSpans_yes (spPut 2 a b) x2 y2 _ (SRow.seen (F2.out.below D4)) (SRow.seen q2) m2).mono ?_); rintro e w10 ⟨rfl, d5⟩; have D5 := lowCall D4 d5) | (go_at_call 42; (with_reducible refine (ispansOk_any a v1 _ (SRow.seen (Fa.out.below D5)) na).mono ?_); rintro e w11 ⟨rfl, d6⟩; have D6 := lowCall D5 d6) | (go_at_call 43; (with_reducible refine (sspansOk_any a v1 _ (SRow.seen (Fa.out.below D6)) na).mono ?_); rintro e w12 ⟨rfl, d7⟩; have D7 := lowCall D6 d7))
  have hL5 := lowCall hL4 D7
  have Ga := Lib.hid (Fa.out.below D7)
  have Gb := Lib.hid (Fb.out.below D7)
  have G0 := Lib.hid (F0.out.below D7)
  have G1 := Lib.hid (F1.out.below D7)
  have G2 := Lib.hid (F2.out.below D7)
  clear Fa Fb F0 F1 F2 d0 d1 d2 d3 d4 d5 d6 d7 D1 D2 D3 D4 D5 D6 D7 q0 q1 q2 hL4
  cases hka : sOk a
  · obtain ⟨A0, c0, e0, _⟩ := SRow.shape0 G0.out
    obtain ⟨A1, c1, e1, _⟩ := SRow.shape0 G1.out
    obtain ⟨A2, c2, e2, _⟩ := SRow.shape0 G2.out
    rw [spPut_no (by rw [hka]; simp)] at e0 e1 e2
    subst e0
    subst e1
    subst e2
    go_wp2_with (go_at_call 42; (with_reducible refine (ispansOk_any a v1 _ (SRow.seen Ga.out) na).mono ?_); rintro e w13 ⟨rfl, d1⟩; rw [hka])
    go_ret
    exact ⟨by first | rfl | simp, lowCall hL5 d1⟩
  cases hkb : sOk b
  · obtain ⟨A0, c0, e0, _⟩ := SRow.shape0 G0.out
    obtain ⟨A1, c1, e1, _⟩ := SRow.shape0 G1.out
    obtain ⟨A2, c2, e2, _⟩ := SRow.shape0 G2.out
    rw [spPut_no (by rw [hkb]; simp)] at e0 e1 e2
    subst e0
    subst e1
    subst e2
    go_wp2_with (first | (go_at_call 42; (with_reducible refine (ispansOk_any a v1 _ (SRow.seen Ga.out) na).mono ?_); rintro e w13 ⟨rfl, d1⟩; rw [hka]) | (go_at_call 42; (with_reducible refine (ispansOk_any b v2 _ (SRow.seen (Gb.out.below d1)) nb).mono ?_); rintro e w14 ⟨rfl, d2⟩; rw [hkb]))
    go_ret
    exact ⟨by first | rfl | simp, lowCall (lowCall hL5 d1) d2⟩
  go_upto_region 9 with (first | (go_at_call 42; (with_reducible refine (ispansOk_any a v1 _ (SRow.seen Ga.out) na).mono ?_); rintro e w13 ⟨rfl, d1⟩; rw [hka]) | (go_at_call 42; (with_reducible refine (ispansOk_any b v2 _ (SRow.seen (Gb.out.below d1)) nb).mono ?_); rintro e w14 ⟨rfl, d2⟩; rw [hkb]))
  have D2 := lowCall d1 d2
  have hL6 := lowCall hL5 D2
  have Ha := Ga.out.below D2
  have Hb := Gb.out.below D2
  have H0 := G0.out.below D2
  have H1 := G1.out.below D2
  have H2 := G2.out.below D2
  clear Ga Gb G0 G1 G2 D2 d1 d2 hL5
  have hE : SRow (w14.alloc (.cells #[] 60)) w14.heap.size (.slice (some ⟨w14.heap.size, 0, none⟩) 0 0) [] := RowK.empty w14 _ _ _ (Nat.le_refl _)
  have hEL : Below w14.heap.size w14 (w14.alloc (.cells #[] 60)) := by repeat' (first | with_reducible exact lowRefl _ | with_reducible apply lowSet | with_reducible apply lowDrew | with_reducible apply lowDrewN | with_reducible apply lowAlloc | (with_reducible refine lowCall ?_ (by assumption)) | (show (_ : Nat) ≤ _; first | (simp; done) | (simp; omega) | omega))
  go_wp2_with (first | (at_builtin; refine append_all _ rfl _ _ rfl w14.heap.size w.heap.size _ v1 _ a hE (Ha.below hEL) rfl rfl (by simp) (by omega) (by simp) ?_; intro vE wE hrE hgE; have LE : Below w14.heap.size w14 wE := hEL.grown hgE (by simp) (fun g hg => by have e : w14.heap.size = g := (by simpa [Value.ownBlock] using hg); omega)) | (at_builtin; refine append_all wE rfl _ _ rfl w14.heap.size w.heap.size _ v2 _ b hrE (Hb.below LE) rfl rfl (by simp; omega) (by omega) LE.size ?_; intro vF wF hrF hgF; have LF : Below w14.heap.size w14 wF := LE.grown hgF LE.size (fun g hg => (hrE.own.lt g hg).1); have hLL : ([] ++ a ++ b : List Sp) = a ++ b := (by simp); rw [hLL] at hrF; obtain ⟨L, hLe⟩ : ∃ L, a ++ b = L := ⟨_, rfl⟩; rw [hLe] at hrF; have SL := SRow.seen hrF; obtain ⟨AF, cF, eF, hAF⟩ := SL; subst eF))
  have hLn : L.length ≤ 8 := by rw [← hLe]; simp; omega
  have hLg : ∀ i (h : i < L.length), SpGood L[i] := fun i h => by
    have hm : L[i] ∈ a ++ b := by rw [hLe]; exact List.getElem_mem h
    rcases List.mem_append.1 hm with hm | hm
    · obtain ⟨j, hj, e⟩ := List.getElem_of_mem hm
      rw [← e]; exact (((sOk_iff a).1 hka).2 j hj).1
    · obtain ⟨j, hj, e⟩ := List.getElem_of_mem hm
      rw [← e]; exact (((sOk_iff b).1 hkb).2 j hj).1
  have HLG := Lib.hid hLg
  have HAF := Lib.hid hAF
  clear hLg hAF hrE hgE LE hE hEL hrF hgF hLL hLe
  have hL7 := lowCall hL6 LF
  have Sa := Lib.hid (SRow.seen (Ha.below LF))
  have Sb := Lib.hid (SRow.seen (Hb.below LF))
  have S0 := Lib.hid (SRow.seen (H0.below LF))
  have S1 := Lib.hid (SRow.seen (H1.below LF))
  have S2 := Lib.hid (SRow.seen (H2.below LF))
  clear Ha Hb H0 H1 H2 LF hL6
  have h200 : 2 * a.length + 2 * b.length ≤ 200 := by omega
  obtain ⟨p0, k0, l0, t0⟩ := put_facts (op := 0) hka hkb h200
  obtain ⟨p1, k1, l1, t1⟩ := put_facts (op := 1) hka hkb h200
  obtain ⟨p2, k2, l2, t2⟩ := put_facts (op := 2) hka hkb h200
  obtain ⟨z1, z2⟩ := total_sums ((sOk_iff a).1 hka).2 ((sOk_iff b).1 hkb).2
  rw [← p0, ← p1] at z1
  rw [← p0, ← p2] at z2
  have T0 := Lib.hid t0
  have T1 := Lib.hid t1
  have T2 := Lib.hid t2
  clear t0 t1 t2 p0 p1 p2
  obtain ⟨la1, la2, la3⟩ := spLong_ok hka
  obtain ⟨lb1, lb2, lb3⟩ := spLong_ok hkb
  obtain ⟨m01, m02, m03⟩ := spLong_ok k0
  obtain ⟨m11, m12, m13⟩ := spLong_ok k1
  obtain ⟨m21, m22, m23⟩ := spLong_ok k2
  rw [← la1] at la2 la3 z1 z2
  rw [← lb1] at lb2 lb3 z1
  rw [← m01] at m02 m03 z1 z2
  rw [← m11] at m12 m13 z1
  rw [← m21] at m22 m23 z2
  clear la1 lb1 m01 m11 m21
  have KA := Lib.hid hka
  have KB := Lib.hid hkb
  have K0 := Lib.hid k0
  have K1 := Lib.hid k1
  have K2 := Lib.hid k2
  clear hka hkb k0 k1 k2
  go_wp2
  go_loopw [83] (fun i wr => ∃ j : Nat, j ≤ L.length ∧ i = .int .i64 j ∧ Below wF.heap.size wF wr) (fun i _ => L.length - (intOf i).toNat)
  case atStart => exact ⟨0, by omega, rfl, lowRefl wF⟩
  case round =>
    obtain ⟨j, hj, rfl, hb⟩ := hrel
    by_cases hc : j < L.length
    · obtain ⟨bL, oL, rfl, hf⟩ := HAF.out (by omega)
      obtain ⟨q0, q1, q2, q3⟩ := (hf j hc).below hb
      clear hf
      have hgd := HLG.out j hc
      unfold SpGood at hgd
      obtain ⟨g1, g2, g3, g4, _⟩ := hgd
      go_upto_region 12 with fail
      refine (fun (k : ∀ wm, Has wm wr.heap.size #[.int .i64 L[j].f, .int .i64 L[j].t, .int .i64 L[j].i, .int .i64 L[j].o] 60 → Below wF.heap.size wF wm → Code.wp _ _ _ _ wm) => k _ ?_ ?_) ?_
      · (refine Has.as (by repeat' (first | with_reducible assumption | with_reducible apply Has.new | with_reducible apply Has.new1 | with_reducible apply Has.new2 | with_reducible apply Has.new3 | with_reducible apply Has.new4 | with_reducible apply Has.drew | with_reducible apply Has.drewN | with_reducible apply Has.alloc | with_reducible apply Has.same | with_reducible apply Has.other | (with_reducible show _ ≠ _; first | omega | (simp; done)))) ?_; first | (with_reducible rfl) | (simp only [List.setIfInBounds_toArray, List.set_cons_zero, List.set_cons_succ]; done) | (simp only [List.setIfInBounds_toArray, List.set_cons_zero, List.set_cons_succ]; rfl) | rfl | (simp; done))
      · repeat' (first | with_reducible exact lowRefl _ | with_reducible apply lowSet | with_reducible apply lowDrew | with_reducible apply lowDrewN | with_reducible apply lowAlloc | (with_reducible refine lowCall ?_ (by assumption)) | (show (_ : Nat) ≤ _; first | (simp; done) | (simp; omega) | omega))
      generalize wr.heap.size = bX
      clear hb q0 q1 q2 q3 wr
      intro wr BX hb
      have CX := Has.cell BX
      go_wp2
      have BX2 : Has (wr.alloc (.cells #[.int .i64 (L[j].f - 1), .int .i64 L[j].f, .int .i64 (L[j].t - 1), .int .i64 L[j].t] 3)) wr.heap.size #[.int .i64 (L[j].f - 1), .int .i64 L[j].f, .int .i64 (L[j].t - 1), .int .i64 L[j].t] 3 := Has.new _ _ _
      have hb1 : Below wF.heap.size wF (wr.alloc (.cells #[.int .i64 (L[j].f - 1), .int .i64 L[j].f, .int .i64 (L[j].t - 1), .int .i64 L[j].t] 3)) := by repeat' (first | with_reducible exact lowRefl _ | with_reducible apply lowSet | with_reducible apply lowDrew | with_reducible apply lowDrewN | with_reducible apply lowAlloc | (with_reducible refine lowCall ?_ (by assumption)) | (show (_ : Nat) ≤ _; first | (simp; done) | (simp; omega) | omega))
      generalize wr.alloc (.cells #[.int .i64 (L[j].f - 1), .int .i64 L[j].f, .int .i64 (L[j].t - 1), .int .i64 L[j].t] 3) = wI at *
      generalize wr.heap.size = bT at *
      clear BX CX hb
      go_loopw [99] (fun i wr2 => ∃ k : Nat, k ≤ 4 ∧ i = .int .i64 k ∧ Has wr2 bT #[.int .i64 (L[j].f - 1), .int .i64 L[j].f, .int .i64 (L[j].t - 1), .int .i64 L[j].t] 3 ∧ Below wF.heap.size wF wr2) (fun i _ => 4 - (intOf i).toNat)
      case atStart => exact ⟨0, by omega, rfl, BX2, hb1⟩
      case round =>
        clear BX2 hb1
        obtain ⟨k, hk, rfl, BX, hb2⟩ := hrel
        by_cases hk4 : k < 4
        · obtain ⟨z, hz⟩ : ∃ z : Int, (#[.int .i64 (L[j].f - 1), .int .i64 L[j].f, .int .i64 (L[j].t - 1), .int .i64 L[j].t] : Array Value)[k]? = some (.int .i64 z) := by
            have : k = 0 ∨ k = 1 ∨ k = 2 ∨ k = 3 := by omega
            rcases this with rfl | rfl | rfl | rfl <;> exact ⟨_, rfl⟩
          have cz := (Has.cell BX k).trans hz
          clear hz
          have e1 := spAtOk_hits KA.out z
          have e2 := spAtOk_hits KB.out z
          have E3 := spAtOk_hits K0.out z
          have E4 := spAtOk_hits K1.out z
          have E5 := spAtOk_hits K2.out z
          rw [T0.out] at E3
          rw [T1.out] at E4
          rw [T2.out] at E5
          generalize hits a z = X at *
          generalize hits b z = Y at *
          have nA : a.length ≤ 9223372036854775807 := by omega
          cases X <;> cases Y
          · have f1 : decide (0 ≤ spAtOk a z) = false := e1
            have f2 : decide (0 ≤ spAtOk b z) = false := e2
            have f3 : decide (0 ≤ spAtOk (spPut 0 a b) z) = false := E3
            have f4 : decide (0 ≤ spAtOk (spPut 1 a b) z) = false := E4
            have f5 : decide (0 ≤ spAtOk (spPut 2 a b) z) = false := E5
            clear e1 e2 E3 E4 E5
            go_wp2_with (first | (go_at_call 44; (with_reducible refine (ispansAt_any a v1 z _ (Sa.out.below hb2) (by omega)).mono ?_); rintro e u1 ⟨rfl, dQ1⟩; have Q1 := lowCall hb2 dQ1) | (go_at_call 44; (with_reducible refine (ispansAt_any b v2 z _ (Sb.out.below Q1) (by omega)).mono ?_); rintro e u2 ⟨rfl, dQ2⟩; have Q2 := lowCall Q1 dQ2) | (go_at_call 44; (with_reducible refine (ispansAt_any (spPut 0 a b) x0 z _ (S0.out.below Q2) (by omega)).mono ?_); rintro e u3 ⟨rfl, dQ3⟩; have Q3 := lowCall Q2 dQ3) | (go_at_call 44; (with_reducible refine (ispansAt_any (spPut 1 a b) x1 z _ (S1.out.below Q3) (by omega)).mono ?_); rintro e u4 ⟨rfl, dQ4⟩; have Q4 := lowCall Q3 dQ4) | (go_at_call 44; (with_reducible refine (ispansAt_any (spPut 2 a b) x2 z _ (S2.out.below Q4) (by omega)).mono ?_); rintro e u5 ⟨rfl, dQ5⟩; have Q5 := lowCall Q4 dQ5))
            go_roundw
            case rel => exact ⟨k + 1, by omega, by go_num, BX.below (lowCall (lowCall (lowCall (lowCall dQ1 dQ2) dQ3) dQ4) dQ5), Q5⟩
            case measure => simp [intOf]; omega
          · have f1 : decide (0 ≤ spAtOk a z) = false := e1
            have f2 : decide (0 ≤ spAtOk b z) = true := e2
            have f3 : decide (0 ≤ spAtOk (spPut 0 a b) z) = false := E3
            have f4 : decide (0 ≤ spAtOk (spPut 1 a b) z) = true := E4
            have f5 : decide (0 ≤ spAtOk (spPut 2 a b) z) = false := E5
            clear e1 e2 E3 E4 E5
            go_wp2_with (first | (go_at_call 44; (with_reducible refine (ispansAt_any a v1 z _ (Sa.out.below hb2) (by omega)).mono ?_); rintro e u1 ⟨rfl, dQ1⟩; have Q1 := lowCall hb2 dQ1) | (go_at_call 44; (with_reducible refine (ispansAt_any b v2 z _ (Sb.out.below Q1) (by omega)).mono ?_); rintro e u2 ⟨rfl, dQ2⟩; have Q2 := lowCall Q1 dQ2) | (go_at_call 44; (with_reducible refine (ispansAt_any (spPut 0 a b) x0 z _ (S0.out.below Q2) (by omega)).mono ?_); rintro e u3 ⟨rfl, dQ3⟩; have Q3 := lowCall Q2 dQ3) | (go_at_call 44; (with_reducible refine (ispansAt_any (spPut 1 a b) x1 z _ (S1.out.below Q3) (by omega)).mono ?_); rintro e u4 ⟨rfl, dQ4⟩; have Q4 := lowCall Q3 dQ4) | (go_at_call 44; (with_reducible refine (ispansAt_any (spPut 2 a b) x2 z _ (S2.out.below Q4) (by omega)).mono ?_); rintro e u5 ⟨rfl, dQ5⟩; have Q5 := lowCall Q4 dQ5))
            go_roundw
            case rel => exact ⟨k + 1, by omega, by go_num, BX.below (lowCall (lowCall (lowCall (lowCall dQ1 dQ2) dQ3) dQ4) dQ5), Q5⟩
            case measure => simp [intOf]; omega
          · have f1 : decide (0 ≤ spAtOk a z) = true := e1
            have f2 : decide (0 ≤ spAtOk b z) = false := e2
            have f3 : decide (0 ≤ spAtOk (spPut 0 a b) z) = false := E3
            have f4 : decide (0 ≤ spAtOk (spPut 1 a b) z) = true := E4
            have f5 : decide (0 ≤ spAtOk (spPut 2 a b) z) = true := E5
            clear e1 e2 E3 E4 E5
            go_wp2_with (first | (go_at_call 44; (with_reducible refine (ispansAt_any a v1 z _ (Sa.out.below hb2) (by omega)).mono ?_); rintro e u1 ⟨rfl, dQ1⟩; have Q1 := lowCall hb2 dQ1) | (go_at_call 44; (with_reducible refine (ispansAt_any b v2 z _ (Sb.out.below Q1) (by omega)).mono ?_); rintro e u2 ⟨rfl, dQ2⟩; have Q2 := lowCall Q1 dQ2) | (go_at_call 44; (with_reducible refine (ispansAt_any (spPut 0 a b) x0 z _ (S0.out.below Q2) (by omega)).mono ?_); rintro e u3 ⟨rfl, dQ3⟩; have Q3 := lowCall Q2 dQ3) | (go_at_call 44; (with_reducible refine (ispansAt_any (spPut 1 a b) x1 z _ (S1.out.below Q3) (by omega)).mono ?_); rintro e u4 ⟨rfl, dQ4⟩; have Q4 := lowCall Q3 dQ4) | (go_at_call 44; (with_reducible refine (ispansAt_any (spPut 2 a b) x2 z _ (S2.out.below Q4) (by omega)).mono ?_); rintro e u5 ⟨rfl, dQ5⟩; have Q5 := lowCall Q4 dQ5))
            go_roundw
            case rel => exact ⟨k + 1, by omega, by go_num, BX.below (lowCall (lowCall (lowCall (lowCall dQ1 dQ2) dQ3) dQ4) dQ5), Q5⟩
            case measure => simp [intOf]; omega
          · have f1 : decide (0 ≤ spAtOk a z) = true := e1
            have f2 : decide (0 ≤ spAtOk b z) = true := e2
            have f3 : decide (0 ≤ spAtOk (spPut 0 a b) z) = true := E3
            have f4 : decide (0 ≤ spAtOk (spPut 1 a b) z) = true := E4
            have f5 : decide (0 ≤ spAtOk (spPut 2 a b) z) = false := E5
            clear e1 e2 E3 E4 E5
            go_wp2_with (first | (go_at_call 44; (with_reducible refine (ispansAt_any a v1 z _ (Sa.out.below hb2) (by omega)).mono ?_); rintro e u1 ⟨rfl, dQ1⟩; have Q1 := lowCall hb2 dQ1) | (go_at_call 44; (with_reducible refine (ispansAt_any b v2 z _ (Sb.out.below Q1) (by omega)).mono ?_); rintro e u2 ⟨rfl, dQ2⟩; have Q2 := lowCall Q1 dQ2) | (go_at_call 44; (with_reducible refine (ispansAt_any (spPut 0 a b) x0 z _ (S0.out.below Q2) (by omega)).mono ?_); rintro e u3 ⟨rfl, dQ3⟩; have Q3 := lowCall Q2 dQ3) | (go_at_call 44; (with_reducible refine (ispansAt_any (spPut 1 a b) x1 z _ (S1.out.below Q3) (by omega)).mono ?_); rintro e u4 ⟨rfl, dQ4⟩; have Q4 := lowCall Q3 dQ4) | (go_at_call 44; (with_reducible refine (ispansAt_any (spPut 2 a b) x2 z _ (S2.out.below Q4) (by omega)).mono ?_); rintro e u5 ⟨rfl, dQ5⟩; have Q5 := lowCall Q4 dQ5))
            go_roundw
            case rel => exact ⟨k + 1, by omega, by go_num, BX.below (lowCall (lowCall (lowCall (lowCall dQ1 dQ2) dQ3) dQ4) dQ5), Q5⟩
            case measure => simp [intOf]; omega
        · obtain rfl : k = 4 := by omega
          go_wp2
          go_roundw
          case rel => exact ⟨j + 1, by omega, by go_num, hb2⟩
          case measure => simp [intOf]; omega
    · obtain rfl : j = L.length := by omega
      have y1 : (spLong (spPut 0 a b) + spLong (spPut 1 a b) == spLong a + spLong b) = true := by simpa using z1
      have y2 : (spLong (spPut 2 a b) + spLong (spPut 0 a b) == spLong a) = true := by simpa using z2
      clear z1 z2
      go_wp2_with (first | (go_at_call 42; (with_reducible refine (ispansOk_any (spPut 0 a b) x0 _ (S0.out.below hb) (by omega)).mono ?_); rintro e uP1 ⟨rfl, dP1⟩; rw [K0.out]; have P1 := lowCall hb dP1) | (go_at_call 42; (with_reducible refine (ispansOk_any (spPut 1 a b) x1 _ (S1.out.below P1) (by omega)).mono ?_); rintro e uP2 ⟨rfl, dP2⟩; rw [K1.out]; have P2 := lowCall P1 dP2) | (go_at_call 42; (with_reducible refine (ispansOk_any (spPut 2 a b) x2 _ (S2.out.below P2) (by omega)).mono ?_); rintro e uP3 ⟨rfl, dP3⟩; rw [K2.out]; have P3 := lowCall P2 dP3) | (go_at_call 45; (with_reducible refine (ispansLong_any (spPut 0 a b) x0 _ (S0.out.below P3) (by omega)).mono ?_); rintro e uP4 ⟨rfl, dP4⟩; have P4 := lowCall P3 dP4) | (go_at_call 45; (with_reducible refine (ispansLong_any (spPut 1 a b) x1 _ (S1.out.below P4) (by omega)).mono ?_); rintro e uP5 ⟨rfl, dP5⟩; have P5 := lowCall P4 dP5) | (go_at_call 45; (with_reducible refine (ispansLong_any a v1 _ (Sa.out.below P5) (by omega)).mono ?_); rintro e uP6 ⟨rfl, dP6⟩; have P6 := lowCall P5 dP6) | (go_at_call 45; (with_reducible refine (ispansLong_any b v2 _ (Sb.out.below P6) (by omega)).mono ?_); rintro e uP7 ⟨rfl, dP7⟩; have P7 := lowCall P6 dP7) | (go_at_call 45; (with_reducible refine (ispansLong_any (spPut 2 a b) x2 _ (S2.out.below P7) (by omega)).mono ?_); rintro e uP8 ⟨rfl, dP8⟩; have P8 := lowCall P7 dP8) | (go_at_call 45; (with_reducible refine (ispansLong_any (spPut 0 a b) x0 _ (S0.out.below P8) (by omega)).mono ?_); rintro e uP9 ⟨rfl, dP9⟩; have P9 := lowCall P8 dP9) | (go_at_call 45; (with_reducible refine (ispansLong_any a v1 _ (Sa.out.below P9) (by omega)).mono ?_); rintro e uP10 ⟨rfl, dP10⟩; have P10 := lowCall P9 dP10))
      go_ret
      exact ⟨rfl, lowCall hL7 P10⟩
end Go.Proofs.Ytdjmeeknahdbbaa
