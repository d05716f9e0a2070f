
import Derived.Test.YtdjmeeknahdbbaaSpnV
import Derived.Test.YtdjmeeknahdbbaaSpnY
namespace Go.Proofs.Ytdjmeeknahdbbaa
open Go.ChangeShapes Go.WideShapes Go.ChangeAt Go.RowKit
set_option maxHeartbeats 4000000
set_option maxRecDepth 8000
set_option linter.unusedSimpArgs false
set_option linter.unusedVariables false

theorem Code.up {w w' : World} {n : Nat} {A : Option Addr} (h : Code w w.heap.size A n) (hb : Below w.heap.size w w') : Code w' w'.heap.size A n := fun hn => by
  obtain ⟨b, off, e, hlt, hc⟩ := h hn
  refine ⟨b, off, e, Nat.lt_of_lt_of_le hlt hb.size, fun j hj => ?_⟩
  obtain ⟨x, x0, x1, hx⟩ := hc j hj
  exact ⟨x, x0, x1, by rw [World.cell?_of_block (hb.block b hlt)]; exact hx⟩
def DrawW (w : World) (e : Ending) (w' : World) : Prop := ∃ v l p q, e = .returned (.tuple #[v, .int .i64 p, .int .i64 q]) ∧ l.length ≤ 4 ∧ SRow w' w.heap.size v l ∧ Below w.heap.size w w'
theorem drawWithin_any (A : Option Addr) (n c : Nat) (w : World) (hnc : n ≤ c) (hcap : c ≤ 9223372036854775807) (hcode : Code w w.heap.size A n) :
    Calls Try.prog 47 #[.slice A n c] w (DrawW w) := by
  go_enter Try.func47, Try.ntmps47
  go_upto_region 2 with (go_at_call 58; refine (open_any _ _ _ _ hnc hcap hcode).mono ?_; rintro e w1 ⟨g, n', rfl, hrd1, hlow⟩)
  have hlo := hrd1.lo
  have hsz := hlow.size
  go_wp2_with (first | (go_at_call 91; (with_reducible refine (l5Some_any w.heap.size g n' c _ A _ hrd1 (by omega)).mono ?_); rintro e u2 ⟨v1, a, rfl, ha, hr2, rd2, hG2⟩) | (go_at_call 62; (with_reducible refine (pick_any w.heap.size g n' c _ A _ _ rd2 (by omega) (by omega)).mono ?_); rintro e u3 ⟨x1, rfl, p2, q2, rd3, by3⟩; have hr3 := RowK.pick hr2 rd2 (by decide) by3; have hG3 := by_trans hG2 by3) | (go_at_call 92; have hnum := num_rdP (w := u3) (t := 3) (k := 4) (cap := 4) (cs := #[.int .i64 (x1 - 4), .int .i64 (0), .int .i64 (-1073741824), .int .i64 (1073741825)]) (fun _ => True) rd3 (by omega) (by omega) (by omega) ⟨⟨_, rfl, trivial⟩, ⟨_, rfl, trivial⟩, ⟨_, rfl, trivial⟩, ⟨_, rfl, trivial⟩, trivial⟩ rfl; (with_reducible refine hnum.mono ?_); clear hnum; rintro e u4 ⟨z1, rfl, _, rd4, by4⟩; have hr4 := RowK.pick (hr3.alloc (.cells #[.int .i64 (x1 - 4), .int .i64 (0), .int .i64 (-1073741824), .int .i64 (1073741825)] 3)) (rd3.alloc (.cells #[.int .i64 (x1 - 4), .int .i64 (0), .int .i64 (-1073741824), .int .i64 (1073741825)] 3)) (by decide) by4; have hG4 := by_trans (gAlloc hG3 (.cells #[.int .i64 (x1 - 4), .int .i64 (0), .int .i64 (-1073741824), .int .i64 (1073741825)] 3)) by4) | (go_at_call 62; (with_reducible refine (pick_any w.heap.size g n' c _ A _ _ rd4 (by omega) (by omega)).mono ?_); rintro e u5 ⟨x2, rfl, p4, q4, rd5, by5⟩; have hr5 := RowK.pick hr4 rd4 (by decide) by5; have hG5 := by_trans hG4 by5) | (go_at_call 62; (with_reducible refine (pick_any w.heap.size g n' c _ A _ _ rd5 (by omega) (by omega)).mono ?_); rintro e u6 ⟨x3, rfl, p5, q5, rd6, by6⟩; have hr6 := RowK.pick hr5 rd5 (by decide) by6; have hG6 := by_trans hG5 by6) | (go_at_call 92; have hnum := num_rdP (w := u6) (t := 3) (k := 3) (cap := 3) (cs := #[.int .i64 (x2), .int .i64 (x3), .int .i64 (1073741824)]) (fun _ => True) rd6 (by omega) (by omega) (by omega) ⟨⟨_, rfl, trivial⟩, ⟨_, rfl, trivial⟩, ⟨_, rfl, trivial⟩, trivial⟩ rfl; (with_reducible refine hnum.mono ?_); clear hnum; rintro e u7 ⟨z2, rfl, _, rd7, by7⟩; have hr7 := RowK.pick (hr6.alloc (.cells #[.int .i64 (x2), .int .i64 (x3), .int .i64 (1073741824)] 3)) (rd6.alloc (.cells #[.int .i64 (x2), .int .i64 (x3), .int .i64 (1073741824)] 3)) (by decide) by7; have hG7 := by_trans (gAlloc hG6 (.cells #[.int .i64 (x2), .int .i64 (x3), .int .i64 (1073741824)] 3)) by7))
  have hL := lowBy hlow hG7 hsz hlo
  exact bodyPost_ret (v := .tuple #[v1, .int .i64 z1, .int .i64 z2]) (by first | (simp [results, Try.results47, go_sem]; done) | (simp [results, Try.results47, go_sem, *]; done)) rfl ⟨v1, a, z1, z2, rfl, ha, hr7.mono hsz, hL⟩
/- what is put together of what is put together -/
theorem rules_facts {a b : List Sp} (ha : sOk a = true) (hb : sOk b = true) (la : a.length ≤ 4) (lb : b.length ≤ 4) :
    (∀ u, hits (spPut 1 (spPut 2 a b) (spPut 0 a b)) u = hits a u) ∧ (∀ u, hits (spPut 2 (spPut 1 a b) (spPut 2 b a)) u = hits a u) ∧ (∀ u, hits (spPut 0 b a) u = hits (spPut 0 a b) u) ∧ spPut 2 a a = [] ∧ spPut 1 a a = a ∧
    sOk (spPut 1 (spPut 2 a b) (spPut 0 a b)) = true ∧ sOk (spPut 2 (spPut 1 a b) (spPut 2 b a)) = true ∧ sOk (spPut 0 a b) = true ∧ sOk (spPut 0 b a) = true := by
  obtain ⟨p0, k0, l0, t0⟩ := put_facts (op := 0) ha hb (by omega)
  obtain ⟨p1, k1, l1, t1⟩ := put_facts (op := 1) ha hb (by omega)
  obtain ⟨p2, k2, l2, t2⟩ := put_facts (op := 2) ha hb (by omega)
  obtain ⟨r0, s0, m0, u0⟩ := put_facts (op := 0) hb ha (by omega)
  obtain ⟨r2, s2, m2, u2⟩ := put_facts (op := 2) hb ha (by omega)
  obtain ⟨_, kx, _, tx⟩ := put_facts (op := 1) k2 k0 (by omega)
  obtain ⟨_, ky, _, ty⟩ := put_facts (op := 2) k1 s2 (by omega)
  have hga := ((sOk_iff a).1 ha).2
  have hal := ((sOk_iff a).1 ha).1
  refine ⟨fun u => ?_, fun u => ?_, fun u => ?_, ?_, ?_, kx, ky, k0, s0⟩
  · rw [tx, t2, t0]
    show ((hits a u && !hits b u) || (hits a u && hits b u)) = hits a u
    cases hits a u <;> cases hits b u <;> rfl
  · rw [ty, t1, u2]
    show ((hits a u || hits b u) && !(hits b u && !hits a u)) = hits a u
    cases hits a u <;> cases hits b u <;> rfl
  · rw [u0, t0]
    show (hits b u && hits a u) = (hits a u && hits b u)
    cases hits a u <;> cases hits b u <;> rfl
  · rw [spPut_yes ⟨ha, ha⟩, putS, total_none hga]; rfl
  · rw [spPut_yes ⟨ha, ha⟩, putS, total_self]; exact told_le hal
theorem wFnSpansRules {A : Option Addr} {n c : Nat} {w : World} (hnc : n ≤ c) (hcap : c ≤ 9223372036854775807) (hcode : Code w w.heap.size A n) :
    Calls Try.prog 6 #[.slice A n c] w fun e w' => e = .returned (.bool true) ∧ Below w.heap.size w w' := by
  by_cases hn : 1048576 < n
  · go_enter Try.func6, Try.ntmps6
    go_wp2
    go_ret
    exact ⟨rfl, lowRefl w⟩
  go_enter Try.func6, Try.ntmps6
  go_upto_region 5 with (first | (go_at_call 46; (with_reducible refine (drawEither_any A n c w hnc hcap hcode).mono ?_); rintro e w1 ⟨v1, v2, a, b, rfl, ha4, hb4, hra, hrb, hL1⟩; have hcode2 := Code.up hcode hL1) | (go_at_call 47; (with_reducible refine (drawWithin_any A n c w1 hnc hcap hcode2).mono ?_); rintro e w2 ⟨v3, l, p, q, rfl, hl4, hrl, hL2⟩))
  have hL := lowCall hL1 hL2
  have Fa := Lib.hid (SRow.seen (hra.below hL2))
  have Fb := Lib.hid (SRow.seen (hrb.below hL2))
  have Fl := Lib.hid (SRow.seen hrl)
  clear hra hrb hrl hL1 hL2 hcode hcode2
  have na : a.length ≤ 9223372036854775807 := by omega
  have nb : b.length ≤ 9223372036854775807 := by omega
  have nl : l.length ≤ 9223372036854775807 := by omega
  have nw : (spWithin l p q).length ≤ 9223372036854775807 := by
    have : (spWithin l p q).length ≤ l.length := by
      unfold spWithin; split
      · exact spInner_len l p q
      · simp
    omega
  have nput : ∀ op x y, (spPut op x y).length ≤ 9223372036854775807 := fun op x y => Nat.le_trans spPut_le (by omega)
  have NP := Lib.hid nput
  clear nput
  go_upto_region 6 with (go_at_call 48; (with_reducible refine (ispansWithin_any l v3 p q _ (Fl.out.below (lowRefl w2)) nl).mono ?_); rintro e x1 ⟨y1, rfl, r1, d1⟩; have D1 := lowCall (lowRefl w2) d1)
  go_upto_region 8 with (first | (go_at_call 49; (with_reducible refine (sspansWithin_any l v3 p q _ (Fl.out.below D1) nl).mono ?_); rintro e x2 ⟨y2, rfl, r2, d2⟩; have D2 := lowCall D1 d2) | (go_at_call 38; (with_reducible refine (wlSpans_yes (spWithin l p q) y1 y2 _ ((SRow.seen r1).below d2) (SRow.seen r2) nw).mono ?_); rintro e x3 ⟨rfl, d3⟩; have D3 := lowCall D2 d3) | (go_at_call 42; (with_reducible refine (ispansOk_any b v2 _ (Fb.out.below D3) nb).mono ?_); rintro e x4 ⟨rfl, d4⟩; have D4 := lowCall D3 d4) | (go_at_call 43; (with_reducible refine (sspansOk_any b v2 _ (Fb.out.below D4) nb).mono ?_); rintro e x5 ⟨rfl, d5⟩; have D5 := lowCall D4 d5) | (go_at_call 44; (with_reducible refine (ispansAt_any l v3 p _ (Fl.out.below D5) nl).mono ?_); rintro e x6 ⟨rfl, d6⟩; have D6 := lowCall D5 d6) | (go_at_call 50; (with_reducible refine (sspansAt_any l v3 p _ (Fl.out.below D6) nl).mono ?_); rintro e x7 ⟨rfl, d7⟩; have D7 := lowCall D6 d7))
  cases hka : sOk a
  · go_wp2_with (first | (go_at_call 42; (with_reducible refine (ispansOk_any a v1 _ (Fa.out.below D7) na).mono ?_); rintro e x8 ⟨rfl, d8⟩; rw [hka]; have D8 := lowCall D7 d8) | (go_at_call 45; (with_reducible refine (ispansLong_any a v1 _ (Fa.out.below D8) na).mono ?_); rintro e x9 ⟨rfl, d9⟩; have D9 := lowCall D8 d9) | (go_at_call 51; (with_reducible refine (sspansLong_any a v1 _ (Fa.out.below D9) na).mono ?_); rintro e x10 ⟨rfl, d10⟩; have D10 := lowCall D9 d10))
    go_ret
    exact ⟨by first | rfl | simp, lowCall hL D10⟩
  cases hkb : sOk b
  · go_wp2_with (first | (go_at_call 42; (with_reducible refine (ispansOk_any a v1 _ (Fa.out.below D7) na).mono ?_); rintro e x8 ⟨rfl, d8⟩; rw [hka]; have D8 := lowCall D7 d8) | (go_at_call 42; (with_reducible refine (ispansOk_any b v2 _ (Fb.out.below D8) nb).mono ?_); rintro e x9 ⟨rfl, d9⟩; rw [hkb]; have D9 := lowCall D8 d9) | (go_at_call 45; (with_reducible refine (ispansLong_any a v1 _ (Fa.out.below D9) na).mono ?_); rintro e x10 ⟨rfl, d10⟩; have D10 := lowCall D9 d10) | (go_at_call 51; (with_reducible refine (sspansLong_any a v1 _ (Fa.out.below D10) na).mono ?_); rintro e x11 ⟨rfl, d11⟩; have D11 := lowCall D10 d11))
    go_ret
    exact ⟨by first | rfl | simp, lowCall hL D11⟩
  obtain ⟨f1, f2, f3, f4, f5, s1, s2, s3, s4⟩ := rules_facts hka hkb ha4 hb4
  obtain ⟨eX, pX⟩ := same_parts ((sOk_iff _).1 s1).2 ((sOk_iff a).1 hka).2 f1
  obtain ⟨eY, pY⟩ := same_parts ((sOk_iff _).1 s2).2 ((sOk_iff a).1 hka).2 f2
  obtain ⟨eZ, pZ⟩ := same_parts ((sOk_iff _).1 s4).2 ((sOk_iff _).1 s3).2 f3
  have PX := Lib.hid pX
  have PY := Lib.hid pY
  have PZ := Lib.hid pZ
  have F4 := Lib.hid f4
  have F5 := Lib.hid f5
  clear f1 f2 f3 f4 f5 s1 s2 s3 s4 pX pY pZ
  go_upto_region 10 with (first | (go_at_call 42; (with_reducible refine (ispansOk_any a v1 _ (Fa.out.below D7) na).mono ?_); rintro e x8 ⟨rfl, d8⟩; rw [hka]; have D8 := lowCall D7 d8) | (go_at_call 42; (with_reducible refine (ispansOk_any b v2 _ (Fb.out.below D8) nb).mono ?_); rintro e x9 ⟨rfl, d9⟩; rw [hkb]; have D9 := lowCall D8 d9))
  go_upto_region 11 with (first | (go_at_call 37; (with_reducible refine (ispansLess_any a b v1 v2 _ (Fa.out.below D9) (Fb.out.below D9) na nb).mono ?_); rintro e x10 ⟨y10, rfl, r10, d10⟩; have D10 := lowCall D9 d10) | (go_at_call 35; (with_reducible refine (ispansBoth_any a b v1 v2 _ (Fa.out.below D10) (Fb.out.below D10) na nb).mono ?_); rintro e x11 ⟨y11, rfl, r11, d11⟩; have D11 := lowCall D10 d11) | (go_at_call 36; (with_reducible refine (ispansEither_any (spPut 2 a b) (spPut 0 a b) y10 y11 _ ((SRow.seen r10).below d11) (SRow.seen r11) (NP.out _ _ _) (NP.out _ _ _)).mono ?_); rintro e x12 ⟨y12, rfl, r12, d12⟩; have D12 := lowCall D11 d12))
  go_upto_region 12 with (first | (go_at_call 36; (with_reducible refine (ispansEither_any a b v1 v2 _ (Fa.out.below D12) (Fb.out.below D12) na nb).mono ?_); rintro e x13 ⟨y13, rfl, r13, d13⟩; have D13 := lowCall D12 d13) | (go_at_call 37; (with_reducible refine (ispansLess_any b a v2 v1 _ (Fb.out.below D13) (Fa.out.below D13) nb na).mono ?_); rintro e x14 ⟨y14, rfl, r14, d14⟩; have D14 := lowCall D13 d14) | (go_at_call 37; (with_reducible refine (ispansLess_any (spPut 1 a b) (spPut 2 b a) y13 y14 _ ((SRow.seen r13).below d14) (SRow.seen r14) (NP.out _ _ _) (NP.out _ _ _)).mono ?_); rintro e x15 ⟨y15, rfl, r15, d15⟩; have D15 := lowCall D14 d15))
  go_wp2_with (first | (go_at_call 52; (with_reducible refine (wlParts_yes (spPut 1 (spPut 2 a b) (spPut 0 a b)) a y12 v1 _ ((((SRow.seen r12).below d13).below d14).below d15) (Fa.out.below D15) eX PX.out na).mono ?_); rintro e x16 ⟨rfl, d16⟩; have D16 := lowCall D15 d16) | (go_at_call 52; (with_reducible refine (wlParts_yes (spPut 2 (spPut 1 a b) (spPut 2 b a)) a y15 v1 _ ((SRow.seen r15).below d16) (Fa.out.below D16) eY PY.out na).mono ?_); rintro e x17 ⟨rfl, d17⟩; have D17 := lowCall D16 d17) | (go_at_call 35; (with_reducible refine (ispansBoth_any b a v2 v1 _ (Fb.out.below D17) (Fa.out.below D17) nb na).mono ?_); rintro e x18 ⟨y18, rfl, r18, d18⟩; have D18 := lowCall D17 d18) | (go_at_call 35; (with_reducible refine (ispansBoth_any a b v1 v2 _ (Fa.out.below D18) (Fb.out.below D18) na nb).mono ?_); rintro e x19 ⟨y19, rfl, r19, d19⟩; have D19 := lowCall D18 d19) | (go_at_call 52; (with_reducible refine (wlParts_yes (spPut 0 b a) (spPut 0 a b) y18 y19 _ ((SRow.seen r18).below d19) (SRow.seen r19) eZ PZ.out (NP.out _ _ _)).mono ?_); rintro e x20 ⟨rfl, d20⟩; have D20 := lowCall D19 d20) | (go_at_call 37; (with_reducible refine (ispansLess_any a a v1 v1 _ (Fa.out.below D20) (Fa.out.below D20) na na).mono ?_); rintro e x21 ⟨y21, rfl, r21, d21⟩; have D21 := lowCall D20 d21; rw [F4.out] at r21; obtain ⟨AN, cN, eN, _⟩ := SRow.shape0 r21; subst eN) | (go_at_call 36; (with_reducible refine (ispansEither_any a a v1 v1 _ (Fa.out.below D21) (Fa.out.below D21) na na).mono ?_); rintro e x22 ⟨y22, rfl, r22, d22⟩; have D22 := lowCall D21 d22; rw [F5.out] at r22) | (go_at_call 38; (with_reducible refine (wlSpans_yes a y22 v1 _ (SRow.seen r22) (Fa.out.below D22) na).mono ?_); rintro e x23 ⟨rfl, d23⟩; have D23 := lowCall D22 d23))
  go_ret
  exact ⟨by first | rfl | simp, lowCall hL D23⟩
end Go.Proofs.Ytdjmeeknahdbbaa
