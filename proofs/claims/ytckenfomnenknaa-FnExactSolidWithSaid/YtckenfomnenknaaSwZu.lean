import Derived.Test.YtckenfomnenknaaDelu
import Derived.Test.YtckenfomnenknaaSwju
namespace Go.Proofs.Ytckenfomnenknaa
open Go.ChangeShapes Go.WideShapes Go.ChangeAt Go.RowKit
set_option maxHeartbeats 4000000
set_option maxRecDepth 8000
set_option linter.unusedSimpArgs false
set_option linter.unusedVariables false

attribute [local go_sem] VGo_value VGo_skip VGo_enter
theorem told_len (l : List Pt) : (told l).length ≤ l.length := by
  unfold told; split
  · exact Nat.le_refl _
  · simp
theorem wth_len {k : Int} {p q : List Pt} : (wth k p q).length ≤ 1048576 := by
  unfold wth; split
  · rename_i h
    have h0 := dec_iff.1 h
    have h1 := solid_pos h0.1
    have h3 := solid_pos h0.2.1
    have h2 := told_len (p ++ (q.map (bh p.length) ++ [wtPt k p q]))
    simp only [List.length_append, List.length_map, List.length_singleton] at h2
    omega
  · simp
set_option maxRecDepth 100000 in
theorem wWith0 (k : Int) (p : List Pt) (q : List Pt) (vp : Value) (vq : Value) (w : World) (hp : PIn w vp p) (hq : PIn w vq q) (np : p.length ≤ 9223372036854775807) (nq : q.length ≤ 9223372036854775807) :
    Calls Try.prog 9 #[.int .i64 k, vp, vq] w fun e w' => e = .returned (.bool true) ∧ Below w.heap.size w w' := by
  obtain ⟨Ap, cp, ep, _⟩ := id hp
  subst ep
  have H0p := Lib.hid hp
  obtain ⟨Aq, cq, eq, _⟩ := id hq
  subst eq
  have H0q := Lib.hid hq
  by_cases sp : (1048576 : Int) - p.length < 0
  · go_enter Try.func9, Try.ntmps9
    go_wp2_with (first | (go_at_call 34; (with_reducible refine (szPartS_no Ap p.length cp (1048576) _ (by omega) (by omega) np).mono ?_); rintro e w' ⟨rfl, rfl⟩))
    go_ret; refine ⟨rfl, ?_⟩; (repeat' (first | with_reducible exact lowRefl _ | with_reducible apply lowSet | with_reducible apply lowDrew | with_reducible apply lowDrewN | with_reducible apply lowAlloc | (with_reducible refine lowCall ?_ (by assumption)) | (show (_ : Nat) ≤ _; first | (simp; done) | (simp; omega) | omega)))
  have mp : p.length ≤ 1048576 := by omega
  by_cases sq : (1048576 - p.length : Int) - q.length < 0
  · go_enter Try.func9, Try.ntmps9
    go_wp2_with (first | (go_at_call 34; (with_reducible refine (szPartS_yes Ap p.length cp (1048576) _ (by omega) (by omega)).mono ?_); rintro e w' ⟨rfl, rfl⟩) | (go_at_call 34; (with_reducible refine (szPartS_no Aq q.length cq (1048576 - p.length) _ (by omega) (by omega) nq).mono ?_); rintro e w' ⟨rfl, rfl⟩))
    go_ret; refine ⟨rfl, ?_⟩; (repeat' (first | with_reducible exact lowRefl _ | with_reducible apply lowSet | with_reducible apply lowDrew | with_reducible apply lowDrewN | with_reducible apply lowAlloc | (with_reducible refine lowCall ?_ (by assumption)) | (show (_ : Nat) ≤ _; first | (simp; done) | (simp; omega) | omega)))
  have mq : q.length ≤ 1048576 := by omega
  have mR : (wth k p q).length ≤ 1048576 := wth_len
  generalize hR : wth k p q = R at *
  go_enter Try.func9, Try.ntmps9
  go_upto_region 8 with (first | (go_at_call 34; (with_reducible refine (szPartS_yes Ap p.length cp (1048576) _ (by omega) (by omega)).mono ?_); rintro e w' ⟨rfl, rfl⟩) | (go_at_call 34; (with_reducible refine (szPartS_yes Aq q.length cq (1048576 - p.length) _ (by omega) (by omega)).mono ?_); rintro e w' ⟨rfl, rfl⟩))
  clear sp sq
  have H1p := Lib.hid hp
  clear hp
  have H1q := Lib.hid hq
  clear hq
  go_upto_region 9 with (first | (go_at_call 36; (with_reducible refine (toPartS_any p _ _ (H1p.out) mp).mono ?_); rintro e w4 ⟨t1, rfl, r2, b3⟩) | (go_at_call 36; (with_reducible refine (toPartS_any q _ _ ((H1q.out).below b3) mq).mono ?_); rintro e w8 ⟨t5, rfl, r6, b7⟩) | (go_at_call 44; (with_reducible refine (sSolidWith_any k p q t1 t5 _ (PRow.seen (RowK.below r2 b7)) (PRow.seen r6) mp mq).mono ?_); rintro e w9 ⟨v11, rfl, r12, b10⟩; rw [hR] at r12))
  have f13 := Lib.hid (H1p.out.below b3)
  clear H1p
  have f14 := Lib.hid (H1q.out.below b3)
  clear H1q
  have L15 := b3
  have f16 := Lib.hid (f13.out.below b7)
  clear f13
  have f17 := Lib.hid (f14.out.below b7)
  clear f14
  have L18 := lowCall L15 b7
  clear L15
  have f19 := Lib.hid (f16.out.below b10)
  clear f16
  have f20 := Lib.hid (f17.out.below b10)
  clear f17
  have L21 := lowCall L18 b10
  clear L18
  have lo_v0 : w.heap.size ≤ w.heap.size := Nat.le_refl _
  go_upto_region 10 with (go_at_call 36; (with_reducible refine (toPartS_any p _ _ (f19.out) mp).mono ?_); rintro e w25 ⟨t22, rfl, r23, b24⟩)
  obtain ⟨ap_v0_xp, ap_xp_v0⟩ := apartP r12.own r23.own
  have lo_xp := L21.size
  have f26 := Lib.hid (f19.out.below b24)
  clear f19
  have f27 := Lib.hid (f20.out.below b24)
  clear f20
  have f28 := r12.below b24
  clear r12
  have L29 := lowCall L21 b24
  clear L21
  go_upto_region 11 with (go_at_call 36; (with_reducible refine (toPartS_any q _ _ (f27.out) mq).mono ?_); rintro e w33 ⟨t30, rfl, r31, b32⟩)
  obtain ⟨ap_v0_xq, ap_xq_v0⟩ := apartP f28.own r31.own
  obtain ⟨ap_xp_xq, ap_xq_xp⟩ := apartP r23.own r31.own
  have lo_xq := L29.size
  have f34 := Lib.hid (f26.out.below b32)
  clear f26
  have f35 := Lib.hid (f27.out.below b32)
  clear f27
  have f36 := f28.below b32
  clear f28
  have f37 := r23.below b32
  clear r23
  have L38 := lowCall L29 b32
  clear L29
  go_upto_region 12 with (first | (go_at_call 45; (with_reducible refine (iSolidWith_any k p q t22 t30 _ (PRow.seen f37) (PRow.seen r31) mp mq).mono ?_); rintro e w39 ⟨v41, rfl, r42, b40⟩; rw [hR] at r42))
  obtain ⟨ap_v0_g0, ap_g0_v0⟩ := apartP f36.own r42.own
  obtain ⟨ap_xp_g0, ap_g0_xp⟩ := apartP f37.own r42.own
  obtain ⟨ap_xq_g0, ap_g0_xq⟩ := apartP r31.own r42.own
  have lo_g0 := L38.size
  have f43 := Lib.hid (f34.out.below b40)
  clear f34
  have f44 := Lib.hid (f35.out.below b40)
  clear f35
  have f45 := f36.below b40
  clear f36
  have f46 := f37.below b40
  clear f37
  have f47 := r31.below b40
  clear r31
  have L48 := lowCall L38 b40
  clear L38
  go_upto_region 14 with (go_at_call 38; (with_reducible refine (eqPartS_yes R v41 v11 _ (PRow.seen (r42)) (PRow.seen (f45)) (by omega)).mono ?_); rintro e w50 ⟨rfl, b49⟩)
  have f51 := Lib.hid (f43.out.below b49)
  clear f43
  have f52 := Lib.hid (f44.out.below b49)
  clear f44
  have f53 := f45.below b49
  clear f45
  have f54 := f46.below b49
  clear f46
  have f55 := f47.below b49
  clear f47
  have f56 := r42.below b49
  clear r42
  have L57 := lowCall L48 b49
  clear L48
  go_upto_region 16 with (first | (go_at_call 36; (with_reducible refine (toPartS_any p _ _ (f51.out) mp).mono ?_); rintro e w61 ⟨t58, rfl, r59, b60⟩) | (go_at_call 38; (with_reducible refine (eqPartS_yes p t22 t58 _ (PRow.seen (RowK.below f54 b60)) (PRow.seen (r59)) (by omega)).mono ?_); rintro e w63 ⟨rfl, b62⟩))
  have f64 := Lib.hid (f51.out.below b60)
  clear f51
  have f65 := Lib.hid (f52.out.below b60)
  clear f52
  have f66 := f53.below b60
  clear f53
  have f67 := f54.below b60
  clear f54
  have f68 := f55.below b60
  clear f55
  have f69 := f56.below b60
  clear f56
  have L70 := lowCall L57 b60
  clear L57
  have f71 := Lib.hid (f64.out.below b62)
  clear f64
  have f72 := Lib.hid (f65.out.below b62)
  clear f65
  have f73 := f66.below b62
  clear f66
  have f74 := f67.below b62
  clear f67
  have f75 := f68.below b62
  clear f68
  have f76 := f69.below b62
  clear f69
  have L77 := lowCall L70 b62
  clear L70
  go_upto_region 18 with (first | (go_at_call 36; (with_reducible refine (toPartS_any q _ _ (f72.out) mq).mono ?_); rintro e w81 ⟨t78, rfl, r79, b80⟩) | (go_at_call 38; (with_reducible refine (eqPartS_yes q t30 t78 _ (PRow.seen (RowK.below f75 b80)) (PRow.seen (r79)) (by omega)).mono ?_); rintro e w83 ⟨rfl, b82⟩))
  have f84 := Lib.hid (f71.out.below b80)
  clear f71
  have f85 := Lib.hid (f72.out.below b80)
  clear f72
  have f86 := f73.below b80
  clear f73
  have f87 := f74.below b80
  clear f74
  have f88 := f75.below b80
  clear f75
  have f89 := f76.below b80
  clear f76
  have L90 := lowCall L77 b80
  clear L77
  have f91 := Lib.hid (f84.out.below b82)
  clear f84
  have f92 := Lib.hid (f85.out.below b82)
  clear f85
  have f93 := f86.below b82
  clear f86
  have f94 := f87.below b82
  clear f87
  have f95 := f88.below b82
  clear f88
  have f96 := f89.below b82
  clear f89
  have L97 := lowCall L90 b82
  clear L90
  go_upto_region 20 with (go_at_call 39; (with_reducible refine (markPartS_any p t22 _ (1) _ (by omega) (by omega) f94).mono ?_); rintro e w100 ⟨rfl, r99, g98⟩)
  have L101 := L97.grown g98 L97.size (fun g hg => Nat.le_trans lo_xp (f94.own.lt g hg).1)
  have f102 := Lib.hid (H0p.out.grownLow L97 g98 lo_xp f94.own)
  clear f91
  have f103 := Lib.hid (H0q.out.grownLow L97 g98 lo_xp f94.own)
  clear f92
  have f104 := f93.kept g98 ap_v0_xp
  clear f93
  have f105 := f95.kept g98 ap_xq_xp
  clear f95
  have f106 := f96.kept g98 ap_g0_xp
  clear f96
  clear f94 L97 g98
  go_upto_region 21 with (go_at_call 39; (with_reducible refine (markPartS_any q t30 _ (1 + 27 * p.length) _ (by omega) (by omega) f105).mono ?_); rintro e w109 ⟨rfl, r108, g107⟩)
  have L110 := L101.grown g107 L101.size (fun g hg => Nat.le_trans lo_xq (f105.own.lt g hg).1)
  have f111 := Lib.hid (H0p.out.grownLow L101 g107 lo_xq f105.own)
  clear f102
  have f112 := Lib.hid (H0q.out.grownLow L101 g107 lo_xq f105.own)
  clear f103
  have f113 := f104.kept g107 ap_v0_xq
  clear f104
  have f114 := r99.kept g107 ap_xp_xq
  clear r99
  have f115 := f106.kept g107 ap_g0_xq
  clear f106
  clear f105 L101 g107
  go_upto_region 23 with (go_at_call 38; (with_reducible refine (eqPartS_yes R v41 v11 _ (PRow.seen (f115)) (PRow.seen (f113)) (by omega)).mono ?_); rintro e w117 ⟨rfl, b116⟩)
  have f118 := Lib.hid (f111.out.below b116)
  clear f111
  have f119 := Lib.hid (f112.out.below b116)
  clear f112
  have f120 := f113.below b116
  clear f113
  have f121 := f114.below b116
  clear f114
  have f122 := r108.below b116
  clear r108
  have f123 := f115.below b116
  clear f115
  have L124 := lowCall L110 b116
  clear L110
  go_upto_region 25 with (go_at_call 39; (with_reducible refine (markPartS_any R v41 _ (1) _ (by omega) (by omega) f123).mono ?_); rintro e w127 ⟨rfl, r126, g125⟩)
  have L128 := L124.grown g125 L124.size (fun g hg => Nat.le_trans lo_g0 (f123.own.lt g hg).1)
  have f129 := Lib.hid (H0p.out.grownLow L124 g125 lo_g0 f123.own)
  clear f118
  have f130 := Lib.hid (H0q.out.grownLow L124 g125 lo_g0 f123.own)
  clear f119
  have f131 := f120.kept g125 ap_v0_g0
  clear f120
  have f132 := f121.kept g125 ap_xp_g0
  clear f121
  have f133 := f122.kept g125 ap_xq_g0
  clear f122
  clear f123 L124 g125
  go_upto_region 27 with (go_at_call 40; (with_reducible refine (heldPartS_any R.length v41 1 _ (by omega) (by omega) (PRow.seen r126)).mono ?_); rintro e w' ⟨rfl, rfl⟩)
  go_upto_region 31 with fail
  go_upto_region 32 with (first | (go_at_call 36; (with_reducible refine (toPartS_any p _ _ (f129.out) mp).mono ?_); rintro e w137 ⟨t134, rfl, r135, b136⟩) | (go_at_call 36; (with_reducible refine (toPartS_any q _ _ ((f130.out).below b136) mq).mono ?_); rintro e w141 ⟨t138, rfl, r139, b140⟩) | (go_at_call 45; (with_reducible refine (iSolidWith_any k p q t134 t138 _ (PRow.seen (RowK.below r135 b140)) (PRow.seen r139) mp mq).mono ?_); rintro e w142 ⟨v144, rfl, r145, b143⟩; rw [hR] at r145))
  have f146 := Lib.hid (f129.out.below b136)
  clear f129
  have f147 := Lib.hid (f130.out.below b136)
  clear f130
  have f148 := f131.below b136
  clear f131
  have f149 := f132.below b136
  clear f132
  have f150 := f133.below b136
  clear f133
  have f151 := r126.below b136
  clear r126
  have L152 := lowCall L128 b136
  clear L128
  have f153 := Lib.hid (f146.out.below b140)
  clear f146
  have f154 := Lib.hid (f147.out.below b140)
  clear f147
  have f155 := f148.below b140
  clear f148
  have f156 := f149.below b140
  clear f149
  have f157 := f150.below b140
  clear f150
  have f158 := f151.below b140
  clear f151
  have L159 := lowCall L152 b140
  clear L152
  have f160 := Lib.hid (f153.out.below b143)
  clear f153
  have f161 := Lib.hid (f154.out.below b143)
  clear f154
  have f162 := f155.below b143
  clear f155
  have f163 := f156.below b143
  clear f156
  have f164 := f157.below b143
  clear f157
  have f165 := f158.below b143
  clear f158
  have L166 := lowCall L159 b143
  clear L159
  go_upto_region 34 with (go_at_call 38; (with_reducible refine (eqPartS_yes R v144 v11 _ (PRow.seen (r145)) (PRow.seen (f162)) (by omega)).mono ?_); rintro e w168 ⟨rfl, b167⟩)
  have f169 := Lib.hid (f160.out.below b167)
  clear f160
  have f170 := Lib.hid (f161.out.below b167)
  clear f161
  have f171 := f162.below b167
  clear f162
  have f172 := f163.below b167
  clear f163
  have f173 := f164.below b167
  clear f164
  have f174 := f165.below b167
  clear f165
  have L175 := lowCall L166 b167
  clear L166
  go_wp2_with (go_at_call 40; (with_reducible refine (heldPartS_any R.length v41 1 _ (by omega) (by omega) (PRow.seen f174)).mono ?_); rintro e w' ⟨rfl, rfl⟩)
  go_ret
  exact ⟨rfl, L175⟩
theorem wFnExactSolidWith (p q : List Pt) (vp vq : Value) (k : Int) (w : World) (hp : PIn w vp p) (hq : PIn w vq q) (np : p.length ≤ 9223372036854775807) (nq : q.length ≤ 9223372036854775807) :
    Calls Try.prog 9 #[.int .i64 k, vp, vq] w fun e w' => e = .returned (.bool true) ∧ Below w.heap.size w w' := wWith0 k p q vp vq w hp hq np nq
end Go.Proofs.Ytckenfomnenknaa
