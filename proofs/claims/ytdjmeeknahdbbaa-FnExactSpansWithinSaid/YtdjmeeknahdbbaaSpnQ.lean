
import Derived.Test.YtdjmeeknahdbbaaSpnN
import Derived.Test.YtdjmeeknahdbbaaSpnL
namespace Go.Proofs.Ytdjmeeknahdbbaa
open Go.ChangeShapes Go.WideShapes Go.ChangeAt Go.RowKit
set_option maxHeartbeats 2000000
set_option maxRecDepth 8000
set_option linter.unusedSimpArgs false
set_option linter.unusedVariables false

theorem spWithin_len {l : List Sp} {a b : Int} (h : l.length ≤ 1048576) : (spWithin l a b).length ≤ 1048576 := by
  unfold spWithin; split
  · exact Nat.le_trans (spInner_len l a b) h
  · simp
theorem spPut_len {op : Nat} {a b : List Sp} : (spPut op a b).length ≤ 1048576 := by
  unfold spPut; split
  · unfold putS spTold; split
    · simp
    · omega
  · simp
theorem wFnExactSpansWithin (l : List Sp) (vl : Value) (a : Int) (b : Int) (w : World) (hl : SIn w vl l) (nl : l.length ≤ 9223372036854775807) :
    Calls Try.prog 13 #[vl, .int .i64 a, .int .i64 b] w fun e w' => e = .returned (.bool true) ∧ Below w.heap.size w w' := by
  obtain ⟨Al, cl, el, _⟩ := id hl
  subst el
  have H0l := Lib.hid hl
  have H1l := Lib.hid hl
  clear hl
  by_cases sl : (1048576 : Int) - l.length < 0
  · go_enter Try.func13, Try.ntmps13
    go_wp2_with (first | (go_at_call 53; (with_reducible refine (szSpanS_any Al l.length cl (1048576) _ (by omega) (by omega) nl).mono ?_); rintro e w' ⟨rfl, rfl⟩; rw [if_pos (by omega)]))
    go_ret; refine ⟨rfl, ?_⟩; (repeat' (first | with_reducible exact lowRefl _ | with_reducible apply lowSet | with_reducible apply lowDrew | with_reducible apply lowDrewN | with_reducible apply lowAlloc | (with_reducible refine lowCall ?_ (by assumption)) | (show (_ : Nat) ≤ _; first | (simp; done) | (simp; omega) | omega)))
  have dl : decide ((1048576 : Int) - l.length < 0) = false := decide_eq_false sl
  have ml : l.length ≤ 1048576 := by omega
  have mR : (spWithin l a b).length ≤ 1048576 := spWithin_len ml
  generalize hR : spWithin l a b = R at *
  go_enter Try.func13, Try.ntmps13
  go_upto_region 5 with (first | (go_at_call 53; (with_reducible refine (szSpanS_any Al l.length cl (1048576) _ (by omega) (by omega) nl).mono ?_); rintro e w' ⟨rfl, rfl⟩; rw [if_neg (by omega)]))
  clear sl
  go_upto_region 6 with (first | (go_at_call 54; (with_reducible refine (toSpanS_any l _ _ (H1l.out) ml).mono ?_); rintro e w4 ⟨t1, rfl, r2, b3⟩) | (go_at_call 49; (with_reducible refine (sspansWithin_any l t1 a b _ (SRow.seen r2) nl).mono ?_); rintro e w5 ⟨v7, rfl, r8, b6⟩; rw [hR] at r8))
  have f9 := Lib.hid (H1l.out.below b3)
  clear H1l
  have L10 := b3
  have f11 := Lib.hid (f9.out.below b6)
  clear f9
  have L12 := lowCall L10 b6
  clear L10
  have lo_v0 : w.heap.size ≤ w.heap.size := Nat.le_refl _
  go_upto_region 7 with (go_at_call 54; (with_reducible refine (toSpanS_any l _ _ (f11.out) ml).mono ?_); rintro e w16 ⟨t13, rfl, r14, b15⟩)
  obtain ⟨ap_v0_xl, ap_xl_v0⟩ := apart r8.own r14.own
  have lo_xl := L12.size
  have f17 := Lib.hid (f11.out.below b15)
  clear f11
  have f18 := r8.below b15
  clear r8
  have L19 := lowCall L12 b15
  clear L12
  go_upto_region 8 with (first | (go_at_call 48; (with_reducible refine (ispansWithin_any l t13 a b _ (SRow.seen r14) nl).mono ?_); rintro e w20 ⟨v22, rfl, r23, b21⟩; rw [hR] at r23))
  obtain ⟨ap_v0_g0, ap_g0_v0⟩ := apart f18.own r23.own
  obtain ⟨ap_xl_g0, ap_g0_xl⟩ := apart r14.own r23.own
  have lo_g0 := L19.size
  have f24 := Lib.hid (f17.out.below b21)
  clear f17
  have f25 := f18.below b21
  clear f18
  have f26 := r14.below b21
  clear r14
  have L27 := lowCall L19 b21
  clear L19
  go_upto_region 10 with (go_at_call 55; (with_reducible refine (eqSpanS_yes R v22 v7 _ (SRow.seen (r23)) (SRow.seen (f25)) (by omega)).mono ?_); rintro e w29 ⟨rfl, b28⟩)
  have f30 := Lib.hid (f24.out.below b28)
  clear f24
  have f31 := f25.below b28
  clear f25
  have f32 := f26.below b28
  clear f26
  have f33 := r23.below b28
  clear r23
  have L34 := lowCall L27 b28
  clear L27
  go_upto_region 12 with (first | (go_at_call 54; (with_reducible refine (toSpanS_any l _ _ (f30.out) ml).mono ?_); rintro e w38 ⟨t35, rfl, r36, b37⟩) | (go_at_call 55; (with_reducible refine (eqSpanS_yes l t13 t35 _ (SRow.seen (f32.below b37)) (SRow.seen (r36)) (by omega)).mono ?_); rintro e w40 ⟨rfl, b39⟩))
  have f41 := Lib.hid (f30.out.below b37)
  clear f30
  have f42 := f31.below b37
  clear f31
  have f43 := f32.below b37
  clear f32
  have f44 := f33.below b37
  clear f33
  have L45 := lowCall L34 b37
  clear L34
  have f46 := Lib.hid (f41.out.below b39)
  clear f41
  have f47 := f42.below b39
  clear f42
  have f48 := f43.below b39
  clear f43
  have f49 := f44.below b39
  clear f44
  have L50 := lowCall L45 b39
  clear L45
  go_upto_region 14 with (go_at_call 56; (with_reducible refine (markSpanS_any l t13 _ (1) _ (by omega) (by omega) f48).mono ?_); rintro e w53 ⟨rfl, r52, g51⟩)
  have L54 := L50.grown g51 L50.size (fun g hg => Nat.le_trans lo_xl (f48.own.lt g hg).1)
  have f55 := Lib.hid (H0l.out.grownLow L50 g51 lo_xl f48.own)
  clear f46
  have f56 := f47.kept g51 ap_v0_xl
  clear f47
  have f57 := f49.kept g51 ap_g0_xl
  clear f49
  clear f48 L50 g51
  go_upto_region 16 with (go_at_call 55; (with_reducible refine (eqSpanS_yes R v22 v7 _ (SRow.seen (f57)) (SRow.seen (f56)) (by omega)).mono ?_); rintro e w59 ⟨rfl, b58⟩)
  have f60 := Lib.hid (f55.out.below b58)
  clear f55
  have f61 := f56.below b58
  clear f56
  have f62 := r52.below b58
  clear r52
  have f63 := f57.below b58
  clear f57
  have L64 := lowCall L54 b58
  clear L54
  go_upto_region 18 with (go_at_call 56; (with_reducible refine (markSpanS_any R v22 _ (1) _ (by omega) (by omega) f63).mono ?_); rintro e w67 ⟨rfl, r66, g65⟩)
  have L68 := L64.grown g65 L64.size (fun g hg => Nat.le_trans lo_g0 (f63.own.lt g hg).1)
  have f69 := Lib.hid (H0l.out.grownLow L64 g65 lo_g0 f63.own)
  clear f60
  have f70 := f61.kept g65 ap_v0_g0
  clear f61
  have f71 := f62.kept g65 ap_xl_g0
  clear f62
  clear f63 L64 g65
  go_upto_region 20 with (go_at_call 57; (with_reducible refine (heldSpanS_any R.length v22 1 _ (by omega) (by omega) (SRow.seen r66)).mono ?_); rintro e w' ⟨rfl, rfl⟩)
  go_upto_region 24 with fail
  go_upto_region 25 with (first | (go_at_call 54; (with_reducible refine (toSpanS_any l _ _ (f69.out) ml).mono ?_); rintro e w75 ⟨t72, rfl, r73, b74⟩) | (go_at_call 48; (with_reducible refine (ispansWithin_any l t72 a b _ (SRow.seen r73) nl).mono ?_); rintro e w76 ⟨v78, rfl, r79, b77⟩; rw [hR] at r79))
  have f80 := Lib.hid (f69.out.below b74)
  clear f69
  have f81 := f70.below b74
  clear f70
  have f82 := f71.below b74
  clear f71
  have f83 := r66.below b74
  clear r66
  have L84 := lowCall L68 b74
  clear L68
  have f85 := Lib.hid (f80.out.below b77)
  clear f80
  have f86 := f81.below b77
  clear f81
  have f87 := f82.below b77
  clear f82
  have f88 := f83.below b77
  clear f83
  have L89 := lowCall L84 b77
  clear L84
  go_upto_region 27 with (go_at_call 55; (with_reducible refine (eqSpanS_yes R v78 v7 _ (SRow.seen (r79)) (SRow.seen (f86)) (by omega)).mono ?_); rintro e w91 ⟨rfl, b90⟩)
  have f92 := Lib.hid (f85.out.below b90)
  clear f85
  have f93 := f86.below b90
  clear f86
  have f94 := f87.below b90
  clear f87
  have f95 := f88.below b90
  clear f88
  have L96 := lowCall L89 b90
  clear L89
  go_wp2_with (go_at_call 57; (with_reducible refine (heldSpanS_any R.length v22 1 _ (by omega) (by omega) (SRow.seen f95)).mono ?_); rintro e w' ⟨rfl, rfl⟩)
  go_ret
  exact ⟨rfl, L96⟩
theorem wFnExactSpansBoth (a : List Sp) (b : List Sp) (va : Value) (vb : Value) (w : World) (ha : SIn w va a) (hb : SIn w vb b) (na : a.length ≤ 9223372036854775807) (nb : b.length ≤ 9223372036854775807) :
    Calls Try.prog 8 #[va, vb] w fun e w' => e = .returned (.bool true) ∧ Below w.heap.size w w' := by
  obtain ⟨Aa, ca, ea, _⟩ := id ha
  subst ea
  have H0a := Lib.hid ha
  have H1a := Lib.hid ha
  clear ha
  obtain ⟨Ab, cb, eb, _⟩ := id hb
  subst eb
  have H0b := Lib.hid hb
  have H1b := Lib.hid hb
  clear hb
  by_cases sa : (1048576 : Int) - a.length < 0
  · go_enter Try.func8, Try.ntmps8
    go_wp2_with (first | (go_at_call 53; (with_reducible refine (szSpanS_any Aa a.length ca (1048576) _ (by omega) (by omega) na).mono ?_); rintro e w' ⟨rfl, rfl⟩; rw [if_pos (by omega)]))
    go_ret; refine ⟨rfl, ?_⟩; (repeat' (first | with_reducible exact lowRefl _ | with_reducible apply lowSet | with_reducible apply lowDrew | with_reducible apply lowDrewN | with_reducible apply lowAlloc | (with_reducible refine lowCall ?_ (by assumption)) | (show (_ : Nat) ≤ _; first | (simp; done) | (simp; omega) | omega)))
  have da : decide ((1048576 : Int) - a.length < 0) = false := decide_eq_false sa
  have ma : a.length ≤ 1048576 := by omega
  by_cases sb : (1048576 - a.length : Int) - b.length < 0
  · go_enter Try.func8, Try.ntmps8
    go_wp2_with (first | (go_at_call 53; (with_reducible refine (szSpanS_any Aa a.length ca (1048576) _ (by omega) (by omega) na).mono ?_); rintro e w' ⟨rfl, rfl⟩; rw [if_neg (by omega)]) | (go_at_call 53; (with_reducible refine (szSpanS_any Ab b.length cb (1048576 - a.length) _ (by omega) (by omega) nb).mono ?_); rintro e w' ⟨rfl, rfl⟩; rw [if_pos (by omega)]))
    go_ret; refine ⟨rfl, ?_⟩; (repeat' (first | with_reducible exact lowRefl _ | with_reducible apply lowSet | with_reducible apply lowDrew | with_reducible apply lowDrewN | with_reducible apply lowAlloc | (with_reducible refine lowCall ?_ (by assumption)) | (show (_ : Nat) ≤ _; first | (simp; done) | (simp; omega) | omega)))
  have db : decide ((1048576 - a.length : Int) - b.length < 0) = false := decide_eq_false sb
  have mb : b.length ≤ 1048576 := by omega
  have mR : (spPut 0 a b).length ≤ 1048576 := spPut_len
  generalize hR : spPut 0 a b = R at *
  go_enter Try.func8, Try.ntmps8
  go_upto_region 8 with (first | (go_at_call 53; (with_reducible refine (szSpanS_any Aa a.length ca (1048576) _ (by omega) (by omega) na).mono ?_); rintro e w' ⟨rfl, rfl⟩; rw [if_neg (by omega)]) | (go_at_call 53; (with_reducible refine (szSpanS_any Ab b.length cb (1048576 - a.length) _ (by omega) (by omega) nb).mono ?_); rintro e w' ⟨rfl, rfl⟩; rw [if_neg (by omega)]))
  clear sa sb
  go_upto_region 9 with (first | (go_at_call 54; (with_reducible refine (toSpanS_any a _ _ (H1a.out) ma).mono ?_); rintro e w4 ⟨t1, rfl, r2, b3⟩) | (go_at_call 54; (with_reducible refine (toSpanS_any b _ _ ((H1b.out).below b3) mb).mono ?_); rintro e w8 ⟨t5, rfl, r6, b7⟩) | (go_at_call 39; (with_reducible refine (sspansBoth_any a b t1 t5 _ (SRow.seen (r2.below b7)) (SRow.seen r6) na nb).mono ?_); rintro e w9 ⟨v11, rfl, r12, b10⟩; rw [hR] at r12))
  have f13 := Lib.hid (H1a.out.below b3)
  clear H1a
  have f14 := Lib.hid (H1b.out.below b3)
  clear H1b
  have L15 := b3
  have f16 := Lib.hid (f13.out.below b7)
  clear f13
  have f17 := Lib.hid (f14.out.below b7)
  clear f14
  have L18 := lowCall L15 b7
  clear L15
  have f19 := Lib.hid (f16.out.below b10)
  clear f16
  have f20 := Lib.hid (f17.out.below b10)
  clear f17
  have L21 := lowCall L18 b10
  clear L18
  have lo_v0 : w.heap.size ≤ w.heap.size := Nat.le_refl _
  go_upto_region 10 with (go_at_call 54; (with_reducible refine (toSpanS_any a _ _ (f19.out) ma).mono ?_); rintro e w25 ⟨t22, rfl, r23, b24⟩)
  obtain ⟨ap_v0_xa, ap_xa_v0⟩ := apart r12.own r23.own
  have lo_xa := L21.size
  have f26 := Lib.hid (f19.out.below b24)
  clear f19
  have f27 := Lib.hid (f20.out.below b24)
  clear f20
  have f28 := r12.below b24
  clear r12
  have L29 := lowCall L21 b24
  clear L21
  go_upto_region 11 with (go_at_call 54; (with_reducible refine (toSpanS_any b _ _ (f27.out) mb).mono ?_); rintro e w33 ⟨t30, rfl, r31, b32⟩)
  obtain ⟨ap_v0_xb, ap_xb_v0⟩ := apart f28.own r31.own
  obtain ⟨ap_xa_xb, ap_xb_xa⟩ := apart r23.own r31.own
  have lo_xb := L29.size
  have f34 := Lib.hid (f26.out.below b32)
  clear f26
  have f35 := Lib.hid (f27.out.below b32)
  clear f27
  have f36 := f28.below b32
  clear f28
  have f37 := r23.below b32
  clear r23
  have L38 := lowCall L29 b32
  clear L29
  go_upto_region 12 with (first | (go_at_call 35; (with_reducible refine (ispansBoth_any a b t22 t30 _ (SRow.seen f37) (SRow.seen r31) na nb).mono ?_); rintro e w39 ⟨v41, rfl, r42, b40⟩; rw [hR] at r42))
  obtain ⟨ap_v0_g0, ap_g0_v0⟩ := apart f36.own r42.own
  obtain ⟨ap_xa_g0, ap_g0_xa⟩ := apart f37.own r42.own
  obtain ⟨ap_xb_g0, ap_g0_xb⟩ := apart r31.own r42.own
  have lo_g0 := L38.size
  have f43 := Lib.hid (f34.out.below b40)
  clear f34
  have f44 := Lib.hid (f35.out.below b40)
  clear f35
  have f45 := f36.below b40
  clear f36
  have f46 := f37.below b40
  clear f37
  have f47 := r31.below b40
  clear r31
  have L48 := lowCall L38 b40
  clear L38
  go_upto_region 14 with (go_at_call 55; (with_reducible refine (eqSpanS_yes R v41 v11 _ (SRow.seen (r42)) (SRow.seen (f45)) (by omega)).mono ?_); rintro e w50 ⟨rfl, b49⟩)
  have f51 := Lib.hid (f43.out.below b49)
  clear f43
  have f52 := Lib.hid (f44.out.below b49)
  clear f44
  have f53 := f45.below b49
  clear f45
  have f54 := f46.below b49
  clear f46
  have f55 := f47.below b49
  clear f47
  have f56 := r42.below b49
  clear r42
  have L57 := lowCall L48 b49
  clear L48
  go_upto_region 16 with (first | (go_at_call 54; (with_reducible refine (toSpanS_any a _ _ (f51.out) ma).mono ?_); rintro e w61 ⟨t58, rfl, r59, b60⟩) | (go_at_call 55; (with_reducible refine (eqSpanS_yes a t22 t58 _ (SRow.seen (f54.below b60)) (SRow.seen (r59)) (by omega)).mono ?_); rintro e w63 ⟨rfl, b62⟩))
  have f64 := Lib.hid (f51.out.below b60)
  clear f51
  have f65 := Lib.hid (f52.out.below b60)
  clear f52
  have f66 := f53.below b60
  clear f53
  have f67 := f54.below b60
  clear f54
  have f68 := f55.below b60
  clear f55
  have f69 := f56.below b60
  clear f56
  have L70 := lowCall L57 b60
  clear L57
  have f71 := Lib.hid (f64.out.below b62)
  clear f64
  have f72 := Lib.hid (f65.out.below b62)
  clear f65
  have f73 := f66.below b62
  clear f66
  have f74 := f67.below b62
  clear f67
  have f75 := f68.below b62
  clear f68
  have f76 := f69.below b62
  clear f69
  have L77 := lowCall L70 b62
  clear L70
  go_upto_region 18 with (first | (go_at_call 54; (with_reducible refine (toSpanS_any b _ _ (f72.out) mb).mono ?_); rintro e w81 ⟨t78, rfl, r79, b80⟩) | (go_at_call 55; (with_reducible refine (eqSpanS_yes b t30 t78 _ (SRow.seen (f75.below b80)) (SRow.seen (r79)) (by omega)).mono ?_); rintro e w83 ⟨rfl, b82⟩))
  have f84 := Lib.hid (f71.out.below b80)
  clear f71
  have f85 := Lib.hid (f72.out.below b80)
  clear f72
  have f86 := f73.below b80
  clear f73
  have f87 := f74.below b80
  clear f74
  have f88 := f75.below b80
  clear f75
  have f89 := f76.below b80
  clear f76
  have L90 := lowCall L77 b80
  clear L77
  have f91 := Lib.hid (f84.out.below b82)
  clear f84
  have f92 := Lib.hid (f85.out.below b82)
  clear f85
  have f93 := f86.below b82
  clear f86
  have f94 := f87.below b82
  clear f87
  have f95 := f88.below b82
  clear f88
  have f96 := f89.below b82
  clear f89
  have L97 := lowCall L90 b82
  clear L90
  go_upto_region 20 with (go_at_call 56; (with_reducible refine (markSpanS_any a t22 _ (1) _ (by omega) (by omega) f94).mono ?_); rintro e w100 ⟨rfl, r99, g98⟩)
  have L101 := L97.grown g98 L97.size (fun g hg => Nat.le_trans lo_xa (f94.own.lt g hg).1)
  have f102 := Lib.hid (H0a.out.grownLow L97 g98 lo_xa f94.own)
  clear f91
  have f103 := Lib.hid (H0b.out.grownLow L97 g98 lo_xa f94.own)
  clear f92
  have f104 := f93.kept g98 ap_v0_xa
  clear f93
  have f105 := f95.kept g98 ap_xb_xa
  clear f95
  have f106 := f96.kept g98 ap_g0_xa
  clear f96
  clear f94 L97 g98
  go_upto_region 21 with (go_at_call 56; (with_reducible refine (markSpanS_any b t30 _ (1 + 4 * a.length) _ (by omega) (by omega) f105).mono ?_); rintro e w109 ⟨rfl, r108, g107⟩)
  have L110 := L101.grown g107 L101.size (fun g hg => Nat.le_trans lo_xb (f105.own.lt g hg).1)
  have f111 := Lib.hid (H0a.out.grownLow L101 g107 lo_xb f105.own)
  clear f102
  have f112 := Lib.hid (H0b.out.grownLow L101 g107 lo_xb f105.own)
  clear f103
  have f113 := f104.kept g107 ap_v0_xb
  clear f104
  have f114 := r99.kept g107 ap_xa_xb
  clear r99
  have f115 := f106.kept g107 ap_g0_xb
  clear f106
  clear f105 L101 g107
  go_upto_region 23 with (go_at_call 55; (with_reducible refine (eqSpanS_yes R v41 v11 _ (SRow.seen (f115)) (SRow.seen (f113)) (by omega)).mono ?_); rintro e w117 ⟨rfl, b116⟩)
  have f118 := Lib.hid (f111.out.below b116)
  clear f111
  have f119 := Lib.hid (f112.out.below b116)
  clear f112
  have f120 := f113.below b116
  clear f113
  have f121 := f114.below b116
  clear f114
  have f122 := r108.below b116
  clear r108
  have f123 := f115.below b116
  clear f115
  have L124 := lowCall L110 b116
  clear L110
  go_upto_region 25 with (go_at_call 56; (with_reducible refine (markSpanS_any R v41 _ (1) _ (by omega) (by omega) f123).mono ?_); rintro e w127 ⟨rfl, r126, g125⟩)
  have L128 := L124.grown g125 L124.size (fun g hg => Nat.le_trans lo_g0 (f123.own.lt g hg).1)
  have f129 := Lib.hid (H0a.out.grownLow L124 g125 lo_g0 f123.own)
  clear f118
  have f130 := Lib.hid (H0b.out.grownLow L124 g125 lo_g0 f123.own)
  clear f119
  have f131 := f120.kept g125 ap_v0_g0
  clear f120
  have f132 := f121.kept g125 ap_xa_g0
  clear f121
  have f133 := f122.kept g125 ap_xb_g0
  clear f122
  clear f123 L124 g125
  go_upto_region 27 with (go_at_call 57; (with_reducible refine (heldSpanS_any R.length v41 1 _ (by omega) (by omega) (SRow.seen r126)).mono ?_); rintro e w' ⟨rfl, rfl⟩)
  go_upto_region 31 with fail
  go_upto_region 32 with (first | (go_at_call 54; (with_reducible refine (toSpanS_any a _ _ (f129.out) ma).mono ?_); rintro e w137 ⟨t134, rfl, r135, b136⟩) | (go_at_call 54; (with_reducible refine (toSpanS_any b _ _ ((f130.out).below b136) mb).mono ?_); rintro e w141 ⟨t138, rfl, r139, b140⟩) | (go_at_call 35; (with_reducible refine (ispansBoth_any a b t134 t138 _ (SRow.seen (r135.below b140)) (SRow.seen r139) na nb).mono ?_); rintro e w142 ⟨v144, rfl, r145, b143⟩; rw [hR] at r145))
  have f146 := Lib.hid (f129.out.below b136)
  clear f129
  have f147 := Lib.hid (f130.out.below b136)
  clear f130
  have f148 := f131.below b136
  clear f131
  have f149 := f132.below b136
  clear f132
  have f150 := f133.below b136
  clear f133
  have f151 := r126.below b136
  clear r126
  have L152 := lowCall L128 b136
  clear L128
  have f153 := Lib.hid (f146.out.below b140)
  clear f146
  have f154 := Lib.hid (f147.out.below b140)
  clear f147
  have f155 := f148.below b140
  clear f148
  have f156 := f149.below b140
  clear f149
  have f157 := f150.below b140
  clear f150
  have f158 := f151.below b140
  clear f151
  have L159 := lowCall L152 b140
  clear L152
  have f160 := Lib.hid (f153.out.below b143)
  clear f153
  have f161 := Lib.hid (f154.out.below b143)
  clear f154
  have f162 := f155.below b143
  clear f155
  have f163 := f156.below b143
  clear f156
  have f164 := f157.below b143
  clear f157
  have f165 := f158.below b143
  clear f158
  have L166 := lowCall L159 b143
  clear L159
  go_upto_region 34 with (go_at_call 55; (with_reducible refine (eqSpanS_yes R v144 v11 _ (SRow.seen (r145)) (SRow.seen (f162)) (by omega)).mono ?_); rintro e w168 ⟨rfl, b167⟩)
  have f169 := Lib.hid (f160.out.below b167)
  clear f160
  have f170 := Lib.hid (f161.out.below b167)
  clear f161
  have f171 := f162.below b167
  clear f162
  have f172 := f163.below b167
  clear f163
  have f173 := f164.below b167
  clear f164
  have f174 := f165.below b167
  clear f165
  have L175 := lowCall L166 b167
  clear L166
  go_wp2_with (go_at_call 57; (with_reducible refine (heldSpanS_any R.length v41 1 _ (by omega) (by omega) (SRow.seen f174)).mono ?_); rintro e w' ⟨rfl, rfl⟩)
  go_ret
  exact ⟨rfl, L175⟩
theorem wFnExactSpansEither (a : List Sp) (b : List Sp) (va : Value) (vb : Value) (w : World) (ha : SIn w va a) (hb : SIn w vb b) (na : a.length ≤ 9223372036854775807) (nb : b.length ≤ 9223372036854775807) :
    Calls Try.prog 9 #[va, vb] w fun e w' => e = .returned (.bool true) ∧ Below w.heap.size w w' := by
  obtain ⟨Aa, ca, ea, _⟩ := id ha
  subst ea
  have H0a := Lib.hid ha
  have H1a := Lib.hid ha
  clear ha
  obtain ⟨Ab, cb, eb, _⟩ := id hb
  subst eb
  have H0b := Lib.hid hb
  have H1b := Lib.hid hb
  clear hb
  by_cases sa : (1048576 : Int) - a.length < 0
  · go_enter Try.func9, Try.ntmps9
    go_wp2_with (first | (go_at_call 53; (with_reducible refine (szSpanS_any Aa a.length ca (1048576) _ (by omega) (by omega) na).mono ?_); rintro e w' ⟨rfl, rfl⟩; rw [if_pos (by omega)]))
    go_ret; refine ⟨rfl, ?_⟩; (repeat' (first | with_reducible exact lowRefl _ | with_reducible apply lowSet | with_reducible apply lowDrew | with_reducible apply lowDrewN | with_reducible apply lowAlloc | (with_reducible refine lowCall ?_ (by assumption)) | (show (_ : Nat) ≤ _; first | (simp; done) | (simp; omega) | omega)))
  have da : decide ((1048576 : Int) - a.length < 0) = false := decide_eq_false sa
  have ma : a.length ≤ 1048576 := by omega
  by_cases sb : (1048576 - a.length : Int) - b.length < 0
  · go_enter Try.func9, Try.ntmps9
    go_wp2_with (first | (go_at_call 53; (with_reducible refine (szSpanS_any Aa a.length ca (1048576) _ (by omega) (by omega) na).mono ?_); rintro e w' ⟨rfl, rfl⟩; rw [if_neg (by omega)]) | (go_at_call 53; (with_reducible refine (szSpanS_any Ab b.length cb (1048576 - a.length) _ (by omega) (by omega) nb).mono ?_); rintro e w' ⟨rfl, rfl⟩; rw [if_pos (by omega)]))
    go_ret; refine ⟨rfl, ?_⟩; (repeat' (first | with_reducible exact lowRefl _ | with_reducible apply lowSet | with_reducible apply lowDrew | with_reducible apply lowDrewN | with_reducible apply lowAlloc | (with_reducible refine lowCall ?_ (by assumption)) | (show (_ : Nat) ≤ _; first | (simp; done) | (simp; omega) | omega)))
  have db : decide ((1048576 - a.length : Int) - b.length < 0) = false := decide_eq_false sb
  have mb : b.length ≤ 1048576 := by omega
  have mR : (spPut 1 a b).length ≤ 1048576 := spPut_len
  generalize hR : spPut 1 a b = R at *
  go_enter Try.func9, Try.ntmps9
  go_upto_region 8 with (first | (go_at_call 53; (with_reducible refine (szSpanS_any Aa a.length ca (1048576) _ (by omega) (by omega) na).mono ?_); rintro e w' ⟨rfl, rfl⟩; rw [if_neg (by omega)]) | (go_at_call 53; (with_reducible refine (szSpanS_any Ab b.length cb (1048576 - a.length) _ (by omega) (by omega) nb).mono ?_); rintro e w' ⟨rfl, rfl⟩; rw [if_neg (by omega)]))
  clear sa sb
  go_upto_region 9 with (first | (go_at_call 54; (with_reducible refine (toSpanS_any a _ _ (H1a.out) ma).mono ?_); rintro e w4 ⟨t1, rfl, r2, b3⟩) | (go_at_call 54; (with_reducible refine (toSpanS_any b _ _ ((H1b.out).below b3) mb).mono ?_); rintro e w8 ⟨t5, rfl, r6, b7⟩) | (go_at_call 40; (with_reducible refine (sspansEither_any a b t1 t5 _ (SRow.seen (r2.below b7)) (SRow.seen r6) na nb).mono ?_); rintro e w9 ⟨v11, rfl, r12, b10⟩; rw [hR] at r12))
  have f13 := Lib.hid (H1a.out.below b3)
  clear H1a
  have f14 := Lib.hid (H1b.out.below b3)
  clear H1b
  have L15 := b3
  have f16 := Lib.hid (f13.out.below b7)
  clear f13
  have f17 := Lib.hid (f14.out.below b7)
  clear f14
  have L18 := lowCall L15 b7
  clear L15
  have f19 := Lib.hid (f16.out.below b10)
  clear f16
  have f20 := Lib.hid (f17.out.below b10)
  clear f17
  have L21 := lowCall L18 b10
  clear L18
  have lo_v0 : w.heap.size ≤ w.heap.size := Nat.le_refl _
  go_upto_region 10 with (go_at_call 54; (with_reducible refine (toSpanS_any a _ _ (f19.out) ma).mono ?_); rintro e w25 ⟨t22, rfl, r23, b24⟩)
  obtain ⟨ap_v0_xa, ap_xa_v0⟩ := apart r12.own r23.own
  have lo_xa := L21.size
  have f26 := Lib.hid (f19.out.below b24)
  clear f19
  have f27 := Lib.hid (f20.out.below b24)
  clear f20
  have f28 := r12.below b24
  clear r12
  have L29 := lowCall L21 b24
  clear L21
  go_upto_region 11 with (go_at_call 54; (with_reducible refine (toSpanS_any b _ _ (f27.out) mb).mono ?_); rintro e w33 ⟨t30, rfl, r31, b32⟩)
  obtain ⟨ap_v0_xb, ap_xb_v0⟩ := apart f28.own r31.own
  obtain ⟨ap_xa_xb, ap_xb_xa⟩ := apart r23.own r31.own
  have lo_xb := L29.size
  have f34 := Lib.hid (f26.out.below b32)
  clear f26
  have f35 := Lib.hid (f27.out.below b32)
  clear f27
  have f36 := f28.below b32
  clear f28
  have f37 := r23.below b32
  clear r23
  have L38 := lowCall L29 b32
  clear L29
  go_upto_region 12 with (first | (go_at_call 36; (with_reducible refine (ispansEither_any a b t22 t30 _ (SRow.seen f37) (SRow.seen r31) na nb).mono ?_); rintro e w39 ⟨v41, rfl, r42, b40⟩; rw [hR] at r42))
  obtain ⟨ap_v0_g0, ap_g0_v0⟩ := apart f36.own r42.own
  obtain ⟨ap_xa_g0, ap_g0_xa⟩ := apart f37.own r42.own
  obtain ⟨ap_xb_g0, ap_g0_xb⟩ := apart r31.own r42.own
  have lo_g0 := L38.size
  have f43 := Lib.hid (f34.out.below b40)
  clear f34
  have f44 := Lib.hid (f35.out.below b40)
  clear f35
  have f45 := f36.below b40
  clear f36
  have f46 := f37.below b40
  clear f37
  have f47 := r31.below b40
  clear r31
  have L48 := lowCall L38 b40
  clear L38
  go_upto_region 14 with (go_at_call 55; (with_reducible refine (eqSpanS_yes R v41 v11 _ (SRow.seen (r42)) (SRow.seen (f45)) (by omega)).mono ?_); rintro e w50 ⟨rfl, b49⟩)
  have f51 := Lib.hid (f43.out.below b49)
  clear f43
  have f52 := Lib.hid (f44.out.below b49)
  clear f44
  have f53 := f45.below b49
  clear f45
  have f54 := f46.below b49
  clear f46
  have f55 := f47.below b49
  clear f47
  have f56 := r42.below b49
  clear r42
  have L57 := lowCall L48 b49
  clear L48
  go_upto_region 16 with (first | (go_at_call 54; (with_reducible refine (toSpanS_any a _ _ (f51.out) ma).mono ?_); rintro e w61 ⟨t58, rfl, r59, b60⟩) | (go_at_call 55; (with_reducible refine (eqSpanS_yes a t22 t58 _ (SRow.seen (f54.below b60)) (SRow.seen (r59)) (by omega)).mono ?_); rintro e w63 ⟨rfl, b62⟩))
  have f64 := Lib.hid (f51.out.below b60)
  clear f51
  have f65 := Lib.hid (f52.out.below b60)
  clear f52
  have f66 := f53.below b60
  clear f53
  have f67 := f54.below b60
  clear f54
  have f68 := f55.below b60
  clear f55
  have f69 := f56.below b60
  clear f56
  have L70 := lowCall L57 b60
  clear L57
  have f71 := Lib.hid (f64.out.below b62)
  clear f64
  have f72 := Lib.hid (f65.out.below b62)
  clear f65
  have f73 := f66.below b62
  clear f66
  have f74 := f67.below b62
  clear f67
  have f75 := f68.below b62
  clear f68
  have f76 := f69.below b62
  clear f69
  have L77 := lowCall L70 b62
  clear L70
  go_upto_region 18 with (first | (go_at_call 54; (with_reducible refine (toSpanS_any b _ _ (f72.out) mb).mono ?_); rintro e w81 ⟨t78, rfl, r79, b80⟩) | (go_at_call 55; (with_reducible refine (eqSpanS_yes b t30 t78 _ (SRow.seen (f75.below b80)) (SRow.seen (r79)) (by omega)).mono ?_); rintro e w83 ⟨rfl, b82⟩))
  have f84 := Lib.hid (f71.out.below b80)
  clear f71
  have f85 := Lib.hid (f72.out.below b80)
  clear f72
  have f86 := f73.below b80
  clear f73
  have f87 := f74.below b80
  clear f74
  have f88 := f75.below b80
  clear f75
  have f89 := f76.below b80
  clear f76
  have L90 := lowCall L77 b80
  clear L77
  have f91 := Lib.hid (f84.out.below b82)
  clear f84
  have f92 := Lib.hid (f85.out.below b82)
  clear f85
  have f93 := f86.below b82
  clear f86
  have f94 := f87.below b82
  clear f87
  have f95 := f88.below b82
  clear f88
  have f96 := f89.below b82
  clear f89
  have L97 := lowCall L90 b82
  clear L90
  go_upto_region 20 with (go_at_call 56; (with_reducible refine (markSpanS_any a t22 _ (1) _ (by omega) (by omega) f94).mono ?_); rintro e w100 ⟨rfl, r99, g98⟩)
  have L101 := L97.grown g98 L97.size (fun g hg => Nat.le_trans lo_xa (f94.own.lt g hg).1)
  have f102 := Lib.hid (H0a.out.grownLow L97 g98 lo_xa f94.own)
  clear f91
  have f103 := Lib.hid (H0b.out.grownLow L97 g98 lo_xa f94.own)
  clear f92
  have f104 := f93.kept g98 ap_v0_xa
  clear f93
  have f105 := f95.kept g98 ap_xb_xa
  clear f95
  have f106 := f96.kept g98 ap_g0_xa
  clear f96
  clear f94 L97 g98
  go_upto_region 21 with (go_at_call 56; (with_reducible refine (markSpanS_any b t30 _ (1 + 4 * a.length) _ (by omega) (by omega) f105).mono ?_); rintro e w109 ⟨rfl, r108, g107⟩)
  have L110 := L101.grown g107 L101.size (fun g hg => Nat.le_trans lo_xb (f105.own.lt g hg).1)
  have f111 := Lib.hid (H0a.out.grownLow L101 g107 lo_xb f105.own)
  clear f102
  have f112 := Lib.hid (H0b.out.grownLow L101 g107 lo_xb f105.own)
  clear f103
  have f113 := f104.kept g107 ap_v0_xb
  clear f104
  have f114 := r99.kept g107 ap_xa_xb
  clear r99
  have f115 := f106.kept g107 ap_g0_xb
  clear f106
  clear f105 L101 g107
  go_upto_region 23 with (go_at_call 55; (with_reducible refine (eqSpanS_yes R v41 v11 _ (SRow.seen (f115)) (SRow.seen (f113)) (by omega)).mono ?_); rintro e w117 ⟨rfl, b116⟩)
  have f118 := Lib.hid (f111.out.below b116)
  clear f111
  have f119 := Lib.hid (f112.out.below b116)
  clear f112
  have f120 := f113.below b116
  clear f113
  have f121 := f114.below b116
  clear f114
  have f122 := r108.below b116
  clear r108
  have f123 := f115.below b116
  clear f115
  have L124 := lowCall L110 b116
  clear L110
  go_upto_region 25 with (go_at_call 56; (with_reducible refine (markSpanS_any R v41 _ (1) _ (by omega) (by omega) f123).mono ?_); rintro e w127 ⟨rfl, r126, g125⟩)
  have L128 := L124.grown g125 L124.size (fun g hg => Nat.le_trans lo_g0 (f123.own.lt g hg).1)
  have f129 := Lib.hid (H0a.out.grownLow L124 g125 lo_g0 f123.own)
  clear f118
  have f130 := Lib.hid (H0b.out.grownLow L124 g125 lo_g0 f123.own)
  clear f119
  have f131 := f120.kept g125 ap_v0_g0
  clear f120
  have f132 := f121.kept g125 ap_xa_g0
  clear f121
  have f133 := f122.kept g125 ap_xb_g0
  clear f122
  clear f123 L124 g125
  go_upto_region 27 with (go_at_call 57; (with_reducible refine (heldSpanS_any R.length v41 1 _ (by omega) (by omega) (SRow.seen r126)).mono ?_); rintro e w' ⟨rfl, rfl⟩)
  go_upto_region 31 with fail
  go_upto_region 32 with (first | (go_at_call 54; (with_reducible refine (toSpanS_any a _ _ (f129.out) ma).mono ?_); rintro e w137 ⟨t134, rfl, r135, b136⟩) | (go_at_call 54; (with_reducible refine (toSpanS_any b _ _ ((f130.out).below b136) mb).mono ?_); rintro e w141 ⟨t138, rfl, r139, b140⟩) | (go_at_call 36; (with_reducible refine (ispansEither_any a b t134 t138 _ (SRow.seen (r135.below b140)) (SRow.seen r139) na nb).mono ?_); rintro e w142 ⟨v144, rfl, r145, b143⟩; rw [hR] at r145))
  have f146 := Lib.hid (f129.out.below b136)
  clear f129
  have f147 := Lib.hid (f130.out.below b136)
  clear f130
  have f148 := f131.below b136
  clear f131
  have f149 := f132.below b136
  clear f132
  have f150 := f133.below b136
  clear f133
  have f151 := r126.below b136
  clear r126
  have L152 := lowCall L128 b136
  clear L128
  have f153 := Lib.hid (f146.out.below b140)
  clear f146
  have f154 := Lib.hid (f147.out.below b140)
  clear f147
  have f155 := f148.below b140
  clear f148
  have f156 := f149.below b140
  clear f149
  have f157 := f150.below b140
  clear f150
  have f158 := f151.below b140
  clear f151
  have L159 := lowCall L152 b140
  clear L152
  have f160 := Lib.hid (f153.out.below b143)
  clear f153
  have f161 := Lib.hid (f154.out.below b143)
  clear f154
  have f162 := f155.below b143
  clear f155
  have f163 := f156.below b143
  clear f156
  have f164 := f157.below b143
  clear f157
  have f165 := f158.below b143
  clear f158
  have L166 := lowCall L159 b143
  clear L159
  go_upto_region 34 with (go_at_call 55; (with_reducible refine (eqSpanS_yes R v144 v11 _ (SRow.seen (r145)) (SRow.seen (f162)) (by omega)).mono ?_); rintro e w168 ⟨rfl, b167⟩)
  have f169 := Lib.hid (f160.out.below b167)
  clear f160
  have f170 := Lib.hid (f161.out.below b167)
  clear f161
  have f171 := f162.below b167
  clear f162
  have f172 := f163.below b167
  clear f163
  have f173 := f164.below b167
  clear f164
  have f174 := f165.below b167
  clear f165
  have L175 := lowCall L166 b167
  clear L166
  go_wp2_with (go_at_call 57; (with_reducible refine (heldSpanS_any R.length v41 1 _ (by omega) (by omega) (SRow.seen f174)).mono ?_); rintro e w' ⟨rfl, rfl⟩)
  go_ret
  exact ⟨rfl, L175⟩
theorem wFnExactSpansLess (a : List Sp) (b : List Sp) (va : Value) (vb : Value) (w : World) (ha : SIn w va a) (hb : SIn w vb b) (na : a.length ≤ 9223372036854775807) (nb : b.length ≤ 9223372036854775807) :
    Calls Try.prog 10 #[va, vb] w fun e w' => e = .returned (.bool true) ∧ Below w.heap.size w w' := by
  obtain ⟨Aa, ca, ea, _⟩ := id ha
  subst ea
  have H0a := Lib.hid ha
  have H1a := Lib.hid ha
  clear ha
  obtain ⟨Ab, cb, eb, _⟩ := id hb
  subst eb
  have H0b := Lib.hid hb
  have H1b := Lib.hid hb
  clear hb
  by_cases sa : (1048576 : Int) - a.length < 0
  · go_enter Try.func10, Try.ntmps10
    go_wp2_with (first | (go_at_call 53; (with_reducible refine (szSpanS_any Aa a.length ca (1048576) _ (by omega) (by omega) na).mono ?_); rintro e w' ⟨rfl, rfl⟩; rw [if_pos (by omega)]))
    go_ret; refine ⟨rfl, ?_⟩; (repeat' (first | with_reducible exact lowRefl _ | with_reducible apply lowSet | with_reducible apply lowDrew | with_reducible apply lowDrewN | with_reducible apply lowAlloc | (with_reducible refine lowCall ?_ (by assumption)) | (show (_ : Nat) ≤ _; first | (simp; done) | (simp; omega) | omega)))
  have da : decide ((1048576 : Int) - a.length < 0) = false := decide_eq_false sa
  have ma : a.length ≤ 1048576 := by omega
  by_cases sb : (1048576 - a.length : Int) - b.length < 0
  · go_enter Try.func10, Try.ntmps10
    go_wp2_with (first | (go_at_call 53; (with_reducible refine (szSpanS_any Aa a.length ca (1048576) _ (by omega) (by omega) na).mono ?_); rintro e w' ⟨rfl, rfl⟩; rw [if_neg (by omega)]) | (go_at_call 53; (with_reducible refine (szSpanS_any Ab b.length cb (1048576 - a.length) _ (by omega) (by omega) nb).mono ?_); rintro e w' ⟨rfl, rfl⟩; rw [if_pos (by omega)]))
    go_ret; refine ⟨rfl, ?_⟩; (repeat' (first | with_reducible exact lowRefl _ | with_reducible apply lowSet | with_reducible apply lowDrew | with_reducible apply lowDrewN | with_reducible apply lowAlloc | (with_reducible refine lowCall ?_ (by assumption)) | (show (_ : Nat) ≤ _; first | (simp; done) | (simp; omega) | omega)))
  have db : decide ((1048576 - a.length : Int) - b.length < 0) = false := decide_eq_false sb
  have mb : b.length ≤ 1048576 := by omega
  have mR : (spPut 2 a b).length ≤ 1048576 := spPut_len
  generalize hR : spPut 2 a b = R at *
  go_enter Try.func10, Try.ntmps10
  go_upto_region 8 with (first | (go_at_call 53; (with_reducible refine (szSpanS_any Aa a.length ca (1048576) _ (by omega) (by omega) na).mono ?_); rintro e w' ⟨rfl, rfl⟩; rw [if_neg (by omega)]) | (go_at_call 53; (with_reducible refine (szSpanS_any Ab b.length cb (1048576 - a.length) _ (by omega) (by omega) nb).mono ?_); rintro e w' ⟨rfl, rfl⟩; rw [if_neg (by omega)]))
  clear sa sb
  go_upto_region 9 with (first | (go_at_call 54; (with_reducible refine (toSpanS_any a _ _ (H1a.out) ma).mono ?_); rintro e w4 ⟨t1, rfl, r2, b3⟩) | (go_at_call 54; (with_reducible refine (toSpanS_any b _ _ ((H1b.out).below b3) mb).mono ?_); rintro e w8 ⟨t5, rfl, r6, b7⟩) | (go_at_call 41; (with_reducible refine (sspansLess_any a b t1 t5 _ (SRow.seen (r2.below b7)) (SRow.seen r6) na nb).mono ?_); rintro e w9 ⟨v11, rfl, r12, b10⟩; rw [hR] at r12))
  have f13 := Lib.hid (H1a.out.below b3)
  clear H1a
  have f14 := Lib.hid (H1b.out.below b3)
  clear H1b
  have L15 := b3
  have f16 := Lib.hid (f13.out.below b7)
  clear f13
  have f17 := Lib.hid (f14.out.below b7)
  clear f14
  have L18 := lowCall L15 b7
  clear L15
  have f19 := Lib.hid (f16.out.below b10)
  clear f16
  have f20 := Lib.hid (f17.out.below b10)
  clear f17
  have L21 := lowCall L18 b10
  clear L18
  have lo_v0 : w.heap.size ≤ w.heap.size := Nat.le_refl _
  go_upto_region 10 with (go_at_call 54; (with_reducible refine (toSpanS_any a _ _ (f19.out) ma).mono ?_); rintro e w25 ⟨t22, rfl, r23, b24⟩)
  obtain ⟨ap_v0_xa, ap_xa_v0⟩ := apart r12.own r23.own
  have lo_xa := L21.size
  have f26 := Lib.hid (f19.out.below b24)
  clear f19
  have f27 := Lib.hid (f20.out.below b24)
  clear f20
  have f28 := r12.below b24
  clear r12
  have L29 := lowCall L21 b24
  clear L21
  go_upto_region 11 with (go_at_call 54; (with_reducible refine (toSpanS_any b _ _ (f27.out) mb).mono ?_); rintro e w33 ⟨t30, rfl, r31, b32⟩)
  obtain ⟨ap_v0_xb, ap_xb_v0⟩ := apart f28.own r31.own
  obtain ⟨ap_xa_xb, ap_xb_xa⟩ := apart r23.own r31.own
  have lo_xb := L29.size
  have f34 := Lib.hid (f26.out.below b32)
  clear f26
  have f35 := Lib.hid (f27.out.below b32)
  clear f27
  have f36 := f28.below b32
  clear f28
  have f37 := r23.below b32
  clear r23
  have L38 := lowCall L29 b32
  clear L29
  go_upto_region 12 with (first | (go_at_call 37; (with_reducible refine (ispansLess_any a b t22 t30 _ (SRow.seen f37) (SRow.seen r31) na nb).mono ?_); rintro e w39 ⟨v41, rfl, r42, b40⟩; rw [hR] at r42))
  obtain ⟨ap_v0_g0, ap_g0_v0⟩ := apart f36.own r42.own
  obtain ⟨ap_xa_g0, ap_g0_xa⟩ := apart f37.own r42.own
  obtain ⟨ap_xb_g0, ap_g0_xb⟩ := apart r31.own r42.own
  have lo_g0 := L38.size
  have f43 := Lib.hid (f34.out.below b40)
  clear f34
  have f44 := Lib.hid (f35.out.below b40)
  clear f35
  have f45 := f36.below b40
  clear f36
  have f46 := f37.below b40
  clear f37
  have f47 := r31.below b40
  clear r31
  have L48 := lowCall L38 b40
  clear L38
  go_upto_region 14 with (go_at_call 55; (with_reducible refine (eqSpanS_yes R v41 v11 _ (SRow.seen (r42)) (SRow.seen (f45)) (by omega)).mono ?_); rintro e w50 ⟨rfl, b49⟩)
  have f51 := Lib.hid (f43.out.below b49)
  clear f43
  have f52 := Lib.hid (f44.out.below b49)
  clear f44
  have f53 := f45.below b49
  clear f45
  have f54 := f46.below b49
  clear f46
  have f55 := f47.below b49
  clear f47
  have f56 := r42.below b49
  clear r42
  have L57 := lowCall L48 b49
  clear L48
  go_upto_region 16 with (first | (go_at_call 54; (with_reducible refine (toSpanS_any a _ _ (f51.out) ma).mono ?_); rintro e w61 ⟨t58, rfl, r59, b60⟩) | (go_at_call 55; (with_reducible refine (eqSpanS_yes a t22 t58 _ (SRow.seen (f54.below b60)) (SRow.seen (r59)) (by omega)).mono ?_); rintro e w63 ⟨rfl, b62⟩))
  have f64 := Lib.hid (f51.out.below b60)
  clear f51
  have f65 := Lib.hid (f52.out.below b60)
  clear f52
  have f66 := f53.below b60
  clear f53
  have f67 := f54.below b60
  clear f54
  have f68 := f55.below b60
  clear f55
  have f69 := f56.below b60
  clear f56
  have L70 := lowCall L57 b60
  clear L57
  have f71 := Lib.hid (f64.out.below b62)
  clear f64
  have f72 := Lib.hid (f65.out.below b62)
  clear f65
  have f73 := f66.below b62
  clear f66
  have f74 := f67.below b62
  clear f67
  have f75 := f68.below b62
  clear f68
  have f76 := f69.below b62
  clear f69
  have L77 := lowCall L70 b62
  clear L70
  go_upto_region 18 with (first | (go_at_call 54; (with_reducible refine (toSpanS_any b _ _ (f72.out) mb).mono ?_); rintro e w81 ⟨t78, rfl, r79, b80⟩) | (go_at_call 55; (with_reducible refine (eqSpanS_yes b t30 t78 _ (SRow.seen (f75.below b80)) (SRow.seen (r79)) (by omega)).mono ?_); rintro e w83 ⟨rfl, b82⟩))
  have f84 := Lib.hid (f71.out.below b80)
  clear f71
  have f85 := Lib.hid (f72.out.below b80)
  clear f72
  have f86 := f73.below b80
  clear f73
  have f87 := f74.below b80
  clear f74
  have f88 := f75.below b80
  clear f75
  have f89 := f76.below b80
  clear f76
  have L90 := lowCall L77 b80
  clear L77
  have f91 := Lib.hid (f84.out.below b82)
  clear f84
  have f92 := Lib.hid (f85.out.below b82)
  clear f85
  have f93 := f86.below b82
  clear f86
  have f94 := f87.below b82
  clear f87
  have f95 := f88.below b82
  clear f88
  have f96 := f89.below b82
  clear f89
  have L97 := lowCall L90 b82
  clear L90
  go_upto_region 20 with (go_at_call 56; (with_reducible refine (markSpanS_any a t22 _ (1) _ (by omega) (by omega) f94).mono ?_); rintro e w100 ⟨rfl, r99, g98⟩)
  have L101 := L97.grown g98 L97.size (fun g hg => Nat.le_trans lo_xa (f94.own.lt g hg).1)
  have f102 := Lib.hid (H0a.out.grownLow L97 g98 lo_xa f94.own)
  clear f91
  have f103 := Lib.hid (H0b.out.grownLow L97 g98 lo_xa f94.own)
  clear f92
  have f104 := f93.kept g98 ap_v0_xa
  clear f93
  have f105 := f95.kept g98 ap_xb_xa
  clear f95
  have f106 := f96.kept g98 ap_g0_xa
  clear f96
  clear f94 L97 g98
  go_upto_region 21 with (go_at_call 56; (with_reducible refine (markSpanS_any b t30 _ (1 + 4 * a.length) _ (by omega) (by omega) f105).mono ?_); rintro e w109 ⟨rfl, r108, g107⟩)
  have L110 := L101.grown g107 L101.size (fun g hg => Nat.le_trans lo_xb (f105.own.lt g hg).1)
  have f111 := Lib.hid (H0a.out.grownLow L101 g107 lo_xb f105.own)
  clear f102
  have f112 := Lib.hid (H0b.out.grownLow L101 g107 lo_xb f105.own)
  clear f103
  have f113 := f104.kept g107 ap_v0_xb
  clear f104
  have f114 := r99.kept g107 ap_xa_xb
  clear r99
  have f115 := f106.kept g107 ap_g0_xb
  clear f106
  clear f105 L101 g107
  go_upto_region 23 with (go_at_call 55; (with_reducible refine (eqSpanS_yes R v41 v11 _ (SRow.seen (f115)) (SRow.seen (f113)) (by omega)).mono ?_); rintro e w117 ⟨rfl, b116⟩)
  have f118 := Lib.hid (f111.out.below b116)
  clear f111
  have f119 := Lib.hid (f112.out.below b116)
  clear f112
  have f120 := f113.below b116
  clear f113
  have f121 := f114.below b116
  clear f114
  have f122 := r108.below b116
  clear r108
  have f123 := f115.below b116
  clear f115
  have L124 := lowCall L110 b116
  clear L110
  go_upto_region 25 with (go_at_call 56; (with_reducible refine (markSpanS_any R v41 _ (1) _ (by omega) (by omega) f123).mono ?_); rintro e w127 ⟨rfl, r126, g125⟩)
  have L128 := L124.grown g125 L124.size (fun g hg => Nat.le_trans lo_g0 (f123.own.lt g hg).1)
  have f129 := Lib.hid (H0a.out.grownLow L124 g125 lo_g0 f123.own)
  clear f118
  have f130 := Lib.hid (H0b.out.grownLow L124 g125 lo_g0 f123.own)
  clear f119
  have f131 := f120.kept g125 ap_v0_g0
  clear f120
  have f132 := f121.kept g125 ap_xa_g0
  clear f121
  have f133 := f122.kept g125 ap_xb_g0
  clear f122
  clear f123 L124 g125
  go_upto_region 27 with (go_at_call 57; (with_reducible refine (heldSpanS_any R.length v41 1 _ (by omega) (by omega) (SRow.seen r126)).mono ?_); rintro e w' ⟨rfl, rfl⟩)
  go_upto_region 31 with fail
  go_upto_region 32 with (first | (go_at_call 54; (with_reducible refine (toSpanS_any a _ _ (f129.out) ma).mono ?_); rintro e w137 ⟨t134, rfl, r135, b136⟩) | (go_at_call 54; (with_reducible refine (toSpanS_any b _ _ ((f130.out).below b136) mb).mono ?_); rintro e w141 ⟨t138, rfl, r139, b140⟩) | (go_at_call 37; (with_reducible refine (ispansLess_any a b t134 t138 _ (SRow.seen (r135.below b140)) (SRow.seen r139) na nb).mono ?_); rintro e w142 ⟨v144, rfl, r145, b143⟩; rw [hR] at r145))
  have f146 := Lib.hid (f129.out.below b136)
  clear f129
  have f147 := Lib.hid (f130.out.below b136)
  clear f130
  have f148 := f131.below b136
  clear f131
  have f149 := f132.below b136
  clear f132
  have f150 := f133.below b136
  clear f133
  have f151 := r126.below b136
  clear r126
  have L152 := lowCall L128 b136
  clear L128
  have f153 := Lib.hid (f146.out.below b140)
  clear f146
  have f154 := Lib.hid (f147.out.below b140)
  clear f147
  have f155 := f148.below b140
  clear f148
  have f156 := f149.below b140
  clear f149
  have f157 := f150.below b140
  clear f150
  have f158 := f151.below b140
  clear f151
  have L159 := lowCall L152 b140
  clear L152
  have f160 := Lib.hid (f153.out.below b143)
  clear f153
  have f161 := Lib.hid (f154.out.below b143)
  clear f154
  have f162 := f155.below b143
  clear f155
  have f163 := f156.below b143
  clear f156
  have f164 := f157.below b143
  clear f157
  have f165 := f158.below b143
  clear f158
  have L166 := lowCall L159 b143
  clear L159
  go_upto_region 34 with (go_at_call 55; (with_reducible refine (eqSpanS_yes R v144 v11 _ (SRow.seen (r145)) (SRow.seen (f162)) (by omega)).mono ?_); rintro e w168 ⟨rfl, b167⟩)
  have f169 := Lib.hid (f160.out.below b167)
  clear f160
  have f170 := Lib.hid (f161.out.below b167)
  clear f161
  have f171 := f162.below b167
  clear f162
  have f172 := f163.below b167
  clear f163
  have f173 := f164.below b167
  clear f164
  have f174 := f165.below b167
  clear f165
  have L175 := lowCall L166 b167
  clear L166
  go_wp2_with (go_at_call 57; (with_reducible refine (heldSpanS_any R.length v41 1 _ (by omega) (by omega) (SRow.seen f174)).mono ?_); rintro e w' ⟨rfl, rfl⟩)
  go_ret
  exact ⟨rfl, L175⟩
end Go.Proofs.Ytdjmeeknahdbbaa
