import Derived.Test.YtckenfomnenknaaDelu
import Derived.Test.YtckenfomnenknaaSmvu
namespace Go.Proofs.Ytckenfomnenknaa
open Go.ChangeShapes Go.WideShapes Go.ChangeAt Go.RowKit
set_option maxHeartbeats 4000000
set_option maxRecDepth 8000
set_option linter.unusedSimpArgs false
set_option linter.unusedVariables false

attribute [local go_sem] VGo_value VGo_skip VGo_enter
theorem told_len (l : List Pt) : (told l).length ≤ l.length := by
  unfold told; split
  · exact Nat.le_refl _
  · simp
theorem mvd_len {m : Mo} {l : List Pt} : (mvd m l).length ≤ 1048576 := by
  unfold mvd; split
  · rename_i h
    have := solid_pos (dec_iff.1 h)
    have h2 := told_len (l ++ [mvPt m l])
    rw [List.length_append, List.length_singleton] at h2
    omega
  · simp
set_option maxRecDepth 100000 in
theorem wMoved0 (m : Mo) (l : List Pt) (vl : Value) (w : World) (hl : PIn w vl l) (nl : l.length ≤ 9223372036854775807) :
    Calls Try.prog 8 #[m.val, vl] w fun e w' => e = .returned (.bool true) ∧ Below w.heap.size w w' := by
  obtain ⟨Al, cl, el, _⟩ := id hl
  subst el
  have H0l := Lib.hid hl
  by_cases sl : (1048576 : Int) - l.length < 0
  · go_enter Try.func8, Try.ntmps8
    go_wp2_with (first | (go_at_call 34; (with_reducible refine (szPartS_no Al l.length cl (1048576) _ (by omega) (by omega) nl).mono ?_); rintro e w' ⟨rfl, rfl⟩))
    go_ret; refine ⟨rfl, ?_⟩; (repeat' (first | with_reducible exact lowRefl _ | with_reducible apply lowSet | with_reducible apply lowDrew | with_reducible apply lowDrewN | with_reducible apply lowAlloc | (with_reducible refine lowCall ?_ (by assumption)) | (show (_ : Nat) ≤ _; first | (simp; done) | (simp; omega) | omega)))
  have ml : l.length ≤ 1048576 := by omega
  have mR : (mvd m l).length ≤ 1048576 := mvd_len
  generalize hR : mvd m l = R at *
  go_enter Try.func8, Try.ntmps8
  go_upto_region 5 with (first | (go_at_call 34; (with_reducible refine (szPartS_yes Al l.length cl (1048576) _ (by omega) (by omega)).mono ?_); rintro e w' ⟨rfl, rfl⟩))
  clear sl
  have hq0 := lowAlloc (lowRefl w) (.cells #[.int .i64 (m.a), .int .i64 (m.b), .int .i64 (m.c), .bool (m.k), .bool (m.l), .bool (m.n), .int .i64 (m.p), .int .i64 (m.q), .int .i64 (m.r)] 77)
  have BM := Lib.hid (Has.new w #[.int .i64 (m.a), .int .i64 (m.b), .int .i64 (m.c), .bool (m.k), .bool (m.l), .bool (m.n), .int .i64 (m.p), .int .i64 (m.q), .int .i64 (m.r)] 77)
  have H1l := Lib.hid (hl.below hq0)
  clear hl
  have CM := Has.cell BM.out
  go_upto_region 6 with (first | (go_at_call 42; (with_reducible refine (toMotion_any _ _ _ _ _ _ _ _ _ _).mono ?_); rintro e w2 ⟨rfl, b1⟩) | (go_at_call 36; (with_reducible refine (toPartS_any l _ _ ((H1l.out).below b1) ml).mono ?_); rintro e w6 ⟨t3, rfl, r4, b5⟩) | (go_at_call 41; (with_reducible refine (sSolidMoved_any m l t3 _ (PRow.seen r4) ml).mono ?_); rintro e w7 ⟨v9, rfl, r10, b8⟩; rw [hR] at r10))
  clear CM
  have f11 := Lib.hid (H1l.out.below b1)
  clear H1l
  have f12 := Lib.hid (BM.out.below b1)
  clear BM
  have L13 := lowCall hq0 b1
  clear hq0
  have f14 := Lib.hid (f11.out.below b5)
  clear f11
  have f15 := Lib.hid (f12.out.below b5)
  clear f12
  have L16 := lowCall L13 b5
  clear L13
  have f17 := Lib.hid (f14.out.below b8)
  clear f14
  have f18 := Lib.hid (f15.out.below b8)
  clear f15
  have L19 := lowCall L16 b8
  clear L16
  have lo_v0 : w.heap.size ≤ w.heap.size := Nat.le_refl _
  go_upto_region 7 with (go_at_call 36; (with_reducible refine (toPartS_any l _ _ (f17.out) ml).mono ?_); rintro e w23 ⟨t20, rfl, r21, b22⟩)
  obtain ⟨ap_v0_xl, ap_xl_v0⟩ := apartP r10.own r21.own
  have lo_xl := L19.size
  have lt_xl := Has.lt f18.out
  have f24 := Lib.hid (f17.out.below b22)
  clear f17
  have f25 := Lib.hid (f18.out.below b22)
  clear f18
  have f26 := r10.below b22
  clear r10
  have L27 := lowCall L19 b22
  clear L19
  have CM := Has.cell f25.out
  go_upto_region 8 with (first | (go_at_call 42; (with_reducible refine (toMotion_any _ _ _ _ _ _ _ _ _ _).mono ?_); rintro e w29 ⟨rfl, b28⟩) | (go_at_call 43; (with_reducible refine (iSolidMoved_any m l t20 _ (PRow.seen (RowK.below r21 b28)) ml).mono ?_); rintro e w30 ⟨v32, rfl, r33, b31⟩; rw [hR] at r33))
  clear CM
  have f34 := Lib.hid (f24.out.below b28)
  clear f24
  have f35 := Lib.hid (f25.out.below b28)
  clear f25
  have f36 := f26.below b28
  clear f26
  have f37 := r21.below b28
  clear r21
  have L38 := lowCall L27 b28
  clear L27
  obtain ⟨ap_v0_g0, ap_g0_v0⟩ := apartP f36.own r33.own
  obtain ⟨ap_xl_g0, ap_g0_xl⟩ := apartP f37.own r33.own
  have lo_g0 := L38.size
  have lt_g0 := Has.lt f35.out
  have f39 := Lib.hid (f34.out.below b31)
  clear f34
  have f40 := Lib.hid (f35.out.below b31)
  clear f35
  have f41 := f36.below b31
  clear f36
  have f42 := f37.below b31
  clear f37
  have L43 := lowCall L38 b31
  clear L38
  go_upto_region 10 with (go_at_call 38; (with_reducible refine (eqPartS_yes R v32 v9 _ (PRow.seen (r33)) (PRow.seen (f41)) (by omega)).mono ?_); rintro e w45 ⟨rfl, b44⟩)
  have f46 := Lib.hid (f39.out.below b44)
  clear f39
  have f47 := Lib.hid (f40.out.below b44)
  clear f40
  have f48 := f41.below b44
  clear f41
  have f49 := f42.below b44
  clear f42
  have f50 := r33.below b44
  clear r33
  have L51 := lowCall L43 b44
  clear L43
  go_upto_region 12 with (first | (go_at_call 36; (with_reducible refine (toPartS_any l _ _ (f46.out) ml).mono ?_); rintro e w55 ⟨t52, rfl, r53, b54⟩) | (go_at_call 38; (with_reducible refine (eqPartS_yes l t20 t52 _ (PRow.seen (RowK.below f49 b54)) (PRow.seen (r53)) (by omega)).mono ?_); rintro e w57 ⟨rfl, b56⟩))
  have f58 := Lib.hid (f46.out.below b54)
  clear f46
  have f59 := Lib.hid (f47.out.below b54)
  clear f47
  have f60 := f48.below b54
  clear f48
  have f61 := f49.below b54
  clear f49
  have f62 := f50.below b54
  clear f50
  have L63 := lowCall L51 b54
  clear L51
  have f64 := Lib.hid (f58.out.below b56)
  clear f58
  have f65 := Lib.hid (f59.out.below b56)
  clear f59
  have f66 := f60.below b56
  clear f60
  have f67 := f61.below b56
  clear f61
  have f68 := f62.below b56
  clear f62
  have L69 := lowCall L63 b56
  clear L63
  have NE_xl := own_lo f67.own lt_xl
  go_upto_region 14 with (go_at_call 39; (with_reducible refine (markPartS_any l t20 _ (1) _ (by omega) (by omega) f67).mono ?_); rintro e w72 ⟨rfl, r71, g70⟩)
  have L73 := L69.grown g70 L69.size (fun g hg => Nat.le_trans lo_xl (f67.own.lt g hg).1)
  have f74 := Lib.hid (H0l.out.grownLow L69 g70 lo_xl f67.own)
  clear f64
  have f75 := f66.kept g70 ap_v0_xl
  clear f66
  have f76 := f68.kept g70 ap_g0_xl
  clear f68
  have f77 := Lib.hid (f65.out.grown g70 NE_xl)
  clear f65 NE_xl
  clear f67 L69 g70
  go_upto_region 16 with (go_at_call 38; (with_reducible refine (eqPartS_yes R v32 v9 _ (PRow.seen (f76)) (PRow.seen (f75)) (by omega)).mono ?_); rintro e w79 ⟨rfl, b78⟩)
  have f80 := Lib.hid (f74.out.below b78)
  clear f74
  have f81 := f75.below b78
  clear f75
  have f82 := r71.below b78
  clear r71
  have f83 := f76.below b78
  clear f76
  have f84 := Lib.hid (f77.out.below b78)
  clear f77
  have L85 := lowCall L73 b78
  clear L73
  have NE_g0 := own_lo f83.own lt_g0
  go_upto_region 18 with (go_at_call 39; (with_reducible refine (markPartS_any R v32 _ (1) _ (by omega) (by omega) f83).mono ?_); rintro e w88 ⟨rfl, r87, g86⟩)
  have L89 := L85.grown g86 L85.size (fun g hg => Nat.le_trans lo_g0 (f83.own.lt g hg).1)
  have f90 := Lib.hid (H0l.out.grownLow L85 g86 lo_g0 f83.own)
  clear f80
  have f91 := f81.kept g86 ap_v0_g0
  clear f81
  have f92 := f82.kept g86 ap_xl_g0
  clear f82
  have f93 := Lib.hid (f84.out.grown g86 NE_g0)
  clear f84 NE_g0
  clear f83 L85 g86
  go_upto_region 20 with (go_at_call 40; (with_reducible refine (heldPartS_any R.length v32 1 _ (by omega) (by omega) (PRow.seen r87)).mono ?_); rintro e w' ⟨rfl, rfl⟩)
  go_upto_region 24 with fail
  have CM := Has.cell f93.out
  go_upto_region 25 with (first | (go_at_call 42; (with_reducible refine (toMotion_any _ _ _ _ _ _ _ _ _ _).mono ?_); rintro e w95 ⟨rfl, b94⟩) | (go_at_call 36; (with_reducible refine (toPartS_any l _ _ ((f90.out).below b94) ml).mono ?_); rintro e w99 ⟨t96, rfl, r97, b98⟩) | (go_at_call 43; (with_reducible refine (iSolidMoved_any m l t96 _ (PRow.seen r97) ml).mono ?_); rintro e w100 ⟨v102, rfl, r103, b101⟩; rw [hR] at r103))
  clear CM
  have f104 := Lib.hid (f90.out.below b94)
  clear f90
  have f105 := f91.below b94
  clear f91
  have f106 := f92.below b94
  clear f92
  have f107 := r87.below b94
  clear r87
  have f108 := Lib.hid (f93.out.below b94)
  clear f93
  have L109 := lowCall L89 b94
  clear L89
  have f110 := Lib.hid (f104.out.below b98)
  clear f104
  have f111 := f105.below b98
  clear f105
  have f112 := f106.below b98
  clear f106
  have f113 := f107.below b98
  clear f107
  have f114 := Lib.hid (f108.out.below b98)
  clear f108
  have L115 := lowCall L109 b98
  clear L109
  have f116 := Lib.hid (f110.out.below b101)
  clear f110
  have f117 := f111.below b101
  clear f111
  have f118 := f112.below b101
  clear f112
  have f119 := f113.below b101
  clear f113
  have f120 := Lib.hid (f114.out.below b101)
  clear f114
  have L121 := lowCall L115 b101
  clear L115
  go_upto_region 27 with (go_at_call 38; (with_reducible refine (eqPartS_yes R v102 v9 _ (PRow.seen (r103)) (PRow.seen (f117)) (by omega)).mono ?_); rintro e w123 ⟨rfl, b122⟩)
  have f124 := Lib.hid (f116.out.below b122)
  clear f116
  have f125 := f117.below b122
  clear f117
  have f126 := f118.below b122
  clear f118
  have f127 := f119.below b122
  clear f119
  have f128 := Lib.hid (f120.out.below b122)
  clear f120
  have L129 := lowCall L121 b122
  clear L121
  go_wp2_with (go_at_call 40; (with_reducible refine (heldPartS_any R.length v32 1 _ (by omega) (by omega) (PRow.seen f127)).mono ?_); rintro e w' ⟨rfl, rfl⟩)
  go_ret
  exact ⟨rfl, L129⟩
theorem wFnExactSolidMoved (l : List Pt) (vl : Value) (a b c : Int) (d e f : Bool) (g h i : Int) (w : World) (hl : PIn w vl l) (nl : l.length ≤ 9223372036854775807) :
    Calls Try.prog 8 #[.agg #[.int .i64 (a), .int .i64 (b), .int .i64 (c), .bool (d), .bool (e), .bool (f), .int .i64 (g), .int .i64 (h), .int .i64 (i)], vl] w fun e w' => e = .returned (.bool true) ∧ Below w.heap.size w w' := wMoved0 ⟨a, b, c, d, e, f, g, h, i⟩ l vl w hl nl
end Go.Proofs.Ytckenfomnenknaa
