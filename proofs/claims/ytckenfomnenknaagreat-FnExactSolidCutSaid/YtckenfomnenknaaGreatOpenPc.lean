import Derived.Below
import Derived.Deep.Slices
import Derived.OpenShut
import Derived.ProofKit
import Derived.Test.YtckenfomnenknaaGreatHeldDc
import Derived.Test.YtckenfomnenknaaGreatRows
import Derived.Test.YtckenfomnenknaaGreatShgc
import Derived.Test.YtckenfomnenknaaGreatSpTc
import Derived.WalkKit
section
namespace Go.Proofs.YtckenfomnenknaaGreat
open Go.ChangeShapes Go.WideShapes Go.ChangeAt Go.RowKit
set_option maxHeartbeats 4000000
set_option maxRecDepth 8000
set_option linter.unusedSimpArgs false
set_option linter.unusedVariables false

attribute [local go_sem] VGo_value VGo_skip VGo_enter
theorem sct_len {l : List Pt} {r : Sx} : (sct l r).length ≤ 1048576 := by
  unfold sct; split
  · rename_i h
    have h0 := dec_iff.1 h
    have h1 := h0.1.1.1
    have h2 := nl_le h0.1 (l.length - 1) (by omega)
    have h3 := sp_len r (shp (lvs l) (l.length - 1))
    omega
  · simp
set_option maxRecDepth 100000 in
theorem wCut0 (r : Sx) (l : List Pt) (vl : Value) (w : World) (hl : PIn w vl l) (nl : l.length ≤ 9223372036854775807) :
    Calls Tryz.prog 8 #[vl, r.val] w fun e w' => e = .returned (.bool true) ∧ Below w.heap.size w w' := by
  obtain ⟨Al, cl, el, _⟩ := id hl
  subst el
  have H0l := Lib.hid hl
  by_cases sl : (1048576 : Int) - l.length < 0
  · go_enter Tryz.func8, Tryz.ntmps8
    go_wp2_with (first | (go_at_call 41; (with_reducible refine (szPartS_no Al l.length cl (1048576) _ (by omega) (by omega) nl).mono ?_); rintro e w' ⟨rfl, rfl⟩))
    go_ret; refine ⟨rfl, ?_⟩; (repeat' (first | with_reducible (first | exact lowRefl _ | apply lowSet | apply lowDrew | apply lowDrewN | apply lowAlloc) | (with_reducible refine lowCall ?_ (by assumption)) | (show (_ : Nat) ≤ _; first | (simp; done) | (simp; omega) | omega)))
  have ml : l.length ≤ 1048576 := by omega
  have mR : (sct l r).length ≤ 1048576 := sct_len
  generalize hR : sct l r = R at *
  go_enter Tryz.func8, Tryz.ntmps8
  go_upto_region 5 with (first | (go_at_call 41; (with_reducible refine (szPartS_yes Al l.length cl (1048576) _ (by omega) (by omega)).mono ?_); rintro e w' ⟨rfl, rfl⟩))
  clear sl
  have hq0 := lowAlloc (lowRefl w) (.cells #[.int .i64 (r.a), .int .i64 (r.b), .int .i64 (r.c), .int .i64 (r.d), .int .i64 (r.e), .int .i64 (r.f)] 72)
  have BM := Lib.hid (Has.new w #[.int .i64 (r.a), .int .i64 (r.b), .int .i64 (r.c), .int .i64 (r.d), .int .i64 (r.e), .int .i64 (r.f)] 72)
  have H1l := Lib.hid (hl.below hq0)
  clear hl
  generalize w.alloc (.cells #[.int .i64 (r.a), .int .i64 (r.b), .int .i64 (r.c), .int .i64 (r.d), .int .i64 (r.e), .int .i64 (r.f)] 72) = wz at *
  have hBS : w.heap.size ≤ _ := hq0.size
  refine wp_region_heldF [true, false, true] 1 (by kernel_rfl) (by kernel_rfl) rfl (fun _ _ _ d _ h => by cases d <;> exact h) ?_
  intro Fq hFq
  simp only [maskL]
  repeat (first | (refine wpHeld_skip (by rfl) ?_; ((try simp only [Act.put, List.setIfInBounds_toArray, List.set_cons_zero, List.set_cons_succ]))) | (refine wpHeld_run ?_ rfl ?_ ?_; rotate_left; (focus (intro w' hbq Kq hKq; go_simp; (try (rw [IntWalk.i64_in]; rotate_left; focus (constructor <;> omega))); first | exact hKq _ (Below.refl _ _) | (have CM := Has.cell (BM.out.below (undrew hbq)); go_simp; exact hKq _ (Below.refl _ _)))); ((try simp only [Act.put, List.setIfInBounds_toArray, List.set_cons_zero, List.set_cons_succ]))))
  refine wpHeld_nil (hFq _ ⟨fun v w2 => PRow w2 w.heap.size v l, fun v w1 w2 h k => RowK.below h k, ?_, ?_, ?_⟩)
  · rfl
  · intro wA hSA K hK
    go_simp
    go_at_call 42; (with_reducible refine (toPartS_any l _ _ (H1l.out.below (undrew hSA)) ml).mono ?_); rintro e wB ⟨vc, rfl, hr, hb⟩
    refine back ?_
    exact hK _ _ hb (RowK.mono hr (Nat.le_trans hBS hSA.size))
  intro v5 w1 h2 r3
  have q4 := undrew h2
  clear hFq hBS h2
  simp only [List.length_cons, List.length_nil, Nat.zero_add, Nat.reduceAdd, List.drop_succ_cons, List.drop_zero]
  have f6 := Lib.hid (H1l.out.below q4)
  clear H1l
  have f7 := Lib.hid (BM.out.below q4)
  clear BM
  have L8 := lowCall hq0 q4
  clear hq0
  go_upto_region 6 with (first | (go_at_call 45; (with_reducible refine (toRay_any _ _ _ _ _ _ _).mono ?_); rintro e w10 ⟨rfl, b9⟩) | (go_at_call 14; (with_reducible refine (sSolidCut_any l _ r _ (PRow.seen (RowK.below r3 b9)) ml).mono ?_); rintro e w11 ⟨v13, rfl, r14, b12⟩; rw [hR] at r14))
  have lo_v0 := L8.size
  have f15 := Lib.hid (f6.out.below b9)
  clear f6
  have f16 := Lib.hid (f7.out.below b9)
  clear f7
  have L17 := lowCall L8 b9
  clear L8
  have r14m := RowK.mono r14 L17.size
  clear r14
  have f18 := Lib.hid (f15.out.below b12)
  clear f15
  have f19 := Lib.hid (f16.out.below b12)
  clear f16
  have L20 := lowCall L17 b12
  clear L17
  go_upto_region 7 with (go_at_call 42; (with_reducible refine (toPartS_any l _ _ (f18.out) ml).mono ?_); rintro e w24 ⟨t21, rfl, r22, b23⟩)
  obtain ⟨ap_v0_xl, ap_xl_v0⟩ := apartP r14m.own r22.own
  have lo_xl := L20.size
  have lt_xl := Has.lt f19.out
  have f25 := Lib.hid (f18.out.below b23)
  clear f18
  have f26 := Lib.hid (f19.out.below b23)
  clear f19
  have f27 := r14m.below b23
  clear r14m
  have L28 := lowCall L20 b23
  clear L20
  have CM := Has.cell f26.out
  go_upto_region 8 with (first | (go_at_call 45; (with_reducible refine (toRay_any _ _ _ _ _ _ _).mono ?_); rintro e w30 ⟨rfl, b29⟩) | (go_at_call 12; (with_reducible refine (iSolidCut_any l _ r _ (PRow.seen (RowK.below r22 b29)) ml).mono ?_); rintro e w31 ⟨v33, rfl, r34, b32⟩; rw [hR] at r34))
  clear CM
  have f35 := Lib.hid (f25.out.below b29)
  clear f25
  have f36 := Lib.hid (f26.out.below b29)
  clear f26
  have f37 := f27.below b29
  clear f27
  have f38 := r22.below b29
  clear r22
  have L39 := lowCall L28 b29
  clear L28
  obtain ⟨ap_v0_g0, ap_g0_v0⟩ := apartP f37.own r34.own
  obtain ⟨ap_xl_g0, ap_g0_xl⟩ := apartP f38.own r34.own
  have lo_g0 := L39.size
  have lt_g0 := Has.lt f36.out
  have f40 := Lib.hid (f35.out.below b32)
  clear f35
  have f41 := Lib.hid (f36.out.below b32)
  clear f36
  have f42 := f37.below b32
  clear f37
  have f43 := f38.below b32
  clear f38
  have L44 := lowCall L39 b32
  clear L39
  go_upto_region 10 with (go_at_call 46; (with_reducible refine (eqSpanS_yes R v33 v13 _ (SRow.seen (r34)) (SRow.seen (f42)) (by omega)).mono ?_); rintro e w46 ⟨rfl, b45⟩)
  have f47 := Lib.hid (f40.out.below b45)
  clear f40
  have f48 := Lib.hid (f41.out.below b45)
  clear f41
  have f49 := f42.below b45
  clear f42
  have f50 := f43.below b45
  clear f43
  have f51 := r34.below b45
  clear r34
  have L52 := lowCall L44 b45
  clear L44
  go_upto_region 12 with (first | (go_at_call 42; (with_reducible refine (toPartS_any l _ _ (f47.out) ml).mono ?_); rintro e w56 ⟨t53, rfl, r54, b55⟩) | (go_at_call 44; (with_reducible refine (eqPartS_yes l t21 t53 _ (PRow.seen (RowK.below f50 b55)) (PRow.seen (r54)) (by omega)).mono ?_); rintro e w58 ⟨rfl, b57⟩))
  have f59 := Lib.hid (f47.out.below b55)
  clear f47
  have f60 := Lib.hid (f48.out.below b55)
  clear f48
  have f61 := f49.below b55
  clear f49
  have f62 := f50.below b55
  clear f50
  have f63 := f51.below b55
  clear f51
  have L64 := lowCall L52 b55
  clear L52
  have f65 := Lib.hid (f59.out.below b57)
  clear f59
  have f66 := Lib.hid (f60.out.below b57)
  clear f60
  have f67 := f61.below b57
  clear f61
  have f68 := f62.below b57
  clear f62
  have f69 := f63.below b57
  clear f63
  have L70 := lowCall L64 b57
  clear L64
  have NE_xl := own_lo f68.own lt_xl
  go_upto_region 14 with (go_at_call 47; (with_reducible refine (markPartS_any l t21 _ (1) _ (by omega) (by omega) f68).mono ?_); rintro e w73 ⟨rfl, r72, g71⟩)
  have L74 := L70.grown g71 L70.size (fun g hg => Nat.le_trans lo_xl (f68.own.lt g hg).1)
  have f75 := Lib.hid (H0l.out.grownLow L70 g71 lo_xl f68.own)
  clear f65
  have f76 := f67.kept g71 ap_v0_xl
  clear f67
  have f77 := f69.kept g71 ap_g0_xl
  clear f69
  have f78 := Lib.hid (f66.out.grown g71 NE_xl)
  clear f66 NE_xl
  clear f68 L70 g71
  go_upto_region 16 with (go_at_call 46; (with_reducible refine (eqSpanS_yes R v33 v13 _ (SRow.seen (f77)) (SRow.seen (f76)) (by omega)).mono ?_); rintro e w80 ⟨rfl, b79⟩)
  have f81 := Lib.hid (f75.out.below b79)
  clear f75
  have f82 := f76.below b79
  clear f76
  have f83 := r72.below b79
  clear r72
  have f84 := f77.below b79
  clear f77
  have f85 := Lib.hid (f78.out.below b79)
  clear f78
  have L86 := lowCall L74 b79
  clear L74
  have NE_g0 := own_lo f84.own lt_g0
  go_upto_region 18 with (go_at_call 48; (with_reducible refine (markSpanS_any R v33 _ (1) _ (by omega) (by omega) f84).mono ?_); rintro e w89 ⟨rfl, r88, g87⟩)
  have L90 := L86.grown g87 L86.size (fun g hg => Nat.le_trans lo_g0 (f84.own.lt g hg).1)
  have f91 := Lib.hid (H0l.out.grownLow L86 g87 lo_g0 f84.own)
  clear f81
  have f92 := f82.kept g87 ap_v0_g0
  clear f82
  have f93 := f83.kept g87 ap_xl_g0
  clear f83
  have f94 := Lib.hid (f85.out.grown g87 NE_g0)
  clear f85 NE_g0
  clear f84 L86 g87
  go_upto_region 20 with (go_at_call 49; (with_reducible refine (heldSpanS_any R.length v33 1 _ (by omega) (by omega) (SRow.seen r88)).mono ?_); rintro e w' ⟨rfl, rfl⟩)
  go_upto_region 24 with fail
  have hBS : w.heap.size ≤ _ := L90.size
  refine wp_region_heldF [true, false, true] 1 (by kernel_rfl) (by kernel_rfl) rfl (fun _ _ _ d _ h => by cases d <;> exact h) ?_
  intro Fq hFq
  simp only [maskL]
  repeat (first | (refine wpHeld_skip (by rfl) ?_; ((try simp only [Act.put, List.setIfInBounds_toArray, List.set_cons_zero, List.set_cons_succ]))) | (refine wpHeld_run ?_ rfl ?_ ?_; rotate_left; (focus (intro w' hbq Kq hKq; go_simp; (try (rw [IntWalk.i64_in]; rotate_left; focus (constructor <;> omega))); first | exact hKq _ (Below.refl _ _) | (have CM := Has.cell (f94.out.below (undrew hbq)); go_simp; exact hKq _ (Below.refl _ _)))); ((try simp only [Act.put, List.setIfInBounds_toArray, List.set_cons_zero, List.set_cons_succ]))))
  refine wpHeld_nil (hFq _ ⟨fun v w2 => PRow w2 w.heap.size v l, fun v w1 w2 h k => RowK.below h k, ?_, ?_, ?_⟩)
  · rfl
  · intro wA hSA K hK
    go_simp
    go_at_call 42; (with_reducible refine (toPartS_any l _ _ (f91.out.below (undrew hSA)) ml).mono ?_); rintro e wB ⟨vc, rfl, hr, hb⟩
    refine back ?_
    exact hK _ _ hb (RowK.mono hr (Nat.le_trans hBS hSA.size))
  intro v99 w95 h96 r97
  have q98 := undrew h96
  clear hFq hBS h96
  simp only [List.length_cons, List.length_nil, Nat.zero_add, Nat.reduceAdd, List.drop_succ_cons, List.drop_zero]
  have f100 := Lib.hid (f91.out.below q98)
  clear f91
  have f101 := f92.below q98
  clear f92
  have f102 := f93.below q98
  clear f93
  have f103 := r88.below q98
  clear r88
  have f104 := Lib.hid (f94.out.below q98)
  clear f94
  have L105 := lowCall L90 q98
  clear L90
  go_upto_region 25 with (first | (go_at_call 45; (with_reducible refine (toRay_any _ _ _ _ _ _ _).mono ?_); rintro e w107 ⟨rfl, b106⟩) | (go_at_call 12; (with_reducible refine (iSolidCut_any l _ r _ (PRow.seen (RowK.below r97 b106)) ml).mono ?_); rintro e w108 ⟨v110, rfl, r111, b109⟩; rw [hR] at r111))
  have f112 := Lib.hid (f100.out.below b106)
  clear f100
  have f113 := f101.below b106
  clear f101
  have f114 := f102.below b106
  clear f102
  have f115 := f103.below b106
  clear f103
  have f116 := Lib.hid (f104.out.below b106)
  clear f104
  have L117 := lowCall L105 b106
  clear L105
  have f118 := Lib.hid (f112.out.below b109)
  clear f112
  have f119 := f113.below b109
  clear f113
  have f120 := f114.below b109
  clear f114
  have f121 := f115.below b109
  clear f115
  have f122 := Lib.hid (f116.out.below b109)
  clear f116
  have L123 := lowCall L117 b109
  clear L117
  go_upto_region 27 with (go_at_call 46; (with_reducible refine (eqSpanS_yes R v110 v13 _ (SRow.seen (r111)) (SRow.seen (f119)) (by omega)).mono ?_); rintro e w125 ⟨rfl, b124⟩)
  have f126 := Lib.hid (f118.out.below b124)
  clear f118
  have f127 := f119.below b124
  clear f119
  have f128 := f120.below b124
  clear f120
  have f129 := f121.below b124
  clear f121
  have f130 := Lib.hid (f122.out.below b124)
  clear f122
  have L131 := lowCall L123 b124
  clear L123
  go_wp2_with (go_at_call 49; (with_reducible refine (heldSpanS_any R.length v33 1 _ (by omega) (by omega) (SRow.seen f129)).mono ?_); rintro e w' ⟨rfl, rfl⟩)
  go_ret
  exact ⟨rfl, L131⟩
theorem wFnExactSolidCut (l : List Pt) (vl : Value) (a b c d e f : Int) (w : World) (hl : PIn w vl l) (nl : l.length ≤ 9223372036854775807) :
    Calls Tryz.prog 8 #[vl, .agg #[.int .i64 (a), .int .i64 (b), .int .i64 (c), .int .i64 (d), .int .i64 (e), .int .i64 (f)]] w fun e w' => e = .returned (.bool true) ∧ Below w.heap.size w w' := wCut0 ⟨a, b, c, d, e, f⟩ l vl w hl nl
end Go.Proofs.YtckenfomnenknaaGreat
end
section
namespace Go.Proofs.YtckenfomnenknaaGreat
open Go.ChangeShapes Go.WideShapes Go.ChangeAt Go.RowKit
set_option linter.unusedVariables false
instance : Inhabited Pt := ⟨Pt.zero⟩
end Go.Proofs.YtckenfomnenknaaGreat
end
