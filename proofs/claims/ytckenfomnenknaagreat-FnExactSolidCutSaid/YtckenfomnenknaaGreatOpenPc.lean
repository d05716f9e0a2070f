import Derived.Deep.Slices
import Derived.OpenShut
import Derived.ProofKit
import Derived.Test.YtckenfomnenknaaGreatHeldDc
import Derived.Test.YtckenfomnenknaaGreatIntsc
import Derived.Test.YtckenfomnenknaaGreatShgc
import Derived.Test.YtckenfomnenknaaGreatSpTc
section
namespace Go.Proofs.YtckenfomnenknaaGreat
open Go.ChangeShapes Go.WideShapes Go.ChangeAt Go.RowKit
set_option maxHeartbeats 4000000
set_option maxRecDepth 8000
set_option linter.unusedSimpArgs false
set_option linter.unusedVariables false

attribute [local go_sem] VGo_value VGo_skip VGo_enter
theorem sct_len {l : List Pt} {r : Sx} : (sct l r).length ≤ 1048576 := by
  unfold sct; split
  · rename_i h
    have h0 := dec_iff.1 h
    have h1 := h0.1.1.1
    have h2 := nl_le h0.1 (l.length - 1) (by omega)
    have h3 := sp_len r (shp (lvs l) (l.length - 1))
    omega
  · simp
set_option maxRecDepth 100000 in
theorem wCut0 (r : Sx) (l : List Pt) (vl : Value) (w : World) (hl : PIn w vl l) (nl : l.length ≤ 9223372036854775807) :
    Calls Tryz.prog 8 #[vl, r.val] w fun e w' => e = .returned (.bool true) ∧ Below w.heap.size w w' := by
  obtain ⟨Al, cl, el, _⟩ := id hl
  subst el
  have H0l := Lib.hid hl
  by_cases sl : (1048576 : Int) - l.length < 0
  · go_enter Tryz.func8, Tryz.ntmps8
    go_wp2_with (first | (go_at_call 41; (with_reducible refine (szPartS_no Al l.length cl (1048576) _ (by omega) (by omega) nl).mono ?_); rintro e w' ⟨rfl, rfl⟩))
    go_ret; refine ⟨rfl, ?_⟩; (repeat' (first | with_reducible (first | exact lowRefl _ | apply lowSet | apply lowDrew | apply lowDrewN | apply lowAlloc) | (with_reducible refine lowCall ?_ (by assumption)) | (show (_ : Nat) ≤ _; first | (simp; done) | (simp; omega) | omega)))
  have ml : l.length ≤ 1048576 := by omega
  have mR : (sct l r).length ≤ 1048576 := sct_len
  generalize hR : sct l r = R at *
  go_enter Tryz.func8, Tryz.ntmps8
  go_upto_region 5 with (first | (go_at_call 41; (with_reducible refine (szPartS_yes Al l.length cl (1048576) _ (by omega) (by omega)).mono ?_); rintro e w' ⟨rfl, rfl⟩))
  clear sl
  have hq0 := lowAlloc (lowRefl w) (.cells #[.int .i64 (r.a), .int .i64 (r.b), .int .i64 (r.c), .int .i64 (r.d), .int .i64 (r.e), .int .i64 (r.f)] 72)
  have BM := Lib.hid (Has.new w #[.int .i64 (r.a), .int .i64 (r.b), .int .i64 (r.c), .int .i64 (r.d), .int .i64 (r.e), .int .i64 (r.f)] 72)
  have H1l := Lib.hid (hl.below hq0)
  clear hl
  generalize w.alloc (.cells #[.int .i64 (r.a), .int .i64 (r.b), .int .i64 (r.c), .int .i64 (r.d), .int .i64 (r.e), .int .i64 (r.f)] 72) = wz at *
  have hBS : w.heap.size ≤ _ := hq0.size
  refine wp_region_heldF [true, false, true] 1 (by kernel_rfl) (by kernel_rfl) rfl (fun _ _ _ d _ h => by cases d <;> exact h) ?_
  intro Fq hFq
  simp only [maskL]
  repeat (first | (refine wpHeld_skip (by rfl) ?_; ((try simp only [Act.put, List.setIfInBounds_toArray, List.set_cons_zero, List.set_cons_succ]))) | (refine wpHeld_run ?_ rfl ?_ ?_; rotate_left; (focus (intro w' hbq Kq hKq; go_simp; (try (rw [IntWalk.i64_in]; rotate_left; focus (constructor <;> omega))); first | exact hKq _ (Below.refl _ _) | (have CM := Has.cell (BM.out.below (undrew hbq)); go_simp; exact hKq _ (Below.refl _ _)))); ((try simp only [Act.put, List.setIfInBounds_toArray, List.set_cons_zero, List.set_cons_succ]))))
  refine wpHeld_nil (hFq _ ⟨fun v w2 => PRow w2 w.heap.size v l, fun v w1 w2 h k => RowK.below h k, ?_, ?_, ?_⟩)
  · rfl
  · intro wA hSA K hK
    go_simp
    go_at_call 42; (with_reducible refine (toPartS_any l _ _ (H1l.out.below (undrew hSA)) ml).mono ?_); rintro e wB ⟨vc, rfl, hr, hb⟩
    refine back ?_
    exact hK _ _ hb (RowK.mono hr (Nat.le_trans hBS hSA.size))
  intro v5 w1 h2 r3
  have q4 := undrew h2
  clear hFq hBS h2
  simp only [List.length_cons, List.length_nil, Nat.zero_add, Nat.reduceAdd, List.drop_succ_cons, List.drop_zero]
  have f6 := Lib.hid (H1l.out.below q4)
  clear H1l
  have f7 := Lib.hid (BM.out.below q4)
  clear BM
  have L8 := lowCall hq0 q4
  clear hq0
  go_upto_region 6 with (first | (go_at_call 45; (with_reducible refine (toRay_any _ _ _ _ _ _ _).mono ?_); rintro e w10 ⟨rfl, b9⟩) | (go_at_call 14; (with_reducible refine (sSolidCut_any l _ r _ (PRow.seen (RowK.below r3 b9)) ml).mono ?_); rintro e w11 ⟨v13, rfl, r14, b12⟩; rw [hR] at r14))
  have lo_v0 := L8.size
  have f15 := Lib.hid (f6.out.below b9)
  clear f6
  have f16 := Lib.hid (f7.out.below b9)
  clear f7
  have L17 := lowCall L8 b9
  clear L8
  have r14m := RowK.mono r14 L17.size
  clear r14
  have f18 := Lib.hid (f15.out.below b12)
  clear f15
  have f19 := Lib.hid (f16.out.below b12)
  clear f16
  have L20 := lowCall L17 b12
  clear L17
  go_upto_region 7 with (go_at_call 42; (with_reducible refine (toPartS_any l _ _ (f18.out) ml).mono ?_); rintro e w24 ⟨t21, rfl, r22, b23⟩)
  obtain ⟨ap_v0_xl, ap_xl_v0⟩ := apartP r14m.own r22.own
  have lo_xl := L20.size
  have lt_xl := Has.lt f19.out
  have f25 := Lib.hid (f18.out.below b23)
  clear f18
  have f26 := Lib.hid (f19.out.below b23)
  clear f19
  have f27 := r14m.below b23
  clear r14m
  have L28 := lowCall L20 b23
  clear L20
  have CM := Has.cell f26.out
  go_upto_region 8 with (first | (go_at_call 45; (with_reducible refine (toRay_any _ _ _ _ _ _ _).mono ?_); rintro e w30 ⟨rfl, b29⟩) | (go_at_call 12; (with_reducible refine (iSolidCut_any l _ r _ (PRow.seen (RowK.below r22 b29)) ml).mono ?_); rintro e w31 ⟨v33, rfl, r34, b32⟩; rw [hR] at r34))
  clear CM
  have f35 := Lib.hid (f25.out.below b29)
  clear f25
  have f36 := Lib.hid (f26.out.below b29)
  clear f26
  have f37 := f27.below b29
  clear f27
  have f38 := r22.below b29
  clear r22
  have L39 := lowCall L28 b29
  clear L28
  obtain ⟨ap_v0_g0, ap_g0_v0⟩ := apartP f37.own r34.own
  obtain ⟨ap_xl_g0, ap_g0_xl⟩ := apartP f38.own r34.own
  have lo_g0 := L39.size
  have lt_g0 := Has.lt f36.out
  have f40 := Lib.hid (f35.out.below b32)
  clear f35
  have f41 := Lib.hid (f36.out.below b32)
  clear f36
  have f42 := f37.below b32
  clear f37
  have f43 := f38.below b32
  clear f38
  have L44 := lowCall L39 b32
  clear L39
  go_upto_region 10 with (go_at_call 46; (with_reducible refine (eqSpanS_yes R v33 v13 _ (SRow.seen (r34)) (SRow.seen (f42)) (by omega)).mono ?_); rintro e w46 ⟨rfl, b45⟩)
  have f47 := Lib.hid (f40.out.below b45)
  clear f40
  have f48 := Lib.hid (f41.out.below b45)
  clear f41
  have f49 := f42.below b45
  clear f42
  have f50 := f43.below b45
  clear f43
  have f51 := r34.below b45
  clear r34
  have L52 := lowCall L44 b45
  clear L44
  go_upto_region 12 with (first | (go_at_call 42; (with_reducible refine (toPartS_any l _ _ (f47.out) ml).mono ?_); rintro e w56 ⟨t53, rfl, r54, b55⟩) | (go_at_call 44; (with_reducible refine (eqPartS_yes l t21 t53 _ (PRow.seen (RowK.below f50 b55)) (PRow.seen (r54)) (by omega)).mono ?_); rintro e w58 ⟨rfl, b57⟩))
  have f59 := Lib.hid (f47.out.below b55)
  clear f47
  have f60 := Lib.hid (f48.out.below b55)
  clear f48
  have f61 := f49.below b55
  clear f49
  have f62 := f50.below b55
  clear f50
  have f63 := f51.below b55
  clear f51
  have L64 := lowCall L52 b55
  clear L52
  have f65 := Lib.hid (f59.out.below b57)
  clear f59
  have f66 := Lib.hid (f60.out.below b57)
  clear f60
  have f67 := f61.below b57
  clear f61
  have f68 := f62.below b57
  clear f62
  have f69 := f63.below b57
  clear f63
  have L70 := lowCall L64 b57
  clear L64
  have NE_xl := own_lo f68.own lt_xl
  go_upto_region 14 with (go_at_call 47; (with_reducible refine (markPartS_any l t21 _ (1) _ (by omega) (by omega) f68).mono ?_); rintro e w73 ⟨rfl, r72, g71⟩)
  have L74 := L70.grown g71 L70.size (fun g hg => Nat.le_trans lo_xl (f68.own.lt g hg).1)
  have f75 := Lib.hid (H0l.out.grownLow L70 g71 lo_xl f68.own)
  clear f65
  have f76 := f67.kept g71 ap_v0_xl
  clear f67
  have f77 := f69.kept g71 ap_g0_xl
  clear f69
  have f78 := Lib.hid (f66.out.grown g71 NE_xl)
  clear f66 NE_xl
  clear f68 L70 g71
  go_upto_region 16 with (go_at_call 46; (with_reducible refine (eqSpanS_yes R v33 v13 _ (SRow.seen (f77)) (SRow.seen (f76)) (by omega)).mono ?_); rintro e w80 ⟨rfl, b79⟩)
  have f81 := Lib.hid (f75.out.below b79)
  clear f75
  have f82 := f76.below b79
  clear f76
  have f83 := r72.below b79
  clear r72
  have f84 := f77.below b79
  clear f77
  have f85 := Lib.hid (f78.out.below b79)
  clear f78
  have L86 := lowCall L74 b79
  clear L74
  have NE_g0 := own_lo f84.own lt_g0
  go_upto_region 18 with (go_at_call 48; (with_reducible refine (markSpanS_any R v33 _ (1) _ (by omega) (by omega) f84).mono ?_); rintro e w89 ⟨rfl, r88, g87⟩)
  have L90 := L86.grown g87 L86.size (fun g hg => Nat.le_trans lo_g0 (f84.own.lt g hg).1)
  have f91 := Lib.hid (H0l.out.grownLow L86 g87 lo_g0 f84.own)
  clear f81
  have f92 := f82.kept g87 ap_v0_g0
  clear f82
  have f93 := f83.kept g87 ap_xl_g0
  clear f83
  have f94 := Lib.hid (f85.out.grown g87 NE_g0)
  clear f85 NE_g0
  clear f84 L86 g87
  go_upto_region 20 with (go_at_call 49; (with_reducible refine (heldSpanS_any R.length v33 1 _ (by omega) (by omega) (SRow.seen r88)).mono ?_); rintro e w' ⟨rfl, rfl⟩)
  go_upto_region 24 with fail
  have hBS : w.heap.size ≤ _ := L90.size
  refine wp_region_heldF [true, false, true] 1 (by kernel_rfl) (by kernel_rfl) rfl (fun _ _ _ d _ h => by cases d <;> exact h) ?_
  intro Fq hFq
  simp only [maskL]
  repeat (first | (refine wpHeld_skip (by rfl) ?_; ((try simp only [Act.put, List.setIfInBounds_toArray, List.set_cons_zero, List.set_cons_succ]))) | (refine wpHeld_run ?_ rfl ?_ ?_; rotate_left; (focus (intro w' hbq Kq hKq; go_simp; (try (rw [IntWalk.i64_in]; rotate_left; focus (constructor <;> omega))); first | exact hKq _ (Below.refl _ _) | (have CM := Has.cell (f94.out.below (undrew hbq)); go_simp; exact hKq _ (Below.refl _ _)))); ((try simp only [Act.put, List.setIfInBounds_toArray, List.set_cons_zero, List.set_cons_succ]))))
  refine wpHeld_nil (hFq _ ⟨fun v w2 => PRow w2 w.heap.size v l, fun v w1 w2 h k => RowK.below h k, ?_, ?_, ?_⟩)
  · rfl
  · intro wA hSA K hK
    go_simp
    go_at_call 42; (with_reducible refine (toPartS_any l _ _ (f91.out.below (undrew hSA)) ml).mono ?_); rintro e wB ⟨vc, rfl, hr, hb⟩
    refine back ?_
    exact hK _ _ hb (RowK.mono hr (Nat.le_trans hBS hSA.size))
  intro v99 w95 h96 r97
  have q98 := undrew h96
  clear hFq hBS h96
  simp only [List.length_cons, List.length_nil, Nat.zero_add, Nat.reduceAdd, List.drop_succ_cons, List.drop_zero]
  have f100 := Lib.hid (f91.out.below q98)
  clear f91
  have f101 := f92.below q98
  clear f92
  have f102 := f93.below q98
  clear f93
  have f103 := r88.below q98
  clear r88
  have f104 := Lib.hid (f94.out.below q98)
  clear f94
  have L105 := lowCall L90 q98
  clear L90
  go_upto_region 25 with (first | (go_at_call 45; (with_reducible refine (toRay_any _ _ _ _ _ _ _).mono ?_); rintro e w107 ⟨rfl, b106⟩) | (go_at_call 12; (with_reducible refine (iSolidCut_any l _ r _ (PRow.seen (RowK.below r97 b106)) ml).mono ?_); rintro e w108 ⟨v110, rfl, r111, b109⟩; rw [hR] at r111))
  have f112 := Lib.hid (f100.out.below b106)
  clear f100
  have f113 := f101.below b106
  clear f101
  have f114 := f102.below b106
  clear f102
  have f115 := f103.below b106
  clear f103
  have f116 := Lib.hid (f104.out.below b106)
  clear f104
  have L117 := lowCall L105 b106
  clear L105
  have f118 := Lib.hid (f112.out.below b109)
  clear f112
  have f119 := f113.below b109
  clear f113
  have f120 := f114.below b109
  clear f114
  have f121 := f115.below b109
  clear f115
  have f122 := Lib.hid (f116.out.below b109)
  clear f116
  have L123 := lowCall L117 b109
  clear L117
  go_upto_region 27 with (go_at_call 46; (with_reducible refine (eqSpanS_yes R v110 v13 _ (SRow.seen (r111)) (SRow.seen (f119)) (by omega)).mono ?_); rintro e w125 ⟨rfl, b124⟩)
  have f126 := Lib.hid (f118.out.below b124)
  clear f118
  have f127 := f119.below b124
  clear f119
  have f128 := f120.below b124
  clear f120
  have f129 := f121.below b124
  clear f121
  have f130 := Lib.hid (f122.out.below b124)
  clear f122
  have L131 := lowCall L123 b124
  clear L123
  go_wp2_with (go_at_call 49; (with_reducible refine (heldSpanS_any R.length v33 1 _ (by omega) (by omega) (SRow.seen f129)).mono ?_); rintro e w' ⟨rfl, rfl⟩)
  go_ret
  exact ⟨rfl, L131⟩
theorem wFnExactSolidCut (l : List Pt) (vl : Value) (a b c d e f : Int) (w : World) (hl : PIn w vl l) (nl : l.length ≤ 9223372036854775807) :
    Calls Tryz.prog 8 #[vl, .agg #[.int .i64 (a), .int .i64 (b), .int .i64 (c), .int .i64 (d), .int .i64 (e), .int .i64 (f)]] w fun e w' => e = .returned (.bool true) ∧ Below w.heap.size w w' := wCut0 ⟨a, b, c, d, e, f⟩ l vl w hl nl
end Go.Proofs.YtckenfomnenknaaGreat
end
section
namespace Go.Proofs.YtckenfomnenknaaGreat
open Go Go.ChangeShapes Go.WideShapes

/- values whose cells are integers and bools alone: what stands in each cell -/
def kindAt (P : Program) : Nat → TypeId → Nat → Option (Option IntKind)
  | 0, _, _ => none
  | m + 1, t, off =>
    match P.underlying t with
    | some .bool => if off = 0 then some none else none
    | some (.int k) => if off = 0 then some (some k) else none
    | some (.struct fs) => fs.toList.findSome? fun f => if f.offset ≤ off ∧ off < f.offset + P.cellsOf f.type then kindAt P m f.type (off - f.offset) else none
    | some (.array n e) => if P.cellsOf e = 0 ∨ n * P.cellsOf e ≤ off then none else kindAt P m e (off % P.cellsOf e)
    | _ => none
def fitsK : Option IntKind → Value → Prop
  | none, v => ∃ b, v = .bool b
  | some k, v => ∃ n, v = .int k n ∧ (Lit.int k n).wf = true
theorem get_cut {α : Type} {cs : List α} {o c i : Nat} {v : α} (h : ((cs.drop o).take c)[i]? = some v) : cs[o + i]? = some v := by
  rw [List.getElem?_take] at h
  split at h
  · rwa [List.getElem?_drop] at h
  · cases h
theorem kindAt_spec {H : Type} {enc : TypeId × Value → H} {P : Program} {w : World} {base : Nat} {spare : Nat → Bool} {held : Bool} :
    ∀ (m : Nat) (t : TypeId) (off n : Nat) (cs : List Value) (x : DataW H × List MemPlace) (k : Option IntKind), DataW.trod enc P w base spare held n t cs = some x → kindAt P m t off = some k → ∃ v, cs[off]? = some v ∧ fitsK k v
  | 0, _, _, _, _, _, _, _, h => by cases h
  | m + 1, t, off, n, cs, x, k, ht, h => by
    unfold kindAt at h
    split at h
    · rename_i hu
      split at h
      · rename_i h0; subst h0; cases h
        obtain ⟨b, rfl, _⟩ := DataW.trod_bool hu ht
        exact ⟨_, rfl, b, rfl⟩
      · cases h
    · rename_i k' hu
      split at h
      · rename_i h0; subst h0; cases h
        obtain ⟨a, rfl, _, hw⟩ := DataW.trod_int hu ht
        exact ⟨_, rfl, a, rfl, hw⟩
      · cases h
    · rename_i fs hu
      obtain ⟨f, hf, hif⟩ := List.exists_of_findSome?_eq_some h
      split at hif
      · rename_i hr
        obtain ⟨xs, n', _, _, _, hl, hg⟩ := DataW.trod_struct hu ht
        obtain ⟨i, hi, hfi⟩ := List.getElem_of_mem hf
        have hfs : fs[i]? = some f := by
          rw [← hfi]; simp at hi; simp [hi]
        have hlt : i < xs.length := by rw [hl]; simpa using hi
        have h1 := hg i f hfs
        rw [List.getElem?_eq_getElem hlt] at h1
        obtain ⟨v, hv, hk⟩ := kindAt_spec m f.type (off - f.offset) n' _ _ k h1 hif
        have h2 := get_cut hv
        rw [show f.offset + (off - f.offset) = off by omega] at h2
        exact ⟨v, h2, hk⟩
      · cases hif
    · rename_i c e hu
      split at h
      · cases h
      · rename_i hno
        obtain ⟨xs, n', _, _, _, hl, hg⟩ := DataW.trod_array hu ht
        have hpos : 0 < P.cellsOf e := by omega
        have hlt : off / P.cellsOf e < c := by
          rw [Nat.div_lt_iff_lt_mul hpos]; omega
        have h1 := hg (off / P.cellsOf e) hlt
        rw [List.getElem?_eq_getElem (by rw [hl]; exact hlt)] at h1
        obtain ⟨v, hv, hk⟩ := kindAt_spec m e (off % P.cellsOf e) n' _ _ k h1 h
        have h2 := get_cut hv
        rw [Nat.mul_comm, Nat.div_add_mod] at h2
        exact ⟨v, h2, hk⟩
    · cases h
def Fits : List (Option IntKind) → List Value → Prop
  | [], cs => cs = []
  | none :: L, cs => ∃ b rest, cs = .bool b :: rest ∧ Fits L rest
  | some k :: L, cs => ∃ n rest, (Lit.int k n).wf = true ∧ cs = .int k n :: rest ∧ Fits L rest
theorem fits_of : ∀ (L : List (Option IntKind)) (cs : List Value), cs.length = L.length → (∀ (i : Nat) (k : Option IntKind), L[i]? = some k → ∃ v, cs[i]? = some v ∧ fitsK k v) → Fits L cs
  | [], cs, hl, _ => by simpa [Fits] using hl
  | k :: L, [], hl, _ => by simp at hl
  | k :: L, c :: cs, hl, h => by
    have h0 := h 0 k rfl
    have ih := fits_of L cs (by simpa using hl) (fun i k' hi => by have := h (i + 1) k' (by simpa using hi); simpa using this)
    obtain ⟨v, hv, hk⟩ := h0
    have : c = v := by simpa using hv
    subst this
    cases k with
    | none => obtain ⟨b, rfl⟩ := hk; exact ⟨b, cs, rfl, ih⟩
    | some k => obtain ⟨n, rfl, hw⟩ := hk; exact ⟨n, cs, hw, rfl, ih⟩
theorem open_flat {H : Type} {enc : TypeId × Value → H} {P : Program} {w : World} {base : Nat} {spare : Nat → Bool} {held : Bool} {r : Reach} {b0 : Nat} {t : TypeId} {fs : Array Field} {v : Value} {d : DataW H} {p : List MemPlace}
    (hs : P.underlying t = some (.struct fs)) (hv : Value.okWide P w r b0 t v) (h : DataW.Trod enc P w base spare held t v d p) (L : List (Option IntKind)) (hN : P.cellsOf t = L.length)
    (hk : (List.range L.length).map (kindAt P 9 t) = L.map some) : ∃ cs, v = .agg cs.toArray ∧ Fits L cs := by
  obtain ⟨cs, rfl, hsz⟩ := okWide_struct hs hv
  obtain ⟨fuel, hf⟩ := h
  refine ⟨cs.toList, by simp, fits_of L _ (by simp [hsz, hN]) fun i k hi => ?_⟩
  refine kindAt_spec 9 t i fuel _ _ k hf ?_
  have h1 : (List.map (kindAt P 9 t) (List.range L.length))[i]? = (L.map some)[i]? := by rw [hk]
  have hlt : i < L.length := (List.getElem?_eq_some_iff.1 hi).1
  rw [List.getElem?_map, List.getElem?_map, hi, List.getElem?_range hlt] at h1
  simpa using h1
end Go.Proofs.YtckenfomnenknaaGreat
end
section
namespace Go.Proofs.YtckenfomnenknaaGreat
open Go.ChangeShapes Go.WideShapes Go.ChangeAt Go.RowKit
set_option linter.unusedVariables false
/- a list of structs of integers and bools that a law gets, out of its reading: each cell of each element -/
theorem elemsK_of {H : Type} {enc : TypeId × Value → H} {P : Program} {W : World} {t e : TypeId} {A : Option Addr} {n c : Nat} {d : DataW H} {p : List MemPlace} (ht : P.underlying t = some (.slice e))
    (C : Nat) (hC : P.cellsOf e = C) (hC0 : 0 < C) (K : Nat → Option IntKind) (hk : ∀ j, j < C → kindAt P 9 e j = some (K j)) (h : DataW.Trod enc P W 0 (fun _ => true) true t (.slice A n c) d p) :
    n ≤ 9223372036854775807 ∧ (0 < n → ∃ b off, A = some ⟨b, off, none⟩ ∧ ∀ i j, i < n → j < C → ∃ v, W.cell? ⟨b, off + i * C + j, none⟩ = some v ∧ fitsK (K j) v) := by
  obtain ⟨fuel, hf⟩ := h
  rcases Go.Deep.open_slice ht hf with ⟨hc, _⟩ | ⟨a, len, cap, m, n0, D, Pl, hc, _, hl, hm, hmm, _, hel⟩
  · simp [Value.cells] at hc
    obtain ⟨rfl, rfl, rfl⟩ := hc
    exact ⟨by omega, fun h => by omega⟩
  · simp [Value.cells] at hc
    obtain ⟨rfl, rfl, rfl⟩ := hc
    simp only [if_true] at hmm
    have hm' : c ≤ 9223372036854775807 := by unfold maxLen at hm; omega
    refine ⟨by omega, fun h0 => ?_⟩
    have each : ∀ i j, i < n → j < C → ∃ v, W.cell? ((a.add (i * C)).add j) = some v ∧ fitsK (K j) v := fun i j hi hj => by
      obtain ⟨cs', h1, h2⟩ := hel i (by omega)
      rw [hC] at h1
      obtain ⟨_, _, h3⟩ := World.cells?_some h1
      obtain ⟨v, hv, hz⟩ := kindAt_spec 9 e j n0 cs' _ _ h2 (hk j hj)
      exact ⟨v, by rw [h3 j hj, hv], hz⟩
    obtain ⟨b, off, spot⟩ := a
    obtain ⟨z0, hz0, _⟩ := each 0 0 h0 hC0
    have hspot : spot = none := by
      have := World.cell?_spot hz0
      simpa [Addr.add] using this
    subst hspot
    refine ⟨b, off, rfl, fun i j hi hj => ?_⟩
    obtain ⟨v, hv, hz⟩ := each i j hi hj
    rw [Go.WideShapes.add_plain, Go.WideShapes.add_plain] at hv
    exact ⟨v, hv, hz⟩
instance : Inhabited Pt := ⟨Pt.zero⟩
def kindP (j : Nat) : Option IntKind := if 18 ≤ j ∧ j ≤ 20 then none else some .i64
theorem kp0 : kindAt Tryz.prog 9 88 0 = some (kindP 0) := by kernel_rfl
theorem kp1 : kindAt Tryz.prog 9 88 1 = some (kindP 1) := by kernel_rfl
theorem kp2 : kindAt Tryz.prog 9 88 2 = some (kindP 2) := by kernel_rfl
theorem kp3 : kindAt Tryz.prog 9 88 3 = some (kindP 3) := by kernel_rfl
theorem kp4 : kindAt Tryz.prog 9 88 4 = some (kindP 4) := by kernel_rfl
theorem kp5 : kindAt Tryz.prog 9 88 5 = some (kindP 5) := by kernel_rfl
theorem kp6 : kindAt Tryz.prog 9 88 6 = some (kindP 6) := by kernel_rfl
theorem kp7 : kindAt Tryz.prog 9 88 7 = some (kindP 7) := by kernel_rfl
theorem kp8 : kindAt Tryz.prog 9 88 8 = some (kindP 8) := by kernel_rfl
theorem kp9 : kindAt Tryz.prog 9 88 9 = some (kindP 9) := by kernel_rfl
theorem kp10 : kindAt Tryz.prog 9 88 10 = some (kindP 10) := by kernel_rfl
theorem kp11 : kindAt Tryz.prog 9 88 11 = some (kindP 11) := by kernel_rfl
theorem kp12 : kindAt Tryz.prog 9 88 12 = some (kindP 12) := by kernel_rfl
theorem kp13 : kindAt Tryz.prog 9 88 13 = some (kindP 13) := by kernel_rfl
theorem kp14 : kindAt Tryz.prog 9 88 14 = some (kindP 14) := by kernel_rfl
theorem kp15 : kindAt Tryz.prog 9 88 15 = some (kindP 15) := by kernel_rfl
theorem kp16 : kindAt Tryz.prog 9 88 16 = some (kindP 16) := by kernel_rfl
theorem kp17 : kindAt Tryz.prog 9 88 17 = some (kindP 17) := by kernel_rfl
theorem kp18 : kindAt Tryz.prog 9 88 18 = some (kindP 18) := by kernel_rfl
theorem kp19 : kindAt Tryz.prog 9 88 19 = some (kindP 19) := by kernel_rfl
theorem kp20 : kindAt Tryz.prog 9 88 20 = some (kindP 20) := by kernel_rfl
theorem kp21 : kindAt Tryz.prog 9 88 21 = some (kindP 21) := by kernel_rfl
theorem kp22 : kindAt Tryz.prog 9 88 22 = some (kindP 22) := by kernel_rfl
theorem kp23 : kindAt Tryz.prog 9 88 23 = some (kindP 23) := by kernel_rfl
theorem kp24 : kindAt Tryz.prog 9 88 24 = some (kindP 24) := by kernel_rfl
theorem kp25 : kindAt Tryz.prog 9 88 25 = some (kindP 25) := by kernel_rfl
theorem kp26 : kindAt Tryz.prog 9 88 26 = some (kindP 26) := by kernel_rfl
theorem kpAll (j : Nat) (hj : j < 27) : kindAt Tryz.prog 9 88 j = some (kindP j) := by
  have : j = 0 ∨ j = 1 ∨ j = 2 ∨ j = 3 ∨ j = 4 ∨ j = 5 ∨ j = 6 ∨ j = 7 ∨ j = 8 ∨ j = 9 ∨ j = 10 ∨ j = 11 ∨ j = 12 ∨ j = 13 ∨ j = 14 ∨ j = 15 ∨ j = 16 ∨ j = 17 ∨ j = 18 ∨ j = 19 ∨ j = 20 ∨ j = 21 ∨ j = 22 ∨ j = 23 ∨ j = 24 ∨ j = 25 ∨ j = 26 := by omega
  rcases this with rfl | rfl | rfl | rfl | rfl | rfl | rfl | rfl | rfl | rfl | rfl | rfl | rfl | rfl | rfl | rfl | rfl | rfl | rfl | rfl | rfl | rfl | rfl | rfl | rfl | rfl | rfl
  · exact kp0
  · exact kp1
  · exact kp2
  · exact kp3
  · exact kp4
  · exact kp5
  · exact kp6
  · exact kp7
  · exact kp8
  · exact kp9
  · exact kp10
  · exact kp11
  · exact kp12
  · exact kp13
  · exact kp14
  · exact kp15
  · exact kp16
  · exact kp17
  · exact kp18
  · exact kp19
  · exact kp20
  · exact kp21
  · exact kp22
  · exact kp23
  · exact kp24
  · exact kp25
  · exact kp26
set_option maxRecDepth 100000 in
theorem parts_of {H : Type} {enc : TypeId × Value → H} {W : World} {A : Option Addr} {n c : Nat} {d : DataW H} {p : List MemPlace}
    (h : DataW.Trod enc Tryz.prog W 0 (fun _ => true) true 64 (.slice A n c) d p) : ∃ l, PIn W (.slice A n c) l ∧ l.length ≤ 9223372036854775807 := by
  obtain ⟨hn, hr⟩ := elemsK_of Tryz.underlying64 27 (by kernel_rfl) (by omega) kindP kpAll h
  by_cases h0 : 0 < n
  · obtain ⟨b, off, rfl, hc⟩ := hr h0
    obtain ⟨f, hf⟩ := Go.Deep.choose_lt (n := n) (p := fun i s => Pat W b (off + i * 27) s) fun i hi => by
      obtain ⟨_, e0, z0, rfl, _⟩ := hc i 0 hi (by omega)
      obtain ⟨_, e1, z1, rfl, _⟩ := hc i 1 hi (by omega)
      obtain ⟨_, e2, z2, rfl, _⟩ := hc i 2 hi (by omega)
      obtain ⟨_, e3, z3, rfl, _⟩ := hc i 3 hi (by omega)
      obtain ⟨_, e4, z4, rfl, _⟩ := hc i 4 hi (by omega)
      obtain ⟨_, e5, z5, rfl, _⟩ := hc i 5 hi (by omega)
      obtain ⟨_, e6, z6, rfl, _⟩ := hc i 6 hi (by omega)
      obtain ⟨_, e7, z7, rfl, _⟩ := hc i 7 hi (by omega)
      obtain ⟨_, e8, z8, rfl, _⟩ := hc i 8 hi (by omega)
      obtain ⟨_, e9, z9, rfl, _⟩ := hc i 9 hi (by omega)
      obtain ⟨_, e10, z10, rfl, _⟩ := hc i 10 hi (by omega)
      obtain ⟨_, e11, z11, rfl, _⟩ := hc i 11 hi (by omega)
      obtain ⟨_, e12, z12, rfl, _⟩ := hc i 12 hi (by omega)
      obtain ⟨_, e13, z13, rfl, _⟩ := hc i 13 hi (by omega)
      obtain ⟨_, e14, z14, rfl, _⟩ := hc i 14 hi (by omega)
      obtain ⟨_, e15, z15, rfl, _⟩ := hc i 15 hi (by omega)
      obtain ⟨_, e16, z16, rfl, _⟩ := hc i 16 hi (by omega)
      obtain ⟨_, e17, z17, rfl, _⟩ := hc i 17 hi (by omega)
      obtain ⟨_, e18, z18, rfl⟩ := hc i 18 hi (by omega)
      obtain ⟨_, e19, z19, rfl⟩ := hc i 19 hi (by omega)
      obtain ⟨_, e20, z20, rfl⟩ := hc i 20 hi (by omega)
      obtain ⟨_, e21, z21, rfl, _⟩ := hc i 21 hi (by omega)
      obtain ⟨_, e22, z22, rfl, _⟩ := hc i 22 hi (by omega)
      obtain ⟨_, e23, z23, rfl, _⟩ := hc i 23 hi (by omega)
      obtain ⟨_, e24, z24, rfl, _⟩ := hc i 24 hi (by omega)
      obtain ⟨_, e25, z25, rfl, _⟩ := hc i 25 hi (by omega)
      obtain ⟨_, e26, z26, rfl, _⟩ := hc i 26 hi (by omega)
      refine ⟨⟨z0, ⟨z1, z2, z3, z4⟩, ⟨z5, z6, z7, z8⟩, ⟨z9, z10, z11, z12, z13, z14⟩, ⟨z15, z16, z17, z18, z19, z20, z21, z22, z23⟩, z24, z25, z26⟩, fun j v hj => ?_⟩
      have hlt : j < 27 := (List.getElem?_eq_some_iff.1 hj).1
      have : j = 0 ∨ j = 1 ∨ j = 2 ∨ j = 3 ∨ j = 4 ∨ j = 5 ∨ j = 6 ∨ j = 7 ∨ j = 8 ∨ j = 9 ∨ j = 10 ∨ j = 11 ∨ j = 12 ∨ j = 13 ∨ j = 14 ∨ j = 15 ∨ j = 16 ∨ j = 17 ∨ j = 18 ∨ j = 19 ∨ j = 20 ∨ j = 21 ∨ j = 22 ∨ j = 23 ∨ j = 24 ∨ j = 25 ∨ j = 26 := by omega
      rcases this with rfl | rfl | rfl | rfl | rfl | rfl | rfl | rfl | rfl | rfl | rfl | rfl | rfl | rfl | rfl | rfl | rfl | rfl | rfl | rfl | rfl | rfl | rfl | rfl | rfl | rfl | rfl
      · cases hj; exact e0
      · cases hj; exact e1
      · cases hj; exact e2
      · cases hj; exact e3
      · cases hj; exact e4
      · cases hj; exact e5
      · cases hj; exact e6
      · cases hj; exact e7
      · cases hj; exact e8
      · cases hj; exact e9
      · cases hj; exact e10
      · cases hj; exact e11
      · cases hj; exact e12
      · cases hj; exact e13
      · cases hj; exact e14
      · cases hj; exact e15
      · cases hj; exact e16
      · cases hj; exact e17
      · cases hj; exact e18
      · cases hj; exact e19
      · cases hj; exact e20
      · cases hj; exact e21
      · cases hj; exact e22
      · cases hj; exact e23
      · cases hj; exact e24
      · cases hj; exact e25
      · cases hj; exact e26
    exact ⟨(List.range n).map f, ⟨some ⟨b, off, none⟩, c, by simp, fun _ => ⟨b, off, rfl, fun i hi => by simpa using hf i (by simpa using hi)⟩⟩, by simpa using hn⟩
  · obtain rfl : n = 0 := by omega
    exact ⟨[], ⟨A, c, rfl, fun h => absurd h (by simp)⟩, by simp⟩
end Go.Proofs.YtckenfomnenknaaGreat
end
