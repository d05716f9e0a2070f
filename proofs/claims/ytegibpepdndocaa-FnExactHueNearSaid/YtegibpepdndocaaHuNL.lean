
import Derived.Test.YtegibpepdndocaaHuN
import Derived.Test.YtegibpepdndocaaHeldF
namespace Go.Proofs.Ytegibpepdndocaa
open Go.ChangeShapes Go.WideShapes Go.ChangeAt Go.RowKit
set_option linter.unusedSimpArgs false
set_option linter.unusedVariables false
set_option maxHeartbeats 4000000

attribute [local go_sem] VGo_value VGo_skip VGo_enter
set_option maxRecDepth 100000 in
theorem wHueNear0 (h : Hu) (l : List Hu) (vl : Value) (w : World) (hl : HuIn w vl l) (nl : l.length ≤ 9223372036854775807) :
    Calls Try.prog 9 #[vl, h.val] w fun e w' => e = .returned (.bool true) ∧ Below w.heap.size w w' := by
  obtain ⟨Al, cl, el, _⟩ := id hl
  subst el
  by_cases sl : (1048576 : Int) - l.length < 0
  · go_enter Try.func9, Try.ntmps9
    go_wp2_with (first | (go_at_call 30; (with_reducible refine (szHueS_any Al l.length cl (1048576) _ (by omega) (by omega) nl).mono ?_); rintro e w' ⟨rfl, rfl⟩; rw [if_pos (by omega)]))
    go_ret; refine ⟨rfl, ?_⟩; (repeat' (first | with_reducible exact lowRefl _ | with_reducible apply lowSet | with_reducible apply lowDrew | with_reducible apply lowDrewN | with_reducible apply lowAlloc | (with_reducible refine lowCall ?_ (by assumption)) | (show (_ : Nat) ≤ _; first | (simp; done) | (simp; omega) | omega)))
  have dl : decide ((1048576 : Int) - l.length < 0) = false := decide_eq_false sl
  have ml : l.length ≤ 1048576 := by omega
  have hq0 := lowAlloc (lowRefl w) (.cells #[.int .i64 (h.r), .int .i64 (h.g), .int .i64 (h.b)] 23)
  have B0 := Has.new w #[.int .i64 (h.r), .int .i64 (h.g), .int .i64 (h.b)] 23
  have H1 := Lib.hid (hl.below hq0)
  clear hl
  go_enter Try.func9, Try.ntmps9
  go_upto_region 5 with (first | (go_at_call 30; (with_reducible refine (szHueS_any Al l.length cl (1048576) _ (by omega) (by omega) nl).mono ?_); rintro e w' ⟨rfl, rfl⟩; rw [if_neg (by omega)]))
  clear sl
  generalize w.alloc (.cells #[.int .i64 (h.r), .int .i64 (h.g), .int .i64 (h.b)] 23) = w1 at *
  refine wp_region_heldF [true, false, true] 1 (by kernel_rfl) (by kernel_rfl) rfl (fun _ _ _ d _ h => by cases d <;> exact h) ?_
  intro Fq hFq
  simp only [maskL]
  repeat (first | (refine wpHeld_skip (by rfl) ?_; ((try simp only [Act.put, List.setIfInBounds_toArray, List.set_cons_zero, List.set_cons_succ]))) | (refine wpHeld_run ?_ rfl ?_ ?_; rotate_left; (focus (intro w' hbq Kq hKq; go_simp; (try (rw [IntWalk.i64_in]; rotate_left; focus (constructor <;> omega))); first | exact hKq _ (Below.refl _ _) | (have C0 := Has.cell (B0.below (undrew hbq)); go_simp; exact hKq _ (Below.refl _ _)))); ((try simp only [Act.put, List.setIfInBounds_toArray, List.set_cons_zero, List.set_cons_succ]))))
  refine wpHeld_nil (hFq _ ⟨fun v w2 => HuRow w2 w.heap.size v l, fun v w1 w2 h k => RowK.below h k, ?_, ?_, ?_⟩)
  · rfl
  · intro w2 hS2 K hK
    go_simp
    go_at_call 32; (with_reducible refine (toHueS_any l _ _ (H1.out.below (undrew hS2)) ml).mono ?_); rintro e w3 ⟨vc, rfl, hr, hb⟩
    refine back ?_
    exact hK _ _ hb (RowK.mono hr (Nat.le_trans hq0.size hS2.size))
  intro vc w2 hS2 hr
  have L2 := lowCall hq0 (undrew hS2)
  have f2 := Lib.hid (H1.out.below (undrew hS2))
  have B2 := B0.below (undrew hS2)
  clear hFq hq0 H1 B0 hS2
  simp only [List.length_cons, List.length_nil, Nat.zero_add, Nat.reduceAdd, List.drop_succ_cons, List.drop_zero]
  go_upto_region 6 with (first | (go_at_call 17; (with_reducible refine (toHue_any _ _ _ _).mono ?_); rintro e w5 ⟨rfl, b2⟩) | (go_at_call 31; (with_reducible refine (sHueNear_any l _ h _ (HuRow.seen (RowK.below hr b2)) nl).mono ?_); rintro e w3 ⟨rfl, b3⟩))
  have L3 := lowCall (lowCall L2 b2) b3
  have f3 := Lib.hid ((f2.out.below b2).below b3)
  have B3 := (B2.below b2).below b3
  clear L2 f2 B2 hr b2 b3
  go_upto_region 7 with (go_at_call 32; (with_reducible refine (toHueS_any l _ _ (f3.out) ml).mono ?_); rintro e w4 ⟨t4, rfl, r4, b4⟩)
  have L4 := lowCall L3 b4
  have f4 := Lib.hid (f3.out.below b4)
  have B4 := B3.below b4
  have C4 := Has.cell B4
  clear L3 f3 B3 b4
  go_upto_region 8 with (first | (go_at_call 17; (with_reducible refine (toHue_any _ _ _ _).mono ?_); rintro e w5 ⟨rfl, b5⟩) | (go_at_call 33; (with_reducible refine (iHueNear_any l t4 h _ (HuRow.seen (RowK.below r4 b5)) nl).mono ?_); rintro e w6 ⟨rfl, b6⟩))
  have L6 := lowCall (lowCall L4 b5) b6
  have f6 := Lib.hid ((f4.out.below b5).below b6)
  have r6 := RowK.below (RowK.below r4 b5) b6
  clear L4 f4 B4 C4 r4 b5 b6
  generalize hnr l h = bd
  go_wp2_with (first | (go_at_call 32; (with_reducible refine (toHueS_any l _ _ (f6.out) ml).mono ?_); rintro e w7 ⟨t7, rfl, r7, b7⟩) | (go_at_call 34; (with_reducible refine (eqHueS_yes l t4 t7 _ (HuRow.seen (RowK.below r6 b7)) (HuRow.seen (r7)) nl).mono ?_); rintro e w8 ⟨rfl, b8⟩))
  have hLL := lowCall (lowCall L6 b7) b8
  go_ret
  exact ⟨rfl, hLL⟩
theorem wFnExactHueNear (l : List Hu) (vl : Value) (a b c : Int) (w : World) (hl : HuIn w vl l) (nl : l.length ≤ 9223372036854775807) :
    Calls Try.prog 9 #[vl, .agg #[.int .i64 (a), .int .i64 (b), .int .i64 (c)]] w fun e w' => e = .returned (.bool true) ∧ Below w.heap.size w w' := wHueNear0 ⟨a, b, c⟩ l vl w hl nl
end Go.Proofs.Ytegibpepdndocaa
