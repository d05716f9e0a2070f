
import Derived.Test.YtdjmeeknahdbbaaSpnA
namespace Go.Proofs.Ytdjmeeknahdbbaa
open Go.ChangeShapes Go.WideShapes Go.ChangeAt Go.RowKit
set_option maxHeartbeats 2000000
set_option maxRecDepth 8000
set_option linter.unusedSimpArgs false
set_option linter.unusedVariables false

theorem apart {w w' : World} {B n n' s s' : Nat} {e e' : TypeId} {v x : Value} {xs ys : List Value} (h : w.ownsRow B e s v n xs) (k : w'.ownsRow w.heap.size e' s' x n' ys) :
    (v.ownBlock = none ∨ v.ownBlock ≠ x.ownBlock) ∧ (x.ownBlock = none ∨ x.ownBlock ≠ v.ownBlock) := by
  have h1 := h.lt
  have h2 := k.lt
  cases hv : v.ownBlock with
  | none => exact ⟨.inl rfl, by cases x.ownBlock <;> simp⟩
  | some g =>
    cases hx : x.ownBlock with
    | none => exact ⟨.inr (by simp), .inl rfl⟩
    | some g' =>
      have a := (h1 g hv).2
      have b := (h2 g' hx).1
      exact ⟨.inr (by simp; omega), .inr (by simp; omega)⟩
/- an argument of the law stays as it was where a row that was made since is written -/
theorem SIn.grownLow {w a b : World} {v x : Value} {l : List Sp} {row : Option Nat} (h : SIn w v l) (hb : Below w.heap.size w a) (hg : a.grownBy b row) {B n s : Nat} {e : TypeId} {ys : List Value} (hB : w.heap.size ≤ B) (k : a.ownsRow B e s x n ys) (hrow : row = x.ownBlock := by rfl) : SIn b v l := by
  subst hrow
  exact h.below (hb.grown hg hb.size (fun g hgx => Nat.le_trans hB (k.lt g hgx).1))
theorem wFnExactSpansOk (l : List Sp) (vl : Value) (w : World) (hl : SIn w vl l) (nl : l.length ≤ 9223372036854775807) :
    Calls Try.prog 7 #[vl] w fun e w' => e = .returned (.bool true) ∧ Below w.heap.size w w' := by
  obtain ⟨Al, cl, el, _⟩ := id hl
  subst el
  have H0l := Lib.hid hl
  have H1l := Lib.hid hl
  clear hl
  by_cases sl : (1048576 : Int) - l.length < 0
  · go_enter Try.func7, Try.ntmps7
    go_wp2_with (first | (go_at_call 53; (with_reducible refine (szSpanS_any Al l.length cl (1048576) _ (by omega) (by omega) nl).mono ?_); rintro e w' ⟨rfl, rfl⟩; rw [if_pos (by omega)]))
    go_ret; refine ⟨rfl, ?_⟩; (repeat' (first | with_reducible exact lowRefl _ | with_reducible apply lowSet | with_reducible apply lowDrew | with_reducible apply lowDrewN | with_reducible apply lowAlloc | (with_reducible refine lowCall ?_ (by assumption)) | (show (_ : Nat) ≤ _; first | (simp; done) | (simp; omega) | omega)))
  have dl : decide ((1048576 : Int) - l.length < 0) = false := decide_eq_false sl
  have ml : l.length ≤ 1048576 := by omega
  go_enter Try.func7, Try.ntmps7
  go_upto_region 5 with (first | (go_at_call 53; (with_reducible refine (szSpanS_any Al l.length cl (1048576) _ (by omega) (by omega) nl).mono ?_); rintro e w' ⟨rfl, rfl⟩; rw [if_neg (by omega)]))
  clear sl
  go_upto_region 6 with (first | (go_at_call 54; (with_reducible refine (toSpanS_any l _ _ (H1l.out) ml).mono ?_); rintro e w4 ⟨t1, rfl, r2, b3⟩) | (go_at_call 43; (with_reducible refine (sspansOk_any l t1 _ (SRow.seen r2) nl).mono ?_); rintro e w5 ⟨rfl, b6⟩))
  have f7 := Lib.hid (H1l.out.below b3)
  clear H1l
  have L8 := b3
  have f9 := Lib.hid (f7.out.below b6)
  clear f7
  have L10 := lowCall L8 b6
  clear L8
  go_upto_region 7 with (go_at_call 54; (with_reducible refine (toSpanS_any l _ _ (f9.out) ml).mono ?_); rintro e w14 ⟨t11, rfl, r12, b13⟩)
  have lo_xl := L10.size
  have f15 := Lib.hid (f9.out.below b13)
  clear f9
  have L16 := lowCall L10 b13
  clear L10
  go_upto_region 8 with (first | (go_at_call 42; (with_reducible refine (ispansOk_any l t11 _ (SRow.seen r12) nl).mono ?_); rintro e w17 ⟨rfl, b18⟩))
  have f19 := Lib.hid (f15.out.below b18)
  clear f15
  have f20 := r12.below b18
  clear r12
  have L21 := lowCall L16 b18
  clear L16
  go_wp2_with (first | (go_at_call 54; (with_reducible refine (toSpanS_any l _ _ (f19.out) ml).mono ?_); rintro e w25 ⟨t22, rfl, r23, b24⟩) | (go_at_call 55; (with_reducible refine (eqSpanS_yes l t11 t22 _ (SRow.seen (f20.below b24)) (SRow.seen (r23)) (by omega)).mono ?_); rintro e w27 ⟨rfl, b26⟩))
  have hLL := lowCall (lowCall L21 b24) b26
  go_ret
  exact ⟨rfl, hLL⟩
theorem wFnExactSpansLong (l : List Sp) (vl : Value) (w : World) (hl : SIn w vl l) (nl : l.length ≤ 9223372036854775807) :
    Calls Try.prog 12 #[vl] w fun e w' => e = .returned (.bool true) ∧ Below w.heap.size w w' := by
  obtain ⟨Al, cl, el, _⟩ := id hl
  subst el
  have H0l := Lib.hid hl
  have H1l := Lib.hid hl
  clear hl
  by_cases sl : (1048576 : Int) - l.length < 0
  · go_enter Try.func12, Try.ntmps12
    go_wp2_with (first | (go_at_call 53; (with_reducible refine (szSpanS_any Al l.length cl (1048576) _ (by omega) (by omega) nl).mono ?_); rintro e w' ⟨rfl, rfl⟩; rw [if_pos (by omega)]))
    go_ret; refine ⟨rfl, ?_⟩; (repeat' (first | with_reducible exact lowRefl _ | with_reducible apply lowSet | with_reducible apply lowDrew | with_reducible apply lowDrewN | with_reducible apply lowAlloc | (with_reducible refine lowCall ?_ (by assumption)) | (show (_ : Nat) ≤ _; first | (simp; done) | (simp; omega) | omega)))
  have dl : decide ((1048576 : Int) - l.length < 0) = false := decide_eq_false sl
  have ml : l.length ≤ 1048576 := by omega
  go_enter Try.func12, Try.ntmps12
  go_upto_region 5 with (first | (go_at_call 53; (with_reducible refine (szSpanS_any Al l.length cl (1048576) _ (by omega) (by omega) nl).mono ?_); rintro e w' ⟨rfl, rfl⟩; rw [if_neg (by omega)]))
  clear sl
  go_upto_region 6 with (first | (go_at_call 54; (with_reducible refine (toSpanS_any l _ _ (H1l.out) ml).mono ?_); rintro e w4 ⟨t1, rfl, r2, b3⟩) | (go_at_call 51; (with_reducible refine (sspansLong_any l t1 _ (SRow.seen r2) nl).mono ?_); rintro e w5 ⟨rfl, b6⟩))
  have f7 := Lib.hid (H1l.out.below b3)
  clear H1l
  have L8 := b3
  have f9 := Lib.hid (f7.out.below b6)
  clear f7
  have L10 := lowCall L8 b6
  clear L8
  go_upto_region 7 with (go_at_call 54; (with_reducible refine (toSpanS_any l _ _ (f9.out) ml).mono ?_); rintro e w14 ⟨t11, rfl, r12, b13⟩)
  have lo_xl := L10.size
  have f15 := Lib.hid (f9.out.below b13)
  clear f9
  have L16 := lowCall L10 b13
  clear L10
  go_upto_region 8 with (first | (go_at_call 45; (with_reducible refine (ispansLong_any l t11 _ (SRow.seen r12) nl).mono ?_); rintro e w17 ⟨rfl, b18⟩))
  have f19 := Lib.hid (f15.out.below b18)
  clear f15
  have f20 := r12.below b18
  clear r12
  have L21 := lowCall L16 b18
  clear L16
  go_wp2_with (first | (go_at_call 54; (with_reducible refine (toSpanS_any l _ _ (f19.out) ml).mono ?_); rintro e w25 ⟨t22, rfl, r23, b24⟩) | (go_at_call 55; (with_reducible refine (eqSpanS_yes l t11 t22 _ (SRow.seen (f20.below b24)) (SRow.seen (r23)) (by omega)).mono ?_); rintro e w27 ⟨rfl, b26⟩))
  have hLL := lowCall (lowCall L21 b24) b26
  go_ret
  exact ⟨rfl, hLL⟩
theorem wFnExactSpansAt (l : List Sp) (vl : Value) (t : Int) (w : World) (hl : SIn w vl l) (nl : l.length ≤ 9223372036854775807) :
    Calls Try.prog 11 #[vl, .int .i64 t] w fun e w' => e = .returned (.bool true) ∧ Below w.heap.size w w' := by
  obtain ⟨Al, cl, el, _⟩ := id hl
  subst el
  have H0l := Lib.hid hl
  have H1l := Lib.hid hl
  clear hl
  by_cases sl : (1048576 : Int) - l.length < 0
  · go_enter Try.func11, Try.ntmps11
    go_wp2_with (first | (go_at_call 53; (with_reducible refine (szSpanS_any Al l.length cl (1048576) _ (by omega) (by omega) nl).mono ?_); rintro e w' ⟨rfl, rfl⟩; rw [if_pos (by omega)]))
    go_ret; refine ⟨rfl, ?_⟩; (repeat' (first | with_reducible exact lowRefl _ | with_reducible apply lowSet | with_reducible apply lowDrew | with_reducible apply lowDrewN | with_reducible apply lowAlloc | (with_reducible refine lowCall ?_ (by assumption)) | (show (_ : Nat) ≤ _; first | (simp; done) | (simp; omega) | omega)))
  have dl : decide ((1048576 : Int) - l.length < 0) = false := decide_eq_false sl
  have ml : l.length ≤ 1048576 := by omega
  go_enter Try.func11, Try.ntmps11
  go_upto_region 5 with (first | (go_at_call 53; (with_reducible refine (szSpanS_any Al l.length cl (1048576) _ (by omega) (by omega) nl).mono ?_); rintro e w' ⟨rfl, rfl⟩; rw [if_neg (by omega)]))
  clear sl
  go_upto_region 6 with (first | (go_at_call 54; (with_reducible refine (toSpanS_any l _ _ (H1l.out) ml).mono ?_); rintro e w4 ⟨t1, rfl, r2, b3⟩) | (go_at_call 50; (with_reducible refine (sspansAt_any l t1 t _ (SRow.seen r2) nl).mono ?_); rintro e w5 ⟨rfl, b6⟩))
  have f7 := Lib.hid (H1l.out.below b3)
  clear H1l
  have L8 := b3
  have f9 := Lib.hid (f7.out.below b6)
  clear f7
  have L10 := lowCall L8 b6
  clear L8
  go_upto_region 7 with (go_at_call 54; (with_reducible refine (toSpanS_any l _ _ (f9.out) ml).mono ?_); rintro e w14 ⟨t11, rfl, r12, b13⟩)
  have lo_xl := L10.size
  have f15 := Lib.hid (f9.out.below b13)
  clear f9
  have L16 := lowCall L10 b13
  clear L10
  go_upto_region 8 with (first | (go_at_call 44; (with_reducible refine (ispansAt_any l t11 t _ (SRow.seen r12) nl).mono ?_); rintro e w17 ⟨rfl, b18⟩))
  have f19 := Lib.hid (f15.out.below b18)
  clear f15
  have f20 := r12.below b18
  clear r12
  have L21 := lowCall L16 b18
  clear L16
  go_wp2_with (first | (go_at_call 54; (with_reducible refine (toSpanS_any l _ _ (f19.out) ml).mono ?_); rintro e w25 ⟨t22, rfl, r23, b24⟩) | (go_at_call 55; (with_reducible refine (eqSpanS_yes l t11 t22 _ (SRow.seen (f20.below b24)) (SRow.seen (r23)) (by omega)).mono ?_); rintro e w27 ⟨rfl, b26⟩))
  have hLL := lowCall (lowCall L21 b24) b26
  go_ret
  exact ⟨rfl, hLL⟩
end Go.Proofs.Ytdjmeeknahdbbaa
