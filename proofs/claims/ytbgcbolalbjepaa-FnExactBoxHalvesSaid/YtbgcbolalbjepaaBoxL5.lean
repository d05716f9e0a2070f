
import Derived.Test.YtbgcbolalbjepaaBoxH
namespace Go.Proofs.Ytbgcbolalbjepaa
open Go.ChangeShapes Go.WideShapes Go.ChangeAt Go.RowKit
set_option linter.unusedSimpArgs false
set_option linter.unusedVariables false
set_option maxHeartbeats 2000000

attribute [local go_sem] VGo_value VGo_skip VGo_enter
theorem qapart {w w' : World} {B n m sz sz' : Nat} {e e' : TypeId} {v v' : Value} {xs ys : List Value} (h1 : w.ownsRow B e sz v n xs) (h2 : w'.ownsRow w.heap.size e' sz' v' m ys) : v.ownBlock = none ∨ v.ownBlock ≠ v'.ownBlock := by
  cases hv : v.ownBlock with
  | none => exact .inl rfl
  | some g =>
    refine .inr fun h => ?_
    have l1 := (h1.lt g hv).2
    have l2 := (h2.lt g h.symm).1
    omega
theorem lawBoxHalves (a b c x y z : Int) (R : List Qd) (w : World) (mR : R.length ≤ 100)
    (cS : ∀ w, Calls Try.prog 41 #[.agg #[.int .i64 (a), .int .i64 (b), .int .i64 (c), .int .i64 (x), .int .i64 (y), .int .i64 (z)]] w fun e w' => ∃ v, e = .returned v ∧ HRow w' w.heap.size v R ∧ Below w.heap.size w w')
    (cI : ∀ w, Calls Try.prog 42 #[.agg #[.int .i64 (a), .int .i64 (b), .int .i64 (c), .int .i64 (x), .int .i64 (y), .int .i64 (z)]] w fun e w' => ∃ v, e = .returned v ∧ HRow w' w.heap.size v R ∧ Below w.heap.size w w') :
    Calls Try.prog 12 #[.agg #[.int .i64 (a), .int .i64 (b), .int .i64 (c), .int .i64 (x), .int .i64 (y), .int .i64 (z)]] w fun e w' => e = .returned (.bool true) ∧ Below w.heap.size w w' := by
  have CS := Lib.hid cS
  have CI := Lib.hid cI
  clear cS cI
  go_enter Try.func12, Try.ntmps12
  go_upto_region 1 with fail
  refine (fun (k : ∀ wm, Has wm w.heap.size #[.int .i64 (a), .int .i64 (b), .int .i64 (c), .int .i64 (x), .int .i64 (y), .int .i64 (z)] 25 → Below w.heap.size w wm → Code.wp _ _ _ _ wm) => k _ ?_ ?_) ?_
  · (refine Has.as (by repeat' (first | with_reducible assumption | with_reducible apply Has.new | with_reducible apply Has.new1 | with_reducible apply Has.new2 | with_reducible apply Has.new3 | with_reducible apply Has.new4 | with_reducible apply Has.drew | with_reducible apply Has.drewN | with_reducible apply Has.alloc | with_reducible apply Has.same | with_reducible apply Has.other | (with_reducible show _ ≠ _; first | omega | (simp; done)))) ?_; first | (with_reducible rfl) | (simp only [List.setIfInBounds_toArray, List.set_cons_zero, List.set_cons_succ]; done) | (simp only [List.setIfInBounds_toArray, List.set_cons_zero, List.set_cons_succ]; rfl) | rfl | (simp; done))
  · repeat' (first | with_reducible exact lowRefl _ | with_reducible apply lowSet | with_reducible apply lowDrew | with_reducible apply lowDrewN | with_reducible apply lowAlloc | (with_reducible refine lowCall ?_ (by assumption)) | (show (_ : Nat) ≤ _; first | (simp; done) | (simp; omega) | omega))
  intro w1 B0 L0
  have C0 := Has.cell B0
  go_upto_region 2 with (first | (go_at_call 18; (with_reducible refine (toBox_any _ _ _ _ _ _ _).mono ?_); rintro e w2 ⟨rfl, b2⟩) | (go_at_call 41; (with_reducible refine (CS.out _).mono ?_); rintro e w3 ⟨v0, rfl, r0, b3⟩))
  have B1 := (B0.below b2).below b3
  have L1 := lowCall (lowCall L0 b2) b3
  clear B0 C0 L0 b2 b3
  have C1 := Has.cell B1
  go_upto_region 3 with (first | (go_at_call 18; (with_reducible refine (toBox_any _ _ _ _ _ _ _).mono ?_); rintro e w4 ⟨rfl, b4⟩) | (go_at_call 42; (with_reducible refine (CI.out _).mono ?_); rintro e w5 ⟨g0, rfl, rg, b5⟩))
  have hlo : w.heap.size < w4.heap.size := Has.lt (B1.below b4)
  have r1 := r0.below b4
  have ap := qapart r1.own rg.own
  have r2 := r1.below b5
  have B2 := (B1.below b4).below b5
  have L2 := lowCall (lowCall L1 b4) b5
  clear B1 C1 L1 b4 b5 r0 r1
  go_upto_region 6 with (go_at_call 43; (with_reducible refine (eqHalfS_yes R g0 v0 _ (HRow.seen rg) (HRow.seen r2) (by omega)).mono ?_); rintro e w6 ⟨rfl, b6⟩)
  have r3 := r2.below b6
  have rg2 := rg.below b6
  have B3 := B2.below b6
  have L3 := lowCall L2 b6
  clear r2 rg B2 L2 b6
  go_upto_region 8 with (go_at_call 44; (with_reducible refine (markHalfS_any R g0 _ 1 _ (by omega) (by omega) rg2).mono ?_); rintro e w7 ⟨rfl, rg3, g7⟩)
  have L4 := L3.grown g7 L3.size (fun g hg => Nat.le_trans (Nat.le_of_lt hlo) (rg2.own.lt g hg).1)
  have r4 := r3.kept g7 ap
  have B4 := B3.grown g7 (own_lo rg2.own hlo)
  clear r3 rg2 B3 L3 g7
  go_upto_region 9 with (go_at_call 45; (with_reducible refine (heldHalfS_any R.length g0 1 _ (by omega) (by omega) (HRow.seen rg3)).mono ?_); rintro e w' ⟨rfl, rfl⟩)
  go_upto_region 13 with fail
  have C4 := Has.cell B4
  go_upto_region 14 with (first | (go_at_call 18; (with_reducible refine (toBox_any _ _ _ _ _ _ _).mono ?_); rintro e w8 ⟨rfl, b8⟩) | (go_at_call 42; (with_reducible refine (CI.out _).mono ?_); rintro e w9 ⟨h0, rfl, rh, b9⟩))
  have r5 := (r4.below b8).below b9
  have rg4 := (rg3.below b8).below b9
  have L5 := lowCall (lowCall L4 b8) b9
  clear r4 rg3 B4 C4 L4 b8 b9
  go_upto_region 16 with (go_at_call 43; (with_reducible refine (eqHalfS_yes R h0 v0 _ (HRow.seen rh) (HRow.seen r5) (by omega)).mono ?_); rintro e w10 ⟨rfl, b10⟩)
  have rg5 := rg4.below b10
  have L6 := lowCall L5 b10
  clear r5 rg4 L5 b10
  go_wp2_with (go_at_call 45; (with_reducible refine (heldHalfS_any R.length g0 1 _ (by omega) (by omega) (HRow.seen rg5)).mono ?_); rintro e w' ⟨rfl, rfl⟩)
  go_ret
  exact ⟨rfl, L6⟩
theorem wFnExactBoxHalves (a b c x y z : Int) (w : World) : Calls Try.prog 12 #[.agg #[.int .i64 (a), .int .i64 (b), .int .i64 (c), .int .i64 (x), .int .i64 (y), .int .i64 (z)]] w fun e w' => e = .returned (.bool true) ∧ Below w.heap.size w w' := by
  by_cases h : Xok a b c x y z
  · exact lawBoxHalves a b c x y z (boxHv a b c x y z) w (by simp [boxHv]) (fun w => sboxHalves_yes _ _ _ _ _ _ w h) (fun w => iboxHalves_yes _ _ _ _ _ _ w h)
  · exact lawBoxHalves a b c x y z [] w (by simp) (fun w => sboxHalves_no _ _ _ _ _ _ w h) (fun w => iboxHalves_no _ _ _ _ _ _ w h)
end Go.Proofs.Ytbgcbolalbjepaa
