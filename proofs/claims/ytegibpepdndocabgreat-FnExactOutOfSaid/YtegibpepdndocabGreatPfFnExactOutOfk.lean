/- The law FnExactOutOf answers true for every input, and its arguments read afterwards as before. No condition. -/
import Derived.OpenShut
import Derived.ProofKit
import Derived.Test.YtegibpepdndocabGreatFlatk
import Derived.Test.YtegibpepdndocabGreatGcdk
import Derived.Test.YtegibpepdndocabGreatOutWk
import Derived.Test.YtegibpepdndocabGreatRows
import Derived.WalkKit
/- The law FnExactOutOf answers true for every input, and its arguments read afterwards as before. No condition. -/
namespace Go.Proofs.YtegibpepdndocabGreat.fnExactOutOf
open Go.ChangeShapes Go.WideShapes Go.ChangeAt Go.RowKit
set_option linter.unusedVariables false

theorem own : ownKnob Tryz.prog.godebug = none := by kernel_rfl
set_option maxRecDepth 100000 in
theorem lifted (os : Os) (started : os.Started) (H : Type) (enc : TypeId × Value → H) :
    ReturnsInHanded {} Tryz.checked os 3 .any (Rows.fnExactOutOfSpec.pre6 enc Tryz.prog Tryz.f3 Rows.fnExactOutOfRow.domain false) (Rows.fnExactOutOfSpec.post enc Tryz.prog Tryz.f3 false true false false) := by
  refine returnsInHanded_of_change (C := Tryz.checked) own started (by kernel_rfl) Tryz.func3
    (ChangeSpec.witness6 (enc := enc) (C := Tryz.checked) false ⟨#[], #[.agg #[.int .i64 0, .int .i64 0, .int .i64 0, .int .i64 0, .int .i64 0, .int .i64 0, .int .i64 0, .int .i64 0, .int .i64 0, .int .i64 0, .int .i64 0, .int .i64 0, .int .i64 0, .int .i64 0, .int .i64 0, .int .i64 0, .int .i64 0, .int .i64 0, .bool false, .bool false, .bool false, .int .i64 0, .int .i64 0, .int .i64 0, .int .i64 0, .int .i64 0, .int .i64 0], .agg #[.int .i64 0, .int .i64 0, .int .i64 0, .int .i64 0, .int .i64 0, .int .i64 0], .int .i64 0], []⟩ 8 (by kernel_rfl) (by kernel_rfl) (by kernel_rfl) (by kernel_rfl)) ?_
  intro W base args ds gs before hval0 hW hcnd _
  have hval : ∀ (j : Nat) t v, Tryz.f3.params[j]? = some t → args[j]? = some v → Value.okWide Tryz.prog W .any base t v := hval0
  have hW' := hW
  obtain ⟨p, q, hA0, hV, rfl, hfz, hnd⟩ := hW
  have hA : DataW.TrodAll enc Tryz.prog W 0 (fun _ => true) true Tryz.f3.params.toList args.toList ds p := hA0
  have hAk := hA
  rw [Tryz.params3] at hA hval
  obtain ⟨v0, vs0, d0, ds0, p0, q0, hargs, rfl, rfl, h0, r0⟩ := trodAll_cons hA
  obtain ⟨v1, vs1, d1, ds1, p1, q1, rfl, rfl, rfl, h1, r1⟩ := trodAll_cons r0
  obtain ⟨v2, vs2, d2, ds2, p2, q2, rfl, rfl, rfl, h2, r2⟩ := trodAll_cons r1
  obtain ⟨rfl, rfl, rfl⟩ := trodAll_nil r2
  obtain rfl : args = #[v0, v1, v2] := by cases args; simp_all
  obtain ⟨rfl, rfl⟩ := trodVars_none hV
  obtain ⟨cs0, rfl, L0⟩ := open_flat Tryz.underlying35 (hval 0 35 v0 rfl rfl) h0 [some .i64, some .i64, some .i64, some .i64, some .i64, some .i64, some .i64, some .i64, some .i64, some .i64, some .i64, some .i64, some .i64, some .i64, some .i64, some .i64, some .i64, some .i64, none, none, none, some .i64, some .i64, some .i64, some .i64, some .i64, some .i64] (by kernel_rfl) (by kernel_rfl)
  obtain ⟨a0_0, _, _, rfl, a0_1, _, _, rfl, a0_2, _, _, rfl, a0_3, _, _, rfl, a0_4, _, _, rfl, a0_5, _, _, rfl, a0_6, _, _, rfl, a0_7, _, _, rfl, a0_8, _, _, rfl, a0_9, _, _, rfl, a0_10, _, _, rfl, a0_11, _, _, rfl, a0_12, _, _, rfl, a0_13, _, _, rfl, a0_14, _, _, rfl, a0_15, _, _, rfl, a0_16, _, _, rfl, a0_17, _, _, rfl, a0_18, _, rfl, a0_19, _, rfl, a0_20, _, rfl, a0_21, _, _, rfl, a0_22, _, _, rfl, a0_23, _, _, rfl, a0_24, _, _, rfl, a0_25, _, _, rfl, a0_26, _, _, rfl, rfl⟩ := L0
  obtain ⟨cs1, rfl, L1⟩ := open_flat Tryz.underlying37 (hval 1 37 v1 rfl rfl) h1 [some .i64, some .i64, some .i64, some .i64, some .i64, some .i64] (by kernel_rfl) (by kernel_rfl)
  obtain ⟨a1_0, _, _, rfl, a1_1, _, _, rfl, a1_2, _, _, rfl, a1_3, _, _, rfl, a1_4, _, _, rfl, a1_5, _, _, rfl, rfl⟩ := L1
  obtain ⟨a2, rfl, rfl, rfl, w2⟩ := open_int Tryz.underlying3 (hval 2 3 v2 rfl rfl) h2
  clear hA0 hval0
  simp only [List.append_nil] at hW'
  simp only [List.append_nil] at hAk
  refine (Go.Proofs.YtegibpepdndocabGreat.wFnExactOutOf a0_0 a0_1 a0_2 a0_3 a0_4 a0_5 a0_6 a0_7 a0_8 a0_9 a0_10 a0_11 a0_12 a0_13 a0_14 a0_15 a0_16 a0_17 a0_18 a0_19 a0_20 a0_21 a0_22 a0_23 a0_24 a0_25 a0_26 a1_0 a1_1 a1_2 a1_3 a1_4 a1_5 a2 W).mono fun e W' ⟨he, hg⟩ => ?_
  subst he
  exact ⟨_, rfl, post_law laidOut hW' hg hAk (by rw [Tryz.params3]; intro t ht; simp only [List.mem_cons, List.not_mem_nil, or_false] at ht; rcases ht with rfl | rfl | rfl <;> exact ⟨by kernel_rfl, of_decide_eq_true (by kernel_rfl)⟩) rfl rfl (by kernel_rfl) Tryz.underlying4⟩

theorem shut0 : laidOutB Tryz.prog = true := by kernel_rfl
theorem shut1 : mapsRowed Tryz.prog = true := by kernel_rfl
theorem shut2 : (Rows.fnExactOutOfRow.inPlace == Tryz.prog.inPlace 3) = true := by kernel_rfl
theorem shut3 : (Rows.fnExactOutOfRow.unfollowed == Tryz.prog.unfollowed 3) = true := by kernel_rfl
theorem shut4 : (Rows.fnExactOutOfRow.recurses == Tryz.prog.recurses 3) = true := by kernel_rfl
theorem shut5 : (Rows.fnExactOutOfRow.named == Tryz.prog.varsNamed 3) = true := by kernel_rfl
theorem shut6 : Tryz.prog.mayEnter = true := by kernel_rfl
theorem shut7 : (Rows.fnExactOutOfRow.lifted == Tryz.prog.liftsFinal) = true := by kernel_rfl
theorem shut8 : (Tryz.prog.make == some Rows.fnExactOutOfRow.make) = true := by kernel_rfl
theorem shut : joinedFacts Tryz.prog 3 Tryz.f3 Rows.fnExactOutOfSpec Rows.fnExactOutOfRow = true := by
  unfold joinedFacts
  simp only [Bool.and_eq_true]
  repeat' apply And.intro
  all_goals first | with_reducible exact shut0 | with_reducible exact shut1 | with_reducible exact shut2 | with_reducible exact shut3 | with_reducible exact shut4 | with_reducible exact shut5 | with_reducible exact shut6 | with_reducible exact shut7 | with_reducible exact shut8 | kernel_rfl
theorem over : Rows.fnExactOutOfRow.holds Tryz.pinned (OpenSpec.ofChange Rows.fnExactOutOfSpec) :=
  OpenClaim.holds_of_wide 3 Tryz.f3 rfl rfl rfl rfl rfl rfl rfl ⟨rfl, rfl, rfl, rfl, rfl⟩ rfl rfl rfl rfl rfl (by kernel_rfl) Tryz.func3 shut
    (of_decide_eq_true (by kernel_rfl)) (by unfold Func.isWrapper; first | (rw [if_pos (by decide +kernel)]; kernel_rfl) | (rw [if_neg (by decide +kernel)]; exact ⟨rfl, rfl⟩))
    (fun os started H enc _ => lifted os started H enc)

theorem proved : Rows.FnExactOutOfSaid :=
  over
#print axioms proved
end Go.Proofs.YtegibpepdndocabGreat.fnExactOutOf
