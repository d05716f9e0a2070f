/- The law FnExactBlocked answers true for every input, and its arguments read afterwards as before. No condition. -/
import Derived.OpenShut
import Derived.ProofKit
import Derived.Test.YtegibpepdndocabGreatIntsb
import Derived.Test.YtegibpepdndocabGreatOpenPb
import Derived.Test.YtegibpepdndocabGreatRows
import Derived.WalkKit
/- The law FnExactBlocked answers true for every input, and its arguments read afterwards as before. No condition. -/
namespace Go.Proofs.YtegibpepdndocabGreat.fnExactBlocked
open Go.ChangeShapes Go.WideShapes Go.ChangeAt Go.RowKit
set_option linter.unusedVariables false

theorem own : ownKnob Tryz.prog.godebug = none := by kernel_rfl
set_option maxRecDepth 100000 in
theorem lifted (os : Os) (started : os.Started) (H : Type) (enc : TypeId × Value → H) :
    ReturnsInHanded {} Tryz.checked os 4 .any (Rows.fnExactBlockedSpec.pre6 enc Tryz.prog Tryz.f4 Rows.fnExactBlockedRow.domain false) (Rows.fnExactBlockedSpec.post enc Tryz.prog Tryz.f4 false true false false) := by
  refine returnsInHanded_of_change (C := Tryz.checked) own started (by kernel_rfl) Tryz.func4
    (ChangeSpec.witness6 (enc := enc) (C := Tryz.checked) false ⟨#[], #[.slice none 0 0, .agg #[.int .i64 0, .int .i64 0, .int .i64 0, .int .i64 0, .int .i64 0, .int .i64 0], .int .i64 0, .int .i64 0], []⟩ 8 (by kernel_rfl) (by kernel_rfl) (by kernel_rfl) (by kernel_rfl)) ?_
  intro W base args ds gs before hval0 hW hcnd _
  have hval : ∀ (j : Nat) t v, Tryz.f4.params[j]? = some t → args[j]? = some v → Value.okWide Tryz.prog W .any base t v := hval0
  have hW' := hW
  obtain ⟨p, q, hA0, hV, rfl, hfz, hnd⟩ := hW
  have hA : DataW.TrodAll enc Tryz.prog W 0 (fun _ => true) true Tryz.f4.params.toList args.toList ds p := hA0
  have hAk := hA
  rw [Tryz.params4] at hA hval
  obtain ⟨v0, vs0, d0, ds0, p0, q0, hargs, rfl, rfl, h0, r0⟩ := trodAll_cons hA
  obtain ⟨v1, vs1, d1, ds1, p1, q1, rfl, rfl, rfl, h1, r1⟩ := trodAll_cons r0
  obtain ⟨v2, vs2, d2, ds2, p2, q2, rfl, rfl, rfl, h2, r2⟩ := trodAll_cons r1
  obtain ⟨v3, vs3, d3, ds3, p3, q3, rfl, rfl, rfl, h3, r3⟩ := trodAll_cons r2
  obtain ⟨rfl, rfl, rfl⟩ := trodAll_nil r3
  obtain rfl : args = #[v0, v1, v2, v3] := by cases args; simp_all
  obtain ⟨rfl, rfl⟩ := trodVars_none hV
  obtain ⟨A0, n0, c0, rfl⟩ := okWide_slice Tryz.underlying56 (hval 0 56 v0 rfl rfl)
  obtain ⟨l0, s0, m0⟩ := parts_of h0
  obtain ⟨cs1, rfl, L1⟩ := open_flat Tryz.underlying37 (hval 1 37 v1 rfl rfl) h1 [some .i64, some .i64, some .i64, some .i64, some .i64, some .i64] (by kernel_rfl) (by kernel_rfl)
  obtain ⟨a1_0, _, _, rfl, a1_1, _, _, rfl, a1_2, _, _, rfl, a1_3, _, _, rfl, a1_4, _, _, rfl, a1_5, _, _, rfl, rfl⟩ := L1
  obtain ⟨a2, rfl, rfl, rfl, w2⟩ := open_int Tryz.underlying3 (hval 2 3 v2 rfl rfl) h2
  obtain ⟨a3, rfl, rfl, rfl, w3⟩ := open_int Tryz.underlying3 (hval 3 3 v3 rfl rfl) h3
  clear hA0 hval0
  simp only [List.append_nil] at hW'
  simp only [List.append_nil] at hAk
  refine (Go.Proofs.YtegibpepdndocabGreat.wFnExactBlocked l0 _ a1_0 a1_1 a1_2 a1_3 a1_4 a1_5 a2 a3 W s0 m0).mono fun e W' ⟨he, hg⟩ => ?_
  subst he
  exact ⟨_, rfl, post_law laidOut hW' hg hAk (by rw [Tryz.params4]; intro t ht; simp only [List.mem_cons, List.not_mem_nil, or_false] at ht; rcases ht with rfl | rfl | rfl | rfl <;> exact ⟨by kernel_rfl, of_decide_eq_true (by kernel_rfl)⟩) rfl rfl (by kernel_rfl) Tryz.underlying4⟩

theorem shut0 : laidOutB Tryz.prog = true := by kernel_rfl
theorem shut1 : mapsRowed Tryz.prog = true := by kernel_rfl
theorem shut2 : (Rows.fnExactBlockedRow.inPlace == Tryz.prog.inPlace 4) = true := by kernel_rfl
theorem shut3 : (Rows.fnExactBlockedRow.unfollowed == Tryz.prog.unfollowed 4) = true := by kernel_rfl
theorem shut4 : (Rows.fnExactBlockedRow.recurses == Tryz.prog.recurses 4) = true := by kernel_rfl
theorem shut5 : (Rows.fnExactBlockedRow.named == Tryz.prog.varsNamed 4) = true := by kernel_rfl
theorem shut6 : Tryz.prog.mayEnter = true := by kernel_rfl
theorem shut7 : (Rows.fnExactBlockedRow.lifted == Tryz.prog.liftsFinal) = true := by kernel_rfl
theorem shut8 : (Tryz.prog.make == some Rows.fnExactBlockedRow.make) = true := by kernel_rfl
theorem shut : joinedFacts Tryz.prog 4 Tryz.f4 Rows.fnExactBlockedSpec Rows.fnExactBlockedRow = true := by
  unfold joinedFacts
  simp only [Bool.and_eq_true]
  repeat' apply And.intro
  all_goals first | with_reducible exact shut0 | with_reducible exact shut1 | with_reducible exact shut2 | with_reducible exact shut3 | with_reducible exact shut4 | with_reducible exact shut5 | with_reducible exact shut6 | with_reducible exact shut7 | with_reducible exact shut8 | kernel_rfl
theorem over : Rows.fnExactBlockedRow.holds Tryz.pinned (OpenSpec.ofChange Rows.fnExactBlockedSpec) :=
  OpenClaim.holds_of_wide 4 Tryz.f4 rfl rfl rfl rfl rfl rfl rfl ⟨rfl, rfl, rfl, rfl, rfl⟩ rfl rfl rfl rfl rfl (by kernel_rfl) Tryz.func4 shut
    (of_decide_eq_true (by kernel_rfl)) (by unfold Func.isWrapper; first | (rw [if_pos (by decide +kernel)]; kernel_rfl) | (rw [if_neg (by decide +kernel)]; exact ⟨rfl, rfl⟩))
    (fun os started H enc _ => lifted os started H enc)

theorem proved : Rows.FnExactBlockedSaid :=
  over
#print axioms proved
end Go.Proofs.YtegibpepdndocabGreat.fnExactBlocked
