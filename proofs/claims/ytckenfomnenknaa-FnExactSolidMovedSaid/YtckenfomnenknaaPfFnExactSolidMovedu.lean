/- The law FnExactSolidMoved answers true for every input, and its arguments read afterwards as before. No condition. -/
import Derived.OpenShut
import Derived.ProofKit
import Derived.Test.YtckenfomnenknaaIntsu
import Derived.Test.YtckenfomnenknaaOpenPu
import Derived.Test.YtckenfomnenknaaRows
import Derived.Test.YtckenfomnenknaaSmZu
import Derived.WalkKit
/- The law FnExactSolidMoved answers true for every input, and its arguments read afterwards as before. No condition. -/
namespace Go.Proofs.Ytckenfomnenknaa.fnExactSolidMoved
open Go.ChangeShapes Go.WideShapes Go.ChangeAt Go.RowKit
set_option linter.unusedVariables false

theorem own : ownKnob Try.prog.godebug = none := by kernel_rfl
set_option maxRecDepth 100000 in
theorem lifted (os : Os) (started : os.Started) (H : Type) (enc : TypeId × Value → H) :
    ReturnsInHanded {} Try.checked os 8 .any (Rows.fnExactSolidMovedSpec.pre6 enc Try.prog Try.f8 Rows.fnExactSolidMovedRow.domain false) (Rows.fnExactSolidMovedSpec.post enc Try.prog Try.f8 false true false false) := by
  refine returnsInHanded_of_change (C := Try.checked) own started (by kernel_rfl) Try.func8
    (ChangeSpec.witness6 (enc := enc) (C := Try.checked) false ⟨#[], #[.agg #[.int .i64 0, .int .i64 0, .int .i64 0, .bool false, .bool false, .bool false, .int .i64 0, .int .i64 0, .int .i64 0], .slice none 0 0], []⟩ 8 (by kernel_rfl) (by kernel_rfl) (by kernel_rfl) (by kernel_rfl)) ?_
  intro W base args ds gs before hval0 hW hcnd _
  have hval : ∀ (j : Nat) t v, Try.f8.params[j]? = some t → args[j]? = some v → Value.okWide Try.prog W .any base t v := hval0
  have hW' := hW
  obtain ⟨p, q, hA0, hV, rfl, hfz, hnd⟩ := hW
  have hA : DataW.TrodAll enc Try.prog W 0 (fun _ => true) true Try.f8.params.toList args.toList ds p := hA0
  have hAk := hA
  rw [Try.params8] at hA hval
  obtain ⟨v0, vs0, d0, ds0, p0, q0, hargs, rfl, rfl, h0, r0⟩ := trodAll_cons hA
  obtain ⟨v1, vs1, d1, ds1, p1, q1, rfl, rfl, rfl, h1, r1⟩ := trodAll_cons r0
  obtain ⟨rfl, rfl, rfl⟩ := trodAll_nil r1
  obtain rfl : args = #[v0, v1] := by cases args; simp_all
  obtain ⟨rfl, rfl⟩ := trodVars_none hV
  obtain ⟨cs0, rfl, L0⟩ := open_flat Try.underlying77 (hval 0 77 v0 rfl rfl) h0 [some .i64, some .i64, some .i64, none, none, none, some .i64, some .i64, some .i64] (by kernel_rfl) (by kernel_rfl)
  obtain ⟨a0_0, _, _, rfl, a0_1, _, _, rfl, a0_2, _, _, rfl, a0_3, _, rfl, a0_4, _, rfl, a0_5, _, rfl, a0_6, _, _, rfl, a0_7, _, _, rfl, a0_8, _, _, rfl, rfl⟩ := L0
  obtain ⟨A1, n1, c1, rfl⟩ := okWide_slice Try.underlying68 (hval 1 68 v1 rfl rfl)
  obtain ⟨l1, s1, m1⟩ := parts_of h1
  clear hA0 hval0
  simp only [List.append_nil] at hW'
  simp only [List.append_nil] at hAk
  refine (Go.Proofs.Ytckenfomnenknaa.wFnExactSolidMoved l1 _ a0_0 a0_1 a0_2 a0_3 a0_4 a0_5 a0_6 a0_7 a0_8 W s1 m1).mono fun e W' ⟨he, hg⟩ => ?_
  subst he
  exact ⟨_, rfl, post_law laidOut hW' hg hAk (by rw [Try.params8]; intro t ht; simp only [List.mem_cons, List.not_mem_nil, or_false] at ht; rcases ht with rfl | rfl <;> exact ⟨by kernel_rfl, of_decide_eq_true (by kernel_rfl)⟩) rfl rfl (by kernel_rfl) Try.underlying4⟩

theorem over : Rows.fnExactSolidMovedRow.holds Try.pinned (OpenSpec.ofChange Rows.fnExactSolidMovedSpec) :=
  OpenClaim.holds_of_wide 8 Try.f8 rfl rfl rfl rfl rfl rfl rfl ⟨rfl, rfl, rfl, rfl, rfl⟩ rfl rfl rfl rfl rfl (by kernel_rfl) Try.func8 (by kernel_rfl)
    (of_decide_eq_true (by kernel_rfl)) (by unfold Func.isWrapper; first | (rw [if_pos (by decide +kernel)]; kernel_rfl) | (rw [if_neg (by decide +kernel)]; exact ⟨rfl, rfl⟩))
    (fun os started H enc _ => lifted os started H enc)

theorem proved : Rows.FnExactSolidMovedSaid :=
  over
#print axioms proved
end Go.Proofs.Ytckenfomnenknaa.fnExactSolidMoved
