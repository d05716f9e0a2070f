import Derived.Deep.Cut
import Derived.Test.YtckenfomnenknaaDrawBv
import Derived.Test.YtckenfomnenknaaHeldNv
import Derived.Test.YtckenfomnenknaaUndv
import Derived.Test.YtckenfomnenknaaVec2v
namespace Go.Proofs.Ytckenfomnenknaa
open Go.ChangeShapes Go.WideShapes Go.ChangeAt Go.RowKit
set_option linter.unusedSimpArgs false
set_option linter.unusedVariables false
set_option maxHeartbeats 2000000
set_option maxRecDepth 8000

attribute [local go_sem] VGo_value VGo_skip VGo_enter
theorem gDrewB {a w : World} {r : Option Nat} (h : a.grownBy w r) : a.grownBy w.drew r := ⟨h.os, h.tape, h.output, h.size, h.block⟩
theorem l6Some_any (B g n c m : Nat) (A : Option Addr) (w : World) (hrd : Rd w B g A n c m) (hm : m ≤ 900000) :
    Calls Try.prog 47 #[.pointer (some ⟨g, 0, none⟩)] w fun e w' => ∃ a b c3 x y z, e = .returned (.agg #[.int .i64 (a), .int .i64 (b), .int .i64 (c3), .int .i64 (x), .int .i64 (y), .int .i64 (z)]) ∧ Vok a b c3 40 ∧ Vok x y z 1000 ∧ Rd w' B g A n c (m + 12) ∧ w.grownBy w' (some g) := by
  have hg := hrd.lt
  have hlo := hrd.lo
  go_enter Try.func47, Try.ntmps47
  go_upto_region 1 with fail
  refine (fun (k : ∀ wm, Has wm (w.heap.size) #[.int .i64 0, .int .i64 0, .int .i64 0, .int .i64 0, .int .i64 0, .int .i64 0] 26 → Rd wm B g A n c (m) → w.grownBy wm (some g) → Code.wp _ _ _ _ wm) => k _ ?_ ?_ ?_) ?_
  · (refine Has.as (by repeat' (first | with_reducible assumption | with_reducible apply Has.new | with_reducible apply Has.new1 | with_reducible apply Has.new2 | with_reducible apply Has.new3 | with_reducible apply Has.new4 | with_reducible apply Has.drew | with_reducible apply Has.drewN | with_reducible apply Has.alloc | with_reducible apply Has.same | with_reducible apply Has.other | (with_reducible show _ ≠ _; first | omega | (simp; done)))) ?_; first | (with_reducible rfl) | (simp only [List.setIfInBounds_toArray, List.set_cons_zero, List.set_cons_succ]; done) | (simp only [List.setIfInBounds_toArray, List.set_cons_zero, List.set_cons_succ]; rfl) | rfl | (simp; done))
  · exact Rd.mono (by repeat' (first | with_reducible assumption | with_reducible apply Rd.alloc | with_reducible apply Rd.set | with_reducible apply Rd.drewN | (show (_ : Nat) ≤ _; first | omega | (simp; omega)) | (show _ ≠ _; first | omega | (simp; omega)))) (by omega)
  · repeat' (first | with_reducible exact World.grownBy.refl _ _ | with_reducible assumption | with_reducible apply gAlloc | with_reducible apply gSetOwn | (with_reducible refine by_trans ?_ (by assumption)) | (show (_ : Nat) ≤ _; first | (simp; done) | (simp; omega) | omega))
  clear hrd
  intro w0 B0 hrd hG
  go_upto_region 2 with (go_at_call 95; (with_reducible refine (l2VecC_any B g n c _ A 40 _ hrd (by omega) (by omega) (by omega)).mono ?_); rintro e w' ⟨a, b, c3, rfl, hv, hrd2, hby⟩; have B02 := B0.by_ hby (by omega); have hG2 := by_trans hG hby)
  refine (fun (k : ∀ wm, Has wm (w.heap.size) #[.int .i64 0, .int .i64 0, .int .i64 0, .int .i64 0, .int .i64 0, .int .i64 0] 26 → Has wm (w'.heap.size) #[.int .i64 (a), .int .i64 (b), .int .i64 (c3)] 24 → Rd wm B g A n c (m + 6) → w.grownBy wm (some g) → w.heap.size < w'.heap.size → g < w'.heap.size → Code.wp _ _ _ _ wm) => k _ ?_ ?_ ?_ ?_ ?_ ?_) ?_
  · (refine Has.as (by repeat' (first | with_reducible assumption | with_reducible apply Has.new | with_reducible apply Has.new1 | with_reducible apply Has.new2 | with_reducible apply Has.new3 | with_reducible apply Has.new4 | with_reducible apply Has.drew | with_reducible apply Has.drewN | with_reducible apply Has.alloc | with_reducible apply Has.same | with_reducible apply Has.other | (with_reducible show _ ≠ _; first | omega | (simp; done)))) ?_; first | (with_reducible rfl) | (simp only [List.setIfInBounds_toArray, List.set_cons_zero, List.set_cons_succ]; done) | (simp only [List.setIfInBounds_toArray, List.set_cons_zero, List.set_cons_succ]; rfl) | rfl | (simp; done))
  · (refine Has.as (by repeat' (first | with_reducible assumption | with_reducible apply Has.new | with_reducible apply Has.new1 | with_reducible apply Has.new2 | with_reducible apply Has.new3 | with_reducible apply Has.new4 | with_reducible apply Has.drew | with_reducible apply Has.drewN | with_reducible apply Has.alloc | with_reducible apply Has.same | with_reducible apply Has.other | (with_reducible show _ ≠ _; first | omega | (simp; done)))) ?_; first | (with_reducible rfl) | (simp only [List.setIfInBounds_toArray, List.set_cons_zero, List.set_cons_succ]; done) | (simp only [List.setIfInBounds_toArray, List.set_cons_zero, List.set_cons_succ]; rfl) | rfl | (simp; done))
  · exact Rd.mono (by repeat' (first | with_reducible assumption | with_reducible apply Rd.alloc | with_reducible apply Rd.set | with_reducible apply Rd.drewN | (show (_ : Nat) ≤ _; first | omega | (simp; omega)) | (show _ ≠ _; first | omega | (simp; omega)))) (by omega)
  · repeat' (first | with_reducible exact World.grownBy.refl _ _ | with_reducible assumption | with_reducible apply gAlloc | with_reducible apply gSetOwn | (with_reducible refine by_trans ?_ (by assumption)) | (show (_ : Nat) ≤ _; first | (simp; done) | (simp; omega) | omega))
  · exact Has.lt B02
  · exact hrd2.lt
  obtain ⟨v1, v2, v3, v4, v5, v6⟩ := hv
  clear B0 B02 hrd hrd2 hG hG2 hby
  generalize w'.heap.size = bX
  clear w' w0
  intro w1 B0 BX hrd hG l1 l2
  (refine wp_region_heldCM [true, true, true, false, true, false, true, false, false, false, false] g (by kernel_rfl) (by kernel_rfl) (by simp) rfl rfl (fun _ _ _ d _ h => by cases d <;> exact h) (fun _ _ _ d _ h => by cases d <;> exact h) (.cells #[.int .i64 0, .int .i64 0, .int .i64 0, .int .i64 0, .int .i64 0, .int .i64 0] 26 (0, 0)) (fun a1 w1 K hK => by go_simp; exact hK) (fun w => Rd w B g A n c (m + 6)) rd_stab (hrd.drewN 1) hrd.lt ?_; intro Fq hFq; simp only [maskL, List.map_cons, List.map_nil, Bool.not_true, Bool.not_false])
  repeat (first | (refine wpHeld_skip (by rfl) ?_; ((try simp only [Act.put, List.setIfInBounds_toArray, List.set_cons_zero, List.set_cons_succ]))) | (refine wpHeld_run ?_ rfl ?_ ?_; rotate_left; (focus (intro w' hbq Kq hKq; go_simp; (try (rw [IntWalk.i64_in]; rotate_left; focus (constructor <;> omega))); first | exact hKq _ (Below.refl _ _) | ((have CX := Has.cell ((BX.drew).by_ hbq (by omega))); go_simp; exact hKq _ (Below.refl _ _)))); ((try simp only [Act.put, List.setIfInBounds_toArray, List.set_cons_zero, List.set_cons_succ]))))
  refine wpHeld_nil (hFq _ ?_)
  clear hFq
  (refine wpC_op (fun v w => ∃ p : Int, v = .int .i64 p ∧ 0 ≤ p ∧ (p < 30 ∨ p = 0) ∧ Rd w B g A n c (m + 7)) (fun w1 hS1 hF1 K hK => ?_) ?_; (focus (go_simp; go_at_call 62; (with_reducible refine (pick_any B g n c _ A _ _ hF1 (by omega) (by omega)).mono ?_); rintro e w2 ⟨p, rfl, q0, q1, hrd4, hby4⟩; exact back (hK _ _ hby4 ⟨_, rfl, q0, q1, hrd4⟩))); rintro v1 w1 ⟨p, rfl, p0, p1, hF1⟩; ((refine ⟨fun w => Rd w B g A n c (m + 7), rd_stab, hF1, ?_⟩; clear hF1 w1; ((try simp only [Act.put, List.setIfInBounds_toArray, List.set_cons_zero, List.set_cons_succ])))))
  (refine wpC_op (fun v w => ∃ p : Int, v = .int .i64 p ∧ 0 ≤ p ∧ (p < 30 ∨ p = 0) ∧ Rd w B g A n c (m + 8)) (fun w1 hS1 hF1 K hK => ?_) ?_; (focus (go_simp; go_at_call 62; (with_reducible refine (pick_any B g n c _ A _ _ hF1 (by omega) (by omega)).mono ?_); rintro e w2 ⟨p, rfl, q0, q1, hrd4, hby4⟩; exact back (hK _ _ hby4 ⟨_, rfl, q0, q1, hrd4⟩))); rintro v1 w1 ⟨q, rfl, q0, q1, hF1⟩; ((refine ⟨fun w => Rd w B g A n c (m + 8), rd_stab, hF1, ?_⟩; clear hF1 w1; ((try simp only [Act.put, List.setIfInBounds_toArray, List.set_cons_zero, List.set_cons_succ])))))
  (refine wpC_op (fun v w => ∃ p : Int, v = .int .i64 p ∧ 0 ≤ p ∧ (p < 12 ∨ p = 0) ∧ Rd w B g A n c (m + 9)) (fun w1 hS1 hF1 K hK => ?_) ?_; (focus (go_simp; go_at_call 62; (with_reducible refine (pick_any B g n c _ A _ _ hF1 (by omega) (by omega)).mono ?_); rintro e w2 ⟨p, rfl, q0, q1, hrd4, hby4⟩; exact back (hK _ _ hby4 ⟨_, rfl, q0, q1, hrd4⟩))); rintro v1 w1 ⟨r, rfl, r0, r1, hF1⟩; ((refine ⟨fun w => Rd w B g A n c (m + 9), rd_stab, hF1, ?_⟩; clear hF1 w1; ((try simp only [Act.put, List.setIfInBounds_toArray, List.set_cons_zero, List.set_cons_succ])))))
  (refine wpC_op (fun v w => v = (.agg #[.int .i64 (p), .int .i64 (q), .int .i64 (r)]) ∧ Rd w B g A n c (m + 9)) (fun w1 hS1 hF1 K hK => ?_) ?_; (focus (go_simp; (try (rw [IntWalk.i64_in]; rotate_left; focus (constructor <;> omega))); exact hK _ _ (World.grownBy.refl _ _) ⟨rfl, hF1⟩)); rintro v1 w1 ⟨rfl, hF1⟩; ((refine ⟨fun w => Rd w B g A n c (m + 9), rd_stab, hF1, ?_⟩; clear hF1 w1; ((try simp only [Act.put, List.setIfInBounds_toArray, List.set_cons_zero, List.set_cons_succ])))))
  (refine wpC_op (fun v w => v = (.agg #[.int .i64 (a + p), .int .i64 (b + q), .int .i64 (c3 + r)]) ∧ Rd w B g A n c (m + 9)) (fun w1 hS1 hF1 K hK => ?_) ?_; (focus (go_simp; go_at_call 71; (with_reducible refine (l2Plus_any a b c3 p q r _ (by unfold Vok; omega) (by unfold Vok; omega)).mono ?_); rintro e w2 ⟨rfl, hbb⟩; exact back (hK _ _ (byBelow hbb) ⟨rfl, hF1.below hbb⟩))); rintro v1 w1 ⟨rfl, hF1⟩; ((refine ⟨fun w => Rd w B g A n c (m + 9), rd_stab, hF1, ?_⟩; clear hF1 w1; ((try simp only [Act.put, List.setIfInBounds_toArray, List.set_cons_zero, List.set_cons_succ])))))
  (refine wpC_op (fun v w => v = (.agg #[.int .i64 (a), .int .i64 (b), .int .i64 (c3), .int .i64 (a + p), .int .i64 (b + q), .int .i64 (c3 + r)]) ∧ Rd w B g A n c (m + 9)) (fun w1 hS1 hF1 K hK => ?_) ?_; (focus (go_simp; (try (rw [IntWalk.i64_in]; rotate_left; focus (constructor <;> omega))); exact hK _ _ (World.grownBy.refl _ _) ⟨rfl, hF1⟩)); rintro v1 w1 ⟨rfl, hF1⟩; ((refine ⟨fun w => Rd w B g A n c (m + 9), rd_stab, hF1, ?_⟩; clear hF1 w1; ((try simp only [Act.put, List.setIfInBounds_toArray, List.set_cons_zero, List.set_cons_succ])))))
  refine wpC_nil ?_
  intro bZ w2 hS hrd3 hN hZ
  have BZ : Has w2 bZ #[.int .i64 0, .int .i64 0, .int .i64 0, .int .i64 0, .int .i64 0, .int .i64 0] 26 := hZ
  have B02 := B0.drew.by_ hS (by omega)
  have hG2 := by_trans (gDrewB hG) hS
  have l3 := Has.lt B0
  have l4 := hrd.lt
  have CZ := Has.cell BZ
  have FZ := Has.frozen BZ
  clear B0 BX hrd hG hS hZ
  go_upto_region 3 with fail
  refine (fun (k : ∀ wm, Has wm (w.heap.size) #[.int .i64 0, .int .i64 0, .int .i64 0, .int .i64 0, .int .i64 0, .int .i64 0] 26 → Has wm (bZ) #[.int .i64 (a), .int .i64 (b), .int .i64 (c3), .int .i64 (a + p), .int .i64 (b + q), .int .i64 (c3 + r)] 26 → Rd wm B g A n c (m + 9) → w.grownBy wm (some g) → Code.wp _ _ _ _ wm) => k _ ?_ ?_ ?_ ?_) ?_
  · (refine Has.as (by repeat' (first | with_reducible assumption | with_reducible apply Has.new | with_reducible apply Has.new1 | with_reducible apply Has.new2 | with_reducible apply Has.new3 | with_reducible apply Has.new4 | with_reducible apply Has.drew | with_reducible apply Has.drewN | with_reducible apply Has.alloc | with_reducible apply Has.same | with_reducible apply Has.other | (with_reducible show _ ≠ _; first | omega | (simp; done)))) ?_; first | (with_reducible rfl) | (simp only [List.setIfInBounds_toArray, List.set_cons_zero, List.set_cons_succ]; done) | (simp only [List.setIfInBounds_toArray, List.set_cons_zero, List.set_cons_succ]; rfl) | rfl | (simp; done))
  · (refine Has.as (by repeat' (first | with_reducible assumption | with_reducible apply Has.new | with_reducible apply Has.new1 | with_reducible apply Has.new2 | with_reducible apply Has.new3 | with_reducible apply Has.new4 | with_reducible apply Has.drew | with_reducible apply Has.drewN | with_reducible apply Has.alloc | with_reducible apply Has.same | with_reducible apply Has.other | (with_reducible show _ ≠ _; first | omega | (simp; done)))) ?_; first | (with_reducible rfl) | (simp only [List.setIfInBounds_toArray, List.set_cons_zero, List.set_cons_succ]; done) | (simp only [List.setIfInBounds_toArray, List.set_cons_zero, List.set_cons_succ]; rfl) | rfl | (simp; done))
  · exact Rd.mono (by repeat' (first | with_reducible assumption | with_reducible apply Rd.alloc | with_reducible apply Rd.set | with_reducible apply Rd.drewN | (show (_ : Nat) ≤ _; first | omega | (simp; omega)) | (show _ ≠ _; first | omega | (simp; omega)))) (by omega)
  · repeat' (first | with_reducible exact World.grownBy.refl _ _ | with_reducible assumption | with_reducible apply gAlloc | with_reducible apply gSetOwn | (with_reducible refine by_trans ?_ (by assumption)) | (show (_ : Nat) ≤ _; first | (simp; done) | (simp; omega) | omega))
  clear B02 BZ CZ FZ hrd3 hG2
  intro w3 B0 BZ hrd hG
  have l5 : w.heap.size < bZ := by omega
  have l6 : g < bZ := by omega
  have hgZ : ¬ bZ = g := by omega
  have h0Z : ¬ w.heap.size = bZ := by omega
  go_upto_region 4 with (go_at_call 62; (with_reducible refine (pick_any B g n c _ A _ _ hrd (by omega) (by omega)).mono ?_); rintro e w' ⟨v, rfl, h0, h1, hrd2, hby⟩; have B02 := B0.by_ hby (by omega); have BZ2 := BZ.by_ hby (by omega); have hG2 := by_trans hG hby; clear B0 BZ hrd hG hby; have B0 := B02; have BZ := BZ2; have hrd := hrd2; have hG := hG2; clear B02 BZ2 hrd2 hG2; (try clear C0 F0); have CZ := Has.cell BZ; have FZ := Has.frozen BZ; have C0 := Has.cell B0; have F0 := Has.frozen B0)
  all_goals
    go_wp2_with (go_at_call 96; have hnum := num_rdP (w := w') (t := 3) (k := 3) (cap := 3) (cs := #[.int .i64 800, .int .i64 801, .int .i64 (b - 1)]) (fun z => -1000 ≤ z ∧ z ≤ 1000) hrd (by omega) (by omega) (by omega) ⟨⟨_, rfl, by omega⟩, ⟨_, rfl, by omega⟩, ⟨_, rfl, by omega⟩, trivial⟩ rfl; refine hnum.mono ?_; clear hnum; rintro e w' ⟨zn, rfl, hzn, hrd2, hby⟩; have B02 := (B0.alloc _).by_ hby (by omega); have BZ2 := (BZ.alloc _).by_ hby (by omega); have hG2 := by_trans (gAlloc hG _) hby; clear B0 BZ CZ FZ hrd hG hby; have B0 := B02; have BZ := BZ2; have hrd := hrd2; have hG := hG2; clear B02 BZ2 hrd2 hG2; (try clear C0 F0); have CZ := Has.cell BZ; have FZ := Has.frozen BZ; have C0 := Has.cell B0; have F0 := Has.frozen B0)
    refine bodyPost_has (b := w.heap.size) (T := 26) (cs := #[.int .i64 _, .int .i64 _, .int .i64 _, .int .i64 _, .int .i64 _, .int .i64 _]) (by (refine Has.as (by repeat' (first | with_reducible assumption | with_reducible apply Has.new | with_reducible apply Has.new1 | with_reducible apply Has.new2 | with_reducible apply Has.new3 | with_reducible apply Has.new4 | with_reducible apply Has.drew | with_reducible apply Has.drewN | with_reducible apply Has.alloc | with_reducible apply Has.same | with_reducible apply Has.other | (with_reducible show _ ≠ _; first | omega | (simp; done)))) ?_; first | (with_reducible rfl) | (simp only [List.setIfInBounds_toArray, List.set_cons_zero, List.set_cons_succ]; done) | (simp only [List.setIfInBounds_toArray, List.set_cons_zero, List.set_cons_succ]; rfl) | rfl | (simp; done))) (fun wE hE => ?_) rfl ⟨_, _, _, _, _, _, rfl, ?_, ?_, ?_, ?_⟩
    · (have cE := Has.cell hE; simp only [results, Try.results47, go_sem]; (try simp [go_sem, cE]); done)
    · unfold Vok; omega
    · unfold Vok; omega
    · exact Rd.mono (by repeat' (first | with_reducible assumption | with_reducible apply Rd.alloc | with_reducible apply Rd.set | with_reducible apply Rd.drewN | (show (_ : Nat) ≤ _; first | omega | (simp; omega)) | (show _ ≠ _; first | omega | (simp; omega)))) (by omega)
    · repeat' (first | with_reducible exact World.grownBy.refl _ _ | with_reducible assumption | with_reducible apply gAlloc | with_reducible apply gSetOwn | (with_reducible refine by_trans ?_ (by assumption)) | (show (_ : Nat) ≤ _; first | (simp; done) | (simp; omega) | omega))
end Go.Proofs.Ytckenfomnenknaa
