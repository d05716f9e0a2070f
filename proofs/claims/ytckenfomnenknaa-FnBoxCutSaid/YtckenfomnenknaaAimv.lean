import Derived.Test.YtckenfomnenknaaBalv
import Derived.Test.YtckenfomnenknaaHeldDv
namespace Go.Proofs.Ytckenfomnenknaa
open Go.ChangeShapes Go.WideShapes Go.ChangeAt Go.RowKit
set_option linter.unusedSimpArgs false
set_option linter.unusedVariables false
set_option maxHeartbeats 4000000
set_option maxRecDepth 8000
attribute [-go_sem] run_eql_struct run_neq_struct
attribute [local go_sem] VGo_value VGo_skip VGo_enter eqlVec neqVec

theorem gDrew {a w : World} {r : Option Nat} {k : Nat} (h : a.grownBy w r) : a.grownBy (w.drewN k) r := ⟨h.os, h.tape, h.output, h.size, h.block⟩
theorem l4Aimed_any (B g n c m : Nat) (A : Option Addr) (a1 a2 a3 : Int) (w : World) (hrd : Rd w B g A n c m) (hm : m ≤ 600000) :
    Calls Try.prog 48 #[.pointer (some ⟨g, 0, none⟩), .agg #[.int .i64 (a1), .int .i64 (a2), .int .i64 (a3)]] w fun e w' => ∃ x y z p q r, e = .returned (.agg #[.int .i64 (x), .int .i64 (y), .int .i64 (z), .int .i64 (p), .int .i64 (q), .int .i64 (r)]) ∧ Rd w' B g A n c (m + 24) ∧ w.grownBy w' (some g) := by
  have hg := hrd.lt
  have hlo := hrd.lo
  go_enter Try.func48, Try.ntmps48
  go_upto_region 1 with fail
  refine (fun (k : ∀ wm, Has wm w.heap.size #[.int .i64 (a1), .int .i64 (a2), .int .i64 (a3)] 24 → Has wm (w.heap.size + 1) #[.int .i64 0, .int .i64 0, .int .i64 0, .int .i64 0, .int .i64 0, .int .i64 0] 28 → Rd wm B g A n c m → w.grownBy wm (some g) → Code.wp _ _ _ _ wm) => k _ ?_ ?_ ?_ ?_) ?_
  · (refine Has.as (by repeat' (first | with_reducible assumption | with_reducible apply Has.new | with_reducible apply Has.new1 | with_reducible apply Has.new2 | with_reducible apply Has.new3 | with_reducible apply Has.new4 | with_reducible apply Has.drew | with_reducible apply Has.drewN | with_reducible apply Has.alloc | with_reducible apply Has.same | with_reducible apply Has.other | (with_reducible show _ ≠ _; first | omega | (simp; done)))) ?_; first | (with_reducible rfl) | (simp only [List.setIfInBounds_toArray, List.set_cons_zero, List.set_cons_succ]; done) | (simp only [List.setIfInBounds_toArray, List.set_cons_zero, List.set_cons_succ]; rfl) | rfl | (simp; done))
  · (refine Has.as (by repeat' (first | with_reducible assumption | with_reducible apply Has.new | with_reducible apply Has.new1 | with_reducible apply Has.new2 | with_reducible apply Has.new3 | with_reducible apply Has.new4 | with_reducible apply Has.drew | with_reducible apply Has.drewN | with_reducible apply Has.alloc | with_reducible apply Has.same | with_reducible apply Has.other | (with_reducible show _ ≠ _; first | omega | (simp; done)))) ?_; first | (with_reducible rfl) | (simp only [List.setIfInBounds_toArray, List.set_cons_zero, List.set_cons_succ]; done) | (simp only [List.setIfInBounds_toArray, List.set_cons_zero, List.set_cons_succ]; rfl) | rfl | (simp; done))
  · exact Rd.mono (by repeat' (first | with_reducible assumption | with_reducible apply Rd.alloc | with_reducible apply Rd.set | with_reducible apply Rd.drewN | (show (_ : Nat) ≤ _; first | omega | (simp; omega)) | (show _ ≠ _; first | omega | (simp; omega)))) (by omega)
  · repeat' (first | with_reducible exact World.grownBy.refl _ _ | with_reducible assumption | with_reducible apply gAlloc | with_reducible apply gSetOwn | (with_reducible refine by_trans ?_ (by assumption)) | (show (_ : Nat) ≤ _; first | (simp; done) | (simp; omega) | omega))
  clear hrd
  obtain ⟨b1, hb1⟩ : ∃ b1, w.heap.size + 1 = b1 := ⟨_, rfl⟩
  rw [hb1]
  intro wm B0 B1 hrd hG
  go_upto_region 2 with (go_at_call 97; refine (l4Ray_any B g n c _ A _ hrd (by omega)).mono ?_; rintro e w' ⟨x, y, z, p, q, r, rfl, hrd2, hby⟩)
  have B02 := B0.by_ hby (by omega)
  have B12 := B1.by_ hby (by omega)
  have hG2 := by_trans hG hby
  refine (fun (k : ∀ wm, Has wm w.heap.size #[.int .i64 (a1), .int .i64 (a2), .int .i64 (a3)] 24 → Has wm b1 #[.int .i64 0, .int .i64 0, .int .i64 0, .int .i64 0, .int .i64 0, .int .i64 0] 28 → Has wm w'.heap.size #[.int .i64 (x), .int .i64 (y), .int .i64 (z), .int .i64 (p), .int .i64 (q), .int .i64 (r)] 28 → Rd wm B g A n c (m + 16) → w.grownBy wm (some g) → b1 < w'.heap.size → g < w'.heap.size → Code.wp _ _ _ _ wm) => k _ ?_ ?_ ?_ ?_ ?_ ?_ ?_) ?_
  · (refine Has.as (by repeat' (first | with_reducible assumption | with_reducible apply Has.new | with_reducible apply Has.new1 | with_reducible apply Has.new2 | with_reducible apply Has.new3 | with_reducible apply Has.new4 | with_reducible apply Has.drew | with_reducible apply Has.drewN | with_reducible apply Has.alloc | with_reducible apply Has.same | with_reducible apply Has.other | (with_reducible show _ ≠ _; first | omega | (simp; done)))) ?_; first | (with_reducible rfl) | (simp only [List.setIfInBounds_toArray, List.set_cons_zero, List.set_cons_succ]; done) | (simp only [List.setIfInBounds_toArray, List.set_cons_zero, List.set_cons_succ]; rfl) | rfl | (simp; done))
  · (refine Has.as (by repeat' (first | with_reducible assumption | with_reducible apply Has.new | with_reducible apply Has.new1 | with_reducible apply Has.new2 | with_reducible apply Has.new3 | with_reducible apply Has.new4 | with_reducible apply Has.drew | with_reducible apply Has.drewN | with_reducible apply Has.alloc | with_reducible apply Has.same | with_reducible apply Has.other | (with_reducible show _ ≠ _; first | omega | (simp; done)))) ?_; first | (with_reducible rfl) | (simp only [List.setIfInBounds_toArray, List.set_cons_zero, List.set_cons_succ]; done) | (simp only [List.setIfInBounds_toArray, List.set_cons_zero, List.set_cons_succ]; rfl) | rfl | (simp; done))
  · (refine Has.as (by repeat' (first | with_reducible assumption | with_reducible apply Has.new | with_reducible apply Has.new1 | with_reducible apply Has.new2 | with_reducible apply Has.new3 | with_reducible apply Has.new4 | with_reducible apply Has.drew | with_reducible apply Has.drewN | with_reducible apply Has.alloc | with_reducible apply Has.same | with_reducible apply Has.other | (with_reducible show _ ≠ _; first | omega | (simp; done)))) ?_; first | (with_reducible rfl) | (simp only [List.setIfInBounds_toArray, List.set_cons_zero, List.set_cons_succ]; done) | (simp only [List.setIfInBounds_toArray, List.set_cons_zero, List.set_cons_succ]; rfl) | rfl | (simp; done))
  · exact Rd.mono (by repeat' (first | with_reducible assumption | with_reducible apply Rd.alloc | with_reducible apply Rd.set | with_reducible apply Rd.drewN | (show (_ : Nat) ≤ _; first | omega | (simp; omega)) | (show _ ≠ _; first | omega | (simp; omega)))) (by omega)
  · repeat' (first | with_reducible exact World.grownBy.refl _ _ | with_reducible assumption | with_reducible apply gAlloc | with_reducible apply gSetOwn | (with_reducible refine by_trans ?_ (by assumption)) | (show (_ : Nat) ≤ _; first | (simp; done) | (simp; omega) | omega))
  · exact Has.lt B12
  · exact hrd2.lt
  clear B0 B1 B02 B12 hrd hrd2 hG hG2 hby
  generalize w'.heap.size = bX
  clear wm
  intro wm B0 B1 BX hrd hG L1 L2
  have C1 := Has.cell B1
  have F1 := Has.frozen B1
  have CX := Has.cell BX
  have FX := Has.frozen BX
  have N1 : ¬ b1 = bX := by omega
  have N2 : ¬ bX = b1 := by omega
  have N3 : ¬ w.heap.size = b1 := by omega
  have N4 : ¬ w.heap.size = bX := by omega
  go_upto_region 4 with (go_at_call 62; refine (pick_any B g n c _ A 3 _ hrd (by omega) (by omega)).mono ?_; rintro e w' ⟨v, rfl, h0, h1, hrd2, hby⟩; have B02 := B0.by_ hby (by omega); have B12 := B1.by_ hby (by omega); have BX2 := BX.by_ hby (by omega); have hG2 := by_trans hG hby; clear C1 F1 CX FX; have C1 := Has.cell B12; have F1 := Has.frozen B12; have CX := Has.cell BX2; have FX := Has.frozen BX2)
  · refine bodyPost_has (b := b1) (T := 28) (cs := #[.int .i64 _, .int .i64 _, .int .i64 _, .int .i64 _, .int .i64 _, .int .i64 _]) (by (refine Has.as (by repeat' (first | with_reducible assumption | with_reducible apply Has.new | with_reducible apply Has.new1 | with_reducible apply Has.new2 | with_reducible apply Has.new3 | with_reducible apply Has.new4 | with_reducible apply Has.drew | with_reducible apply Has.drewN | with_reducible apply Has.alloc | with_reducible apply Has.same | with_reducible apply Has.other | (with_reducible show _ ≠ _; first | omega | (simp; done)))) ?_; first | (with_reducible rfl) | (simp only [List.setIfInBounds_toArray, List.set_cons_zero, List.set_cons_succ]; done) | (simp only [List.setIfInBounds_toArray, List.set_cons_zero, List.set_cons_succ]; rfl) | rfl | (simp; done))) (fun wE hE => ?_) rfl ⟨_, _, _, _, _, _, rfl, ?_, ?_⟩
    · (have cE := Has.cell hE; simp only [results, Try.results48, go_sem]; (try simp [go_sem, cE]); done)
    · exact Rd.mono (by repeat' (first | with_reducible assumption | with_reducible apply Rd.alloc | with_reducible apply Rd.set | with_reducible apply Rd.drewN | (show (_ : Nat) ≤ _; first | omega | (simp; omega)) | (show _ ≠ _; first | omega | (simp; omega)))) (by omega)
    · repeat' (first | with_reducible exact World.grownBy.refl _ _ | with_reducible assumption | with_reducible apply gAlloc | with_reducible apply gSetOwn | (with_reducible refine by_trans ?_ (by assumption)) | (show (_ : Nat) ≤ _; first | (simp; done) | (simp; omega) | omega))
  · clear B0 B1 BX hrd hG hby C1 F1 CX FX
    have lX := Has.lt BX2
    have lg := hrd2.lt
    have hsz := hG2.size
    refine heldC10 g (by kernel_rfl) (by kernel_rfl) (fun _ _ _ d _ h => by cases d <;> exact h) (fun _ _ _ d _ h => by cases d <;> exact h) (.cells #[.int .i64 0, .int .i64 0, .int .i64 0] 24 (0, 0)) (fun a1 w1 K hK => by go_simp; exact hK) (fun w => Rd w B g A n c (m + 17)) rd_stab (hrd2.drewN 1) hrd2.lt ?_
    intro Fq hFq
    repeat (first | (refine wpHeld_skip (by rfl) ?_; ((try simp only [Act.put, List.setIfInBounds_toArray, List.set_cons_zero, List.set_cons_succ]))) | (refine wpHeld_run ?_ rfl ?_ ?_; rotate_left; (focus (intro w' hbq Kq hKq; go_simp; (try (rw [IntWalk.i64_in]; rotate_left; focus (constructor <;> omega))); first | exact hKq _ (Below.refl _ _) | ((have C0 := Has.cell ((B02.drew).by_ hbq (by omega))); (have CX := Has.cell ((BX2.drew).by_ hbq (by omega))); go_simp; exact hKq _ (Below.refl _ _)))); ((try simp only [Act.put, List.setIfInBounds_toArray, List.set_cons_zero, List.set_cons_succ]))))
    refine wpHeld_nil (hFq _ ?_)
    clear hFq
    refine wpC_op (fun v w => ∃ x y z, v = .agg #[.int .i64 (x), .int .i64 (y), .int .i64 (z)] ∧ Rd w B g A n c (m + 23)) (fun w1 hS1 hF1 K hK => ?_) ?_
    · go_simp
      go_at_call 95
      refine (l2Vec_any B g n c _ A _ _ hF1 (by omega) (by omega) (by omega)).mono ?_
      rintro e w2 ⟨x1, y1, z1, rfl, hrd4, hby4⟩
      exact back (hK _ _ hby4 ⟨_, _, _, rfl, hrd4⟩)
    rintro v1 w1 ⟨x1, y1, z1, rfl, hF1⟩
    refine ⟨fun w => Rd w B g A n c (m + 23), rd_stab, hF1, ?_⟩
    clear hF1 w1
    (try simp only [Act.put, List.setIfInBounds_toArray, List.set_cons_zero, List.set_cons_succ])
    refine wpC_op (fun v w => ∃ x y z, v = .agg #[.int .i64 (x), .int .i64 (y), .int .i64 (z)] ∧ Rd w B g A n c (m + 23)) (fun w1 hS1 hF1 K hK => ?_) ?_
    · go_simp
      go_at_call 71
      refine (l2PlusX _ _ _ _ _ _ _).mono ?_
      rintro e w2 ⟨x4, y4, z4, rfl, hbb⟩
      exact back (hK _ _ (byBelow hbb) ⟨_, _, _, rfl, hF1.below hbb⟩)
    rintro v1 w1 ⟨x2, y2, z2, rfl, hF1⟩
    refine ⟨fun w => Rd w B g A n c (m + 23), rd_stab, hF1, ?_⟩
    clear hF1 w1
    (try simp only [Act.put, List.setIfInBounds_toArray, List.set_cons_zero, List.set_cons_succ])
    refine wpC_op (fun v w => ∃ x y z, v = .agg #[.int .i64 (x), .int .i64 (y), .int .i64 (z)] ∧ Rd w B g A n c (m + 23)) (fun w1 hS1 hF1 K hK => ?_) ?_
    · go_simp
      go_at_call 98
      refine (l2TimesX _ _ _ _ _).mono ?_
      rintro e w2 ⟨x4, y4, z4, rfl, hbb⟩
      exact back (hK _ _ (byBelow hbb) ⟨_, _, _, rfl, hF1.below hbb⟩)
    rintro v1 w1 ⟨x3, y3, z3, rfl, hF1⟩
    refine ⟨fun w => Rd w B g A n c (m + 23), rd_stab, hF1, ?_⟩
    clear hF1 w1
    (try simp only [Act.put, List.setIfInBounds_toArray, List.set_cons_zero, List.set_cons_succ])
    refine wpC_op (fun v w => ∃ x y z, v = .agg #[.int .i64 (x), .int .i64 (y), .int .i64 (z)] ∧ Rd w B g A n c (m + 23)) (fun w1 hS1 hF1 K hK => ?_) ?_
    · go_simp
      go_at_call 71
      refine (l2PlusX _ _ _ _ _ _ _).mono ?_
      rintro e w2 ⟨x4, y4, z4, rfl, hbb⟩
      exact back (hK _ _ (byBelow hbb) ⟨_, _, _, rfl, hF1.below hbb⟩)
    rintro v1 w1 ⟨x5, y5, z5, rfl, hF1⟩
    refine ⟨fun w => Rd w B g A n c (m + 23), rd_stab, hF1, ?_⟩
    clear hF1 w1
    (try simp only [Act.put, List.setIfInBounds_toArray, List.set_cons_zero, List.set_cons_succ])
    refine wpC_nil ?_
    intro bY w1 hS1 hF1 hNY hBY
    have BY : Has w1 bY _ _ := hBY
    have B0 := (B02.drew).by_ hS1 (by omega)
    have B1 := (B12.drew).by_ hS1 (by omega)
    have BX := (BX2.drew).by_ hS1 (by omega)
    have hG : w.grownBy w1 (some g) := by_trans (gDrew hG2) hS1
    clear B02 B12 BX2 hG2 hS1 hBY hrd2
    have CY := Has.cell BY
    have FY := Has.frozen BY
    (try simp only [Act.put, List.setIfInBounds_toArray, List.set_cons_zero, List.set_cons_succ])
    have LY := Has.lt BY
    have N9 : w1.heap.size ≠ bY := by omega
    go_upto_region 6 with fail
    refine (fun (k : ∀ wm, Has wm b1 #[.int .i64 0, .int .i64 0, .int .i64 0, .int .i64 0, .int .i64 0, .int .i64 0] 28 → Has wm bX #[.int .i64 (x), .int .i64 (y), .int .i64 (z), .int .i64 (p), .int .i64 (q), .int .i64 (r)] 28 → Has wm bY #[.int .i64 (x5), .int .i64 (y5), .int .i64 (z5)] 24 → Has wm w1.heap.size #[.int .i64 0, .int .i64 0, .int .i64 0] 24 → Rd wm B g A n c (m + 23) → w.grownBy wm (some g) → bX < bY → g < bY → bY < w1.heap.size → Code.wp _ _ _ _ wm) => k _ ?_ ?_ ?_ ?_ ?_ ?_ ?_ ?_ ?_) ?_
    · (refine Has.as (by repeat' (first | with_reducible assumption | with_reducible apply Has.new | with_reducible apply Has.new1 | with_reducible apply Has.new2 | with_reducible apply Has.new3 | with_reducible apply Has.new4 | with_reducible apply Has.drew | with_reducible apply Has.drewN | with_reducible apply Has.alloc | with_reducible apply Has.same | with_reducible apply Has.other | (with_reducible show _ ≠ _; first | omega | (simp; done)))) ?_; first | (with_reducible rfl) | (simp only [List.setIfInBounds_toArray, List.set_cons_zero, List.set_cons_succ]; done) | (simp only [List.setIfInBounds_toArray, List.set_cons_zero, List.set_cons_succ]; rfl) | rfl | (simp; done))
    · (refine Has.as (by repeat' (first | with_reducible assumption | with_reducible apply Has.new | with_reducible apply Has.new1 | with_reducible apply Has.new2 | with_reducible apply Has.new3 | with_reducible apply Has.new4 | with_reducible apply Has.drew | with_reducible apply Has.drewN | with_reducible apply Has.alloc | with_reducible apply Has.same | with_reducible apply Has.other | (with_reducible show _ ≠ _; first | omega | (simp; done)))) ?_; first | (with_reducible rfl) | (simp only [List.setIfInBounds_toArray, List.set_cons_zero, List.set_cons_succ]; done) | (simp only [List.setIfInBounds_toArray, List.set_cons_zero, List.set_cons_succ]; rfl) | rfl | (simp; done))
    · (refine Has.as (by repeat' (first | with_reducible assumption | with_reducible apply Has.new | with_reducible apply Has.new1 | with_reducible apply Has.new2 | with_reducible apply Has.new3 | with_reducible apply Has.new4 | with_reducible apply Has.drew | with_reducible apply Has.drewN | with_reducible apply Has.alloc | with_reducible apply Has.same | with_reducible apply Has.other | (with_reducible show _ ≠ _; first | omega | (simp; done)))) ?_; first | (with_reducible rfl) | (simp only [List.setIfInBounds_toArray, List.set_cons_zero, List.set_cons_succ]; done) | (simp only [List.setIfInBounds_toArray, List.set_cons_zero, List.set_cons_succ]; rfl) | rfl | (simp; done))
    · have h := Has.new (((w1.setCell ⟨bY, 0, none⟩ (.int .i64 x5)).setCell ⟨bY, 1, none⟩ (.int .i64 y5)).setCell ⟨bY, 2, none⟩ (.int .i64 z5)) #[.int .i64 0, .int .i64 0, .int .i64 0] 24
      have e : (((w1.setCell ⟨bY, 0, none⟩ (.int .i64 x5)).setCell ⟨bY, 1, none⟩ (.int .i64 y5)).setCell ⟨bY, 2, none⟩ (.int .i64 z5)).heap.size = w1.heap.size := by simp
      rw [e] at h
      exact h
    · exact Rd.mono (by repeat' (first | with_reducible assumption | with_reducible apply Rd.alloc | with_reducible apply Rd.set | with_reducible apply Rd.drewN | (show (_ : Nat) ≤ _; first | omega | (simp; omega)) | (show _ ≠ _; first | omega | (simp; omega)))) (by omega)
    · repeat' (first | with_reducible exact World.grownBy.refl _ _ | with_reducible assumption | with_reducible apply gAlloc | with_reducible apply gSetOwn | (with_reducible refine by_trans ?_ (by assumption)) | (show (_ : Nat) ≤ _; first | (simp; done) | (simp; omega) | omega))
    · omega
    · omega
    · exact Has.lt BY
    clear B0 B1 BX BY CY FY hF1 hG hNY LY N9
    generalize w1.heap.size = bZ
    clear w1
    intro wm B1 BX BY BZ hrd hG L3 L4 L5
    have C1 := Has.cell B1
    have F1 := Has.frozen B1
    have CX := Has.cell BX
    have FX := Has.frozen BX
    have CY := Has.cell BY
    have CZ := Has.cell BZ
    have N5 : ¬ bX = bY := by omega
    have N6 : ¬ bY = bX := by omega
    by_cases hz : x5 = 0 ∧ y5 = 0 ∧ z5 = 0
    · obtain ⟨rfl, rfl, rfl⟩ := hz
      go_wp2
      refine bodyPost_has (b := b1) (T := 28) (cs := #[.int .i64 _, .int .i64 _, .int .i64 _, .int .i64 _, .int .i64 _, .int .i64 _]) (by (refine Has.as (by repeat' (first | with_reducible assumption | with_reducible apply Has.new | with_reducible apply Has.new1 | with_reducible apply Has.new2 | with_reducible apply Has.new3 | with_reducible apply Has.new4 | with_reducible apply Has.drew | with_reducible apply Has.drewN | with_reducible apply Has.alloc | with_reducible apply Has.same | with_reducible apply Has.other | (with_reducible show _ ≠ _; first | omega | (simp; done)))) ?_; first | (with_reducible rfl) | (simp only [List.setIfInBounds_toArray, List.set_cons_zero, List.set_cons_succ]; done) | (simp only [List.setIfInBounds_toArray, List.set_cons_zero, List.set_cons_succ]; rfl) | rfl | (simp; done))) (fun wE hE => ?_) rfl ⟨_, _, _, _, _, _, rfl, ?_, ?_⟩
      · (have cE := Has.cell hE; simp only [results, Try.results48, go_sem]; (try simp [go_sem, cE]); done)
      · exact Rd.mono (by repeat' (first | with_reducible assumption | with_reducible apply Rd.alloc | with_reducible apply Rd.set | with_reducible apply Rd.drewN | (show (_ : Nat) ≤ _; first | omega | (simp; omega)) | (show _ ≠ _; first | omega | (simp; omega)))) (by omega)
      · repeat' (first | with_reducible exact World.grownBy.refl _ _ | with_reducible assumption | with_reducible apply gAlloc | with_reducible apply gSetOwn | (with_reducible refine by_trans ?_ (by assumption)) | (show (_ : Nat) ≤ _; first | (simp; done) | (simp; omega) | omega))
    · have hzz := eq3f hz
      by_cases hv : Vok x5 y5 z5 200
      · have HV := Lib.hid hv
        have HV2 := Lib.hid (show Vok x5 y5 z5 1073741824 by unfold Vok at *; omega)
        clear hv hz
        go_wp2_with (first | (go_at_call 54; (with_reducible refine (svecOk_yes _ _ _ _ _ (by omega) (by omega) HV.out).mono ?_); rintro e w' ⟨rfl, hbq⟩; have B12 := B1.below hbq; have BX2 := BX.below hbq; have BY2 := BY.below hbq; have hrd3 := hrd.below hbq; have hG3 := by_trans hG (byBelow hbq); clear CX CY FX C1 F1; have C1 := Has.cell B12; have F1 := Has.frozen B12; have CX := Has.cell BX2; have FX := Has.frozen BX2; have CY := Has.cell BY2) | (go_at_call 99; (with_reducible refine (l2Short_any _ _ _ _ HV2.out).mono ?_); rintro e w9 ⟨rfl, hbq⟩; have B13 := B12.below hbq; have BX3 := BX2.below hbq; have hrd4 := hrd3.below hbq; have hG4 := by_trans hG3 (byBelow hbq); clear CX CY FX C1 F1; have C1 := Has.cell B13; have F1 := Has.frozen B13; have CX := Has.cell BX3; have FX := Has.frozen BX3))
        refine bodyPost_has (b := b1) (T := 28) (cs := #[.int .i64 _, .int .i64 _, .int .i64 _, .int .i64 _, .int .i64 _, .int .i64 _]) (by (refine Has.as (by repeat' (first | with_reducible assumption | with_reducible apply Has.new | with_reducible apply Has.new1 | with_reducible apply Has.new2 | with_reducible apply Has.new3 | with_reducible apply Has.new4 | with_reducible apply Has.drew | with_reducible apply Has.drewN | with_reducible apply Has.alloc | with_reducible apply Has.same | with_reducible apply Has.other | (with_reducible show _ ≠ _; first | omega | (simp; done)))) ?_; first | (with_reducible rfl) | (simp only [List.setIfInBounds_toArray, List.set_cons_zero, List.set_cons_succ]; done) | (simp only [List.setIfInBounds_toArray, List.set_cons_zero, List.set_cons_succ]; rfl) | rfl | (simp; done))) (fun wE hE => ?_) rfl ⟨_, _, _, _, _, _, rfl, ?_, ?_⟩
        · (have cE := Has.cell hE; simp only [results, Try.results48, go_sem]; (try simp [go_sem, cE]); done)
        · exact Rd.mono (by repeat' (first | with_reducible assumption | with_reducible apply Rd.alloc | with_reducible apply Rd.set | with_reducible apply Rd.drewN | (show (_ : Nat) ≤ _; first | omega | (simp; omega)) | (show _ ≠ _; first | omega | (simp; omega)))) (by omega)
        · repeat' (first | with_reducible exact World.grownBy.refl _ _ | with_reducible assumption | with_reducible apply gAlloc | with_reducible apply gSetOwn | (with_reducible refine by_trans ?_ (by assumption)) | (show (_ : Nat) ≤ _; first | (simp; done) | (simp; omega) | omega))
      · have HV := Lib.hid hv
        clear hv hz
        go_wp2_with ((go_at_call 54; (with_reducible refine (svecOk_no _ _ _ _ _ (by omega) (by omega) HV.out).mono ?_); rintro e w' ⟨rfl, hbq⟩; have B12 := B1.below hbq; have BX2 := BX.below hbq; have BY2 := BY.below hbq; have hrd3 := hrd.below hbq; have hG3 := by_trans hG (byBelow hbq); clear CX CY FX C1 F1; have C1 := Has.cell B12; have F1 := Has.frozen B12; have CX := Has.cell BX2; have FX := Has.frozen BX2; have CY := Has.cell BY2))
        refine bodyPost_has (b := b1) (T := 28) (cs := #[.int .i64 _, .int .i64 _, .int .i64 _, .int .i64 _, .int .i64 _, .int .i64 _]) (by (refine Has.as (by repeat' (first | with_reducible assumption | with_reducible apply Has.new | with_reducible apply Has.new1 | with_reducible apply Has.new2 | with_reducible apply Has.new3 | with_reducible apply Has.new4 | with_reducible apply Has.drew | with_reducible apply Has.drewN | with_reducible apply Has.alloc | with_reducible apply Has.same | with_reducible apply Has.other | (with_reducible show _ ≠ _; first | omega | (simp; done)))) ?_; first | (with_reducible rfl) | (simp only [List.setIfInBounds_toArray, List.set_cons_zero, List.set_cons_succ]; done) | (simp only [List.setIfInBounds_toArray, List.set_cons_zero, List.set_cons_succ]; rfl) | rfl | (simp; done))) (fun wE hE => ?_) rfl ⟨_, _, _, _, _, _, rfl, ?_, ?_⟩
        · (have cE := Has.cell hE; simp only [results, Try.results48, go_sem]; (try simp [go_sem, cE]); done)
        · exact Rd.mono (by repeat' (first | with_reducible assumption | with_reducible apply Rd.alloc | with_reducible apply Rd.set | with_reducible apply Rd.drewN | (show (_ : Nat) ≤ _; first | omega | (simp; omega)) | (show _ ≠ _; first | omega | (simp; omega)))) (by omega)
        · repeat' (first | with_reducible exact World.grownBy.refl _ _ | with_reducible assumption | with_reducible apply gAlloc | with_reducible apply gSetOwn | (with_reducible refine by_trans ?_ (by assumption)) | (show (_ : Nat) ≤ _; first | (simp; done) | (simp; omega) | omega))
end Go.Proofs.Ytckenfomnenknaa
