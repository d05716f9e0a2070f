import Derived.Test.YtckenfomnenknaaAimv
import Derived.Test.YtckenfomnenknaaBoxQv
import Derived.Test.YtckenfomnenknaaHeldMv
namespace Go.Proofs.Ytckenfomnenknaa
open Go.ChangeShapes Go.WideShapes Go.ChangeAt Go.RowKit
set_option linter.unusedSimpArgs false
set_option linter.unusedVariables false
set_option maxHeartbeats 2000000
set_option maxRecDepth 8000

attribute [local go_sem] VGo_value VGo_skip VGo_enter
theorem drawBoxCut_any (A : Option Addr) (nn c : Nat) (w : World) (hnc : nn ≤ c) (hcap : c ≤ 9223372036854775807) (hcode : Code w w.heap.size A nn) :
    Calls Try.prog 10 #[.slice A nn c] w fun e w' => ∃ a b c3 x y z a2 b2 c4 x2 y2 z2, e = .returned (.tuple #[.agg #[.int .i64 (a), .int .i64 (b), .int .i64 (c3), .int .i64 (x), .int .i64 (y), .int .i64 (z)], .agg #[.int .i64 (a2), .int .i64 (b2), .int .i64 (c4), .int .i64 (x2), .int .i64 (y2), .int .i64 (z2)]]) ∧ Below w.heap.size w w' := by
  go_enter Try.func10, Try.ntmps10
  go_upto_region 1 with fail
  have B0 : Has ((w.alloc (.cells #[.int .i64 0, .int .i64 0, .int .i64 0, .int .i64 0, .int .i64 0, .int .i64 0] 26)).alloc (.cells #[.int .i64 0, .int .i64 0, .int .i64 0, .int .i64 0, .int .i64 0, .int .i64 0] 28)) w.heap.size #[.int .i64 0, .int .i64 0, .int .i64 0, .int .i64 0, .int .i64 0, .int .i64 0] 26 := by (refine Has.as (by repeat' (first | with_reducible assumption | with_reducible apply Has.new | with_reducible apply Has.new1 | with_reducible apply Has.new2 | with_reducible apply Has.new3 | with_reducible apply Has.new4 | with_reducible apply Has.drew | with_reducible apply Has.drewN | with_reducible apply Has.alloc | with_reducible apply Has.same | with_reducible apply Has.other | (with_reducible show _ ≠ _; first | omega | (simp; done)))) ?_; first | (with_reducible rfl) | (simp only [List.setIfInBounds_toArray, List.set_cons_zero, List.set_cons_succ]; done) | (simp only [List.setIfInBounds_toArray, List.set_cons_zero, List.set_cons_succ]; rfl) | rfl | (simp; done))
  have B1 : Has ((w.alloc (.cells #[.int .i64 0, .int .i64 0, .int .i64 0, .int .i64 0, .int .i64 0, .int .i64 0] 26)).alloc (.cells #[.int .i64 0, .int .i64 0, .int .i64 0, .int .i64 0, .int .i64 0, .int .i64 0] 28)) (w.heap.size + 1) #[.int .i64 0, .int .i64 0, .int .i64 0, .int .i64 0, .int .i64 0, .int .i64 0] 28 := by (refine Has.as (by repeat' (first | with_reducible assumption | with_reducible apply Has.new | with_reducible apply Has.new1 | with_reducible apply Has.new2 | with_reducible apply Has.new3 | with_reducible apply Has.new4 | with_reducible apply Has.drew | with_reducible apply Has.drewN | with_reducible apply Has.alloc | with_reducible apply Has.same | with_reducible apply Has.other | (with_reducible show _ ≠ _; first | omega | (simp; done)))) ?_; first | (with_reducible rfl) | (simp only [List.setIfInBounds_toArray, List.set_cons_zero, List.set_cons_succ]; done) | (simp only [List.setIfInBounds_toArray, List.set_cons_zero, List.set_cons_succ]; rfl) | rfl | (simp; done))
  have hcode2 := bCode.alloc (bCode.alloc hcode (.cells #[.int .i64 0, .int .i64 0, .int .i64 0, .int .i64 0, .int .i64 0, .int .i64 0] 26)) (.cells #[.int .i64 0, .int .i64 0, .int .i64 0, .int .i64 0, .int .i64 0, .int .i64 0] 28)
  have hL : Below w.heap.size w ((w.alloc (.cells #[.int .i64 0, .int .i64 0, .int .i64 0, .int .i64 0, .int .i64 0, .int .i64 0] 26)).alloc (.cells #[.int .i64 0, .int .i64 0, .int .i64 0, .int .i64 0, .int .i64 0, .int .i64 0] 28)) := by repeat' (first | with_reducible exact lowRefl _ | with_reducible apply lowSet | with_reducible apply lowDrew | with_reducible apply lowDrewN | with_reducible apply lowAlloc | (with_reducible refine lowCall ?_ (by assumption)) | (show (_ : Nat) ≤ _; first | (simp; done) | (simp; omega) | omega))
  clear hcode
  generalize hW : (w.alloc (.cells #[.int .i64 0, .int .i64 0, .int .i64 0, .int .i64 0, .int .i64 0, .int .i64 0] 26)).alloc (.cells #[.int .i64 0, .int .i64 0, .int .i64 0, .int .i64 0, .int .i64 0, .int .i64 0] 28) = w0 at *
  clear hW
  go_upto_region 2 with (go_at_call 46; refine (open_any _ _ _ _ hnc hcap hcode2).mono ?_; rintro e w1 ⟨g, n, rfl, hrd, hlow⟩)
  have B01 := B0.below hlow
  have B11 := B1.below hlow
  have hL1 := lowCall hL hlow
  have hlo := hrd.lo
  have s1 := Has.lt B1
  clear hcode2 hL hlow B0 B1
  have B0 := B01
  have B1 := B11
  have hL := hL1
  clear B01 B11 hL1
  generalize w0.heap.size = B at *
  go_upto_region 3 with (go_at_call 47; (with_reducible refine (l6Some_any B g n c _ A _ hrd (by omega)).mono ?_); rintro e w' ⟨a, b, c3, x, y, z, rfl, hvX, huX, hrd2, hby⟩; have B02 := B0.by_ hby (by omega); have B12 := B1.by_ hby (by omega); have hL2 := lowBy hL hby hL.size (by have := hL.size; omega))
  refine (fun (k : ∀ wm, Has wm (w.heap.size) #[.int .i64 0, .int .i64 0, .int .i64 0, .int .i64 0, .int .i64 0, .int .i64 0] 26 → Has wm (w.heap.size + 1) #[.int .i64 0, .int .i64 0, .int .i64 0, .int .i64 0, .int .i64 0, .int .i64 0] 28 → Has wm (w'.heap.size) #[.int .i64 (a), .int .i64 (b), .int .i64 (c3), .int .i64 (x), .int .i64 (y), .int .i64 (z)] 26 → Rd wm B g A n c (12) → Below w.heap.size w wm → w.heap.size < w'.heap.size → w.heap.size + 1 < w'.heap.size → g < w'.heap.size → Code.wp _ _ _ _ wm) => k _ ?_ ?_ ?_ ?_ ?_ ?_ ?_ ?_) ?_
  · (refine Has.as (by repeat' (first | with_reducible assumption | with_reducible apply Has.new | with_reducible apply Has.new1 | with_reducible apply Has.new2 | with_reducible apply Has.new3 | with_reducible apply Has.new4 | with_reducible apply Has.drew | with_reducible apply Has.drewN | with_reducible apply Has.alloc | with_reducible apply Has.same | with_reducible apply Has.other | (with_reducible show _ ≠ _; first | omega | (simp; done)))) ?_; first | (with_reducible rfl) | (simp only [List.setIfInBounds_toArray, List.set_cons_zero, List.set_cons_succ]; done) | (simp only [List.setIfInBounds_toArray, List.set_cons_zero, List.set_cons_succ]; rfl) | rfl | (simp; done))
  · (refine Has.as (by repeat' (first | with_reducible assumption | with_reducible apply Has.new | with_reducible apply Has.new1 | with_reducible apply Has.new2 | with_reducible apply Has.new3 | with_reducible apply Has.new4 | with_reducible apply Has.drew | with_reducible apply Has.drewN | with_reducible apply Has.alloc | with_reducible apply Has.same | with_reducible apply Has.other | (with_reducible show _ ≠ _; first | omega | (simp; done)))) ?_; first | (with_reducible rfl) | (simp only [List.setIfInBounds_toArray, List.set_cons_zero, List.set_cons_succ]; done) | (simp only [List.setIfInBounds_toArray, List.set_cons_zero, List.set_cons_succ]; rfl) | rfl | (simp; done))
  · (refine Has.as (by repeat' (first | with_reducible assumption | with_reducible apply Has.new | with_reducible apply Has.new1 | with_reducible apply Has.new2 | with_reducible apply Has.new3 | with_reducible apply Has.new4 | with_reducible apply Has.drew | with_reducible apply Has.drewN | with_reducible apply Has.alloc | with_reducible apply Has.same | with_reducible apply Has.other | (with_reducible show _ ≠ _; first | omega | (simp; done)))) ?_; first | (with_reducible rfl) | (simp only [List.setIfInBounds_toArray, List.set_cons_zero, List.set_cons_succ]; done) | (simp only [List.setIfInBounds_toArray, List.set_cons_zero, List.set_cons_succ]; rfl) | rfl | (simp; done))
  · exact Rd.mono (by repeat' (first | with_reducible assumption | with_reducible apply Rd.alloc | with_reducible apply Rd.set | with_reducible apply Rd.drewN | (show (_ : Nat) ≤ _; first | omega | (simp; omega)) | (show _ ≠ _; first | omega | (simp; omega)))) (by omega)
  · repeat' (first | with_reducible exact lowRefl _ | with_reducible apply lowSet | with_reducible apply lowDrew | with_reducible apply lowDrewN | with_reducible apply lowAlloc | (with_reducible refine lowCall ?_ (by assumption)) | (show (_ : Nat) ≤ _; first | (simp; done) | (simp; omega) | omega))
  · exact Has.lt B02
  · exact Has.lt B12
  · exact hrd2.lt
  clear B0 B02 B1 B12 hrd hrd2 hL hL2 hby
  generalize w'.heap.size = bX at *
  intro wm B0 B1 BX hrd hL qX0 qX1 qgX
  (refine wp_region_heldM [(true, 0), (true, 1), (true, 2), (true, 3), (false, 4)] g (by kernel_rfl) (by kernel_rfl) (fun _ _ _ d _ h => by cases d <;> exact h) (fun w => Rd w B g A n c (12)) rd_stab (hrd.drewN 1) ?_; intro Fq hFq; simp only [schL, List.getElem?_cons_zero, List.getElem?_cons_succ, List.length_cons, List.length_nil, List.drop_succ_cons, List.drop_zero])
  repeat ((refine wpM_run ?_ rfl ?_ ?_; rotate_left; (focus (intro w' hbq Kq hKq; go_simp; (try (rw [IntWalk.i64_in]; rotate_left; focus (constructor <;> omega))); first | exact hKq _ (Below.refl _ _) | ((have CX := Has.cell ((BX.drew).by_ hbq (by omega))); go_simp; exact hKq _ (Below.refl _ _)))); ((try simp only [Act.put, List.setIfInBounds_toArray, List.set_cons_zero, List.set_cons_succ]))))
  refine wpM_op (fun v w => ∃ p1 p2 p3 p4 p5 p6 : Int, v = .agg #[.int .i64 (p1), .int .i64 (p2), .int .i64 (p3), .int .i64 (p4), .int .i64 (p5), .int .i64 (p6)] ∧ Rd w B g A n c 36) (fun w1 hS1 hF1 K hK => ?_) ?_
  · go_simp
    go_at_call 48
    (with_reducible refine (l4Aimed_any B g n c _ A _ _ _ _ hF1 (by omega)).mono ?_)
    rintro e w2 ⟨p1, p2, p3, p4, p5, p6, rfl, hrd4, hby4⟩
    exact back (hK _ _ hby4 ⟨_, _, _, _, _, _, rfl, hrd4⟩)
  rintro v1 w1 ⟨p1, p2, p3, p4, p5, p6, rfl, hF1⟩
  ((refine ⟨fun w => Rd w B g A n c (36), rd_stab, hF1, ?_⟩; clear hF1 w1; ((try simp only [Act.put, List.setIfInBounds_toArray, List.set_cons_zero, List.set_cons_succ]))))
  refine wpM_nil (hFq _ _ ?_)
  intro w2 hS hrd2
  have B02 := B0.drew.by_ hS (by omega)
  have B12 := B1.drew.by_ hS (by omega)
  have hL2 := lowBy (lowDrew hL) hS hL.size (by have := hL.size; omega)
  clear B0 B1 BX hrd hL hS
  have C0 := Has.cell B02
  have F0 := Has.frozen B02
  have C1 := Has.cell B12
  have F1 := Has.frozen B12
  go_wp2
  refine bodyPost_two (b := w.heap.size) (b' := w.heap.size + 1) (T := 26) (T' := 28) (cs := #[.int .i64 (a), .int .i64 (b), .int .i64 (c3), .int .i64 (x), .int .i64 (y), .int .i64 (z)]) (cs' := #[.int .i64 (p1), .int .i64 (p2), .int .i64 (p3), .int .i64 (p4), .int .i64 (p5), .int .i64 (p6)]) (by (refine Has.as (by repeat' (first | with_reducible assumption | with_reducible apply Has.new | with_reducible apply Has.new1 | with_reducible apply Has.new2 | with_reducible apply Has.new3 | with_reducible apply Has.new4 | with_reducible apply Has.drew | with_reducible apply Has.drewN | with_reducible apply Has.alloc | with_reducible apply Has.same | with_reducible apply Has.other | (with_reducible show _ ≠ _; first | omega | (simp; done)))) ?_; first | (with_reducible rfl) | (simp only [List.setIfInBounds_toArray, List.set_cons_zero, List.set_cons_succ]; done) | (simp only [List.setIfInBounds_toArray, List.set_cons_zero, List.set_cons_succ]; rfl) | rfl | (simp; done))) (by (refine Has.as (by repeat' (first | with_reducible assumption | with_reducible apply Has.new | with_reducible apply Has.new1 | with_reducible apply Has.new2 | with_reducible apply Has.new3 | with_reducible apply Has.new4 | with_reducible apply Has.drew | with_reducible apply Has.drewN | with_reducible apply Has.alloc | with_reducible apply Has.same | with_reducible apply Has.other | (with_reducible show _ ≠ _; first | omega | (simp; done)))) ?_; first | (with_reducible rfl) | (simp only [List.setIfInBounds_toArray, List.set_cons_zero, List.set_cons_succ]; done) | (simp only [List.setIfInBounds_toArray, List.set_cons_zero, List.set_cons_succ]; rfl) | rfl | (simp; done))) (fun wE hE hE2 => ?_) rfl ⟨_, _, _, _, _, _, _, _, _, _, _, _, rfl, ?_⟩
  · have cE := Has.cell hE
    have cE2 := Has.cell hE2
    simp only [results, Try.results10, go_sem]
    (try simp [go_sem, cE, cE2])
    done
  · repeat' (first | with_reducible exact lowRefl _ | with_reducible apply lowSet | with_reducible apply lowDrew | with_reducible apply lowDrewN | with_reducible apply lowAlloc | (with_reducible refine lowCall ?_ (by assumption)) | (show (_ : Nat) ≤ _; first | (simp; done) | (simp; omega) | omega))
end Go.Proofs.Ytckenfomnenknaa
