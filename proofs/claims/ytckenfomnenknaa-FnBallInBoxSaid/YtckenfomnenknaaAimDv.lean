import Derived.Deep.RegionWith
import Derived.Test.YtckenfomnenknaaAimv
import Derived.Test.YtckenfomnenknaaDrawYv
import Derived.Test.YtckenfomnenknaaVec2v
namespace Go.Proofs.Ytckenfomnenknaa
open Go.ChangeShapes Go.WideShapes Go.ChangeAt Go.RowKit
set_option linter.unusedSimpArgs false
set_option linter.unusedVariables false
set_option maxHeartbeats 4000000
set_option maxRecDepth 8000
attribute [-go_sem] run_eql_struct run_neq_struct
attribute [local go_sem] VGo_value VGo_skip VGo_enter eqlVec neqVec

theorem drawBallCut_any (A : Option Addr) (n c : Nat) (w : World) (hnc : n ≤ c) (hcap : c ≤ 9223372036854775807) (hcode : Code w w.heap.size A n) :
    Calls Try.prog 18 #[.slice A n c] w fun e w' => ∃ a b c3 d p q r x y z, e = .returned (.tuple #[.agg #[.int .i64 (a), .int .i64 (b), .int .i64 (c3), .int .i64 (d)], .agg #[.int .i64 (p), .int .i64 (q), .int .i64 (r), .int .i64 (x), .int .i64 (y), .int .i64 (z)]]) ∧ Below w.heap.size w w' := by
  go_enter Try.func18, Try.ntmps18
  go_upto_region 1 with fail
  have B0 : Has ((w.alloc (.cells #[.int .i64 0, .int .i64 0, .int .i64 0, .int .i64 0] 42)).alloc (.cells #[.int .i64 0, .int .i64 0, .int .i64 0, .int .i64 0, .int .i64 0, .int .i64 0] 28)) w.heap.size #[.int .i64 0, .int .i64 0, .int .i64 0, .int .i64 0] 42 := by (refine Has.as (by repeat' (first | with_reducible assumption | with_reducible apply Has.new | with_reducible apply Has.new1 | with_reducible apply Has.new2 | with_reducible apply Has.new3 | with_reducible apply Has.new4 | with_reducible apply Has.drew | with_reducible apply Has.drewN | with_reducible apply Has.alloc | with_reducible apply Has.same | with_reducible apply Has.other | (with_reducible show _ ≠ _; first | omega | (simp; done)))) ?_; first | (with_reducible rfl) | (simp only [List.setIfInBounds_toArray, List.set_cons_zero, List.set_cons_succ]; done) | (simp only [List.setIfInBounds_toArray, List.set_cons_zero, List.set_cons_succ]; rfl) | rfl | (simp; done))
  have B1 : Has ((w.alloc (.cells #[.int .i64 0, .int .i64 0, .int .i64 0, .int .i64 0] 42)).alloc (.cells #[.int .i64 0, .int .i64 0, .int .i64 0, .int .i64 0, .int .i64 0, .int .i64 0] 28)) (w.heap.size + 1) #[.int .i64 0, .int .i64 0, .int .i64 0, .int .i64 0, .int .i64 0, .int .i64 0] 28 := by (refine Has.as (by repeat' (first | with_reducible assumption | with_reducible apply Has.new | with_reducible apply Has.new1 | with_reducible apply Has.new2 | with_reducible apply Has.new3 | with_reducible apply Has.new4 | with_reducible apply Has.drew | with_reducible apply Has.drewN | with_reducible apply Has.alloc | with_reducible apply Has.same | with_reducible apply Has.other | (with_reducible show _ ≠ _; first | omega | (simp; done)))) ?_; first | (with_reducible rfl) | (simp only [List.setIfInBounds_toArray, List.set_cons_zero, List.set_cons_succ]; done) | (simp only [List.setIfInBounds_toArray, List.set_cons_zero, List.set_cons_succ]; rfl) | rfl | (simp; done))
  have hcode2 := CodeK.alloc (CodeK.alloc hcode (.cells #[.int .i64 0, .int .i64 0, .int .i64 0, .int .i64 0] 42)) (.cells #[.int .i64 0, .int .i64 0, .int .i64 0, .int .i64 0, .int .i64 0, .int .i64 0] 28)
  have hS : ((w.alloc (.cells #[.int .i64 0, .int .i64 0, .int .i64 0, .int .i64 0] 42)).alloc (.cells #[.int .i64 0, .int .i64 0, .int .i64 0, .int .i64 0, .int .i64 0, .int .i64 0] 28)).heap.size = w.heap.size + 1 + 1 := by simp
  have hL : Below w.heap.size w ((w.alloc (.cells #[.int .i64 0, .int .i64 0, .int .i64 0, .int .i64 0] 42)).alloc (.cells #[.int .i64 0, .int .i64 0, .int .i64 0, .int .i64 0, .int .i64 0, .int .i64 0] 28)) := by repeat' (first | with_reducible exact lowRefl _ | with_reducible apply lowSet | with_reducible apply lowDrew | with_reducible apply lowDrewN | with_reducible apply lowAlloc | (with_reducible refine lowCall ?_ (by assumption)) | (show (_ : Nat) ≤ _; first | (simp; done) | (simp; omega) | omega))
  clear hcode
  generalize hW : (w.alloc (.cells #[.int .i64 0, .int .i64 0, .int .i64 0, .int .i64 0] 42)).alloc (.cells #[.int .i64 0, .int .i64 0, .int .i64 0, .int .i64 0, .int .i64 0, .int .i64 0] 28) = w0 at *
  clear hW
  go_upto_region 2 with (go_at_call 46; refine (open_any _ _ _ _ hnc hcap hcode2).mono ?_; rintro e w1 ⟨g, n', rfl, hrd, hlow⟩)
  have hlo := hrd.lo
  have B01 := B0.below hlow
  have B11 := B1.below hlow
  have hL1 := lowCall hL hlow
  clear hcode2 hL hlow B0 B1
  go_upto_region 3 with (go_at_call 61; refine (l4BallOf_any w0.heap.size g n' c _ A _ hrd (by omega)).mono ?_; rintro e w' ⟨a, b, c3, d, rfl, hrd2, hby⟩; have B02 := B01.by_ hby (by omega); have B12 := B11.by_ hby (by omega); have hL2 := lowBy hL1 hby hL1.size (by omega))
  refine (fun (k : ∀ wm, Has wm w.heap.size #[.int .i64 0, .int .i64 0, .int .i64 0, .int .i64 0] 42 → Has wm (w.heap.size + 1) #[.int .i64 0, .int .i64 0, .int .i64 0, .int .i64 0, .int .i64 0, .int .i64 0] 28 → Has wm w'.heap.size #[.int .i64 (a), .int .i64 (b), .int .i64 (c3), .int .i64 (d)] 42 → Rd wm w0.heap.size g A n' c 10 → Below w.heap.size w wm → w.heap.size + 1 < w'.heap.size → g < w'.heap.size → Code.wp _ _ _ _ wm) => k _ ?_ ?_ ?_ ?_ ?_ ?_ ?_) ?_
  · (refine Has.as (by repeat' (first | with_reducible assumption | with_reducible apply Has.new | with_reducible apply Has.new1 | with_reducible apply Has.new2 | with_reducible apply Has.new3 | with_reducible apply Has.new4 | with_reducible apply Has.drew | with_reducible apply Has.drewN | with_reducible apply Has.alloc | with_reducible apply Has.same | with_reducible apply Has.other | (with_reducible show _ ≠ _; first | omega | (simp; done)))) ?_; first | (with_reducible rfl) | (simp only [List.setIfInBounds_toArray, List.set_cons_zero, List.set_cons_succ]; done) | (simp only [List.setIfInBounds_toArray, List.set_cons_zero, List.set_cons_succ]; rfl) | rfl | (simp; done))
  · (refine Has.as (by repeat' (first | with_reducible assumption | with_reducible apply Has.new | with_reducible apply Has.new1 | with_reducible apply Has.new2 | with_reducible apply Has.new3 | with_reducible apply Has.new4 | with_reducible apply Has.drew | with_reducible apply Has.drewN | with_reducible apply Has.alloc | with_reducible apply Has.same | with_reducible apply Has.other | (with_reducible show _ ≠ _; first | omega | (simp; done)))) ?_; first | (with_reducible rfl) | (simp only [List.setIfInBounds_toArray, List.set_cons_zero, List.set_cons_succ]; done) | (simp only [List.setIfInBounds_toArray, List.set_cons_zero, List.set_cons_succ]; rfl) | rfl | (simp; done))
  · (refine Has.as (by repeat' (first | with_reducible assumption | with_reducible apply Has.new | with_reducible apply Has.new1 | with_reducible apply Has.new2 | with_reducible apply Has.new3 | with_reducible apply Has.new4 | with_reducible apply Has.drew | with_reducible apply Has.drewN | with_reducible apply Has.alloc | with_reducible apply Has.same | with_reducible apply Has.other | (with_reducible show _ ≠ _; first | omega | (simp; done)))) ?_; first | (with_reducible rfl) | (simp only [List.setIfInBounds_toArray, List.set_cons_zero, List.set_cons_succ]; done) | (simp only [List.setIfInBounds_toArray, List.set_cons_zero, List.set_cons_succ]; rfl) | rfl | (simp; done))
  · exact Rd.mono (by repeat' (first | with_reducible assumption | with_reducible apply Rd.alloc | with_reducible apply Rd.set | with_reducible apply Rd.drewN | (show (_ : Nat) ≤ _; first | omega | (simp; omega)) | (show _ ≠ _; first | omega | (simp; omega)))) (by omega)
  · repeat' (first | with_reducible exact lowRefl _ | with_reducible apply lowSet | with_reducible apply lowDrew | with_reducible apply lowDrewN | with_reducible apply lowAlloc | (with_reducible refine lowCall ?_ (by assumption)) | (show (_ : Nat) ≤ _; first | (simp; done) | (simp; omega) | omega))
  · exact Has.lt B12
  · exact hrd2.lt
  clear B01 B11 B02 B12 hrd hrd2 hL1 hL2 hby
  intro wm B0 B1 BX hrd hL L1 L2
  generalize w'.heap.size = bX at *
  have hgl := hL.size
  go_upto_region 5 with (first | (go_at_call 62; (with_reducible refine (pick_any w0.heap.size g n' c _ A 14 _ hrd (by omega) (by omega)).mono ?_); rintro e w' ⟨v, rfl, h0, h1, hrd2, hby⟩; have B02 := B0.by_ hby (by omega); have B12 := B1.by_ hby (by omega); have BX2 := BX.by_ hby (by omega); have hL2 := lowBy hL hby hL.size (by omega)) | (go_at_call 62; (with_reducible refine (pick_any w0.heap.size g n' c _ A 3 _ hrd2 (by omega) (by omega)).mono ?_); rintro e w2 ⟨v2, rfl, h2, h3, hrd3, hby2⟩; have B03 := B02.by_ hby2 (by omega); have B13 := B12.by_ hby2 (by omega); have hL3 := lowBy hL2 hby2 hL2.size (by omega); have C0 := Has.cell B03; have F0 := Has.frozen B03; have C1 := Has.cell B13; have F1 := Has.frozen B13))
  · refine bodyPost_hasP (b := w.heap.size) (b' := w.heap.size + 1) (T := 42) (T' := 28) (cs := #[.int .i64 _, .int .i64 _, .int .i64 _, .int .i64 _]) (cs' := #[.int .i64 _, .int .i64 _, .int .i64 _, .int .i64 _, .int .i64 _, .int .i64 _]) (by (refine Has.as (by repeat' (first | with_reducible assumption | with_reducible apply Has.new | with_reducible apply Has.new1 | with_reducible apply Has.new2 | with_reducible apply Has.new3 | with_reducible apply Has.new4 | with_reducible apply Has.drew | with_reducible apply Has.drewN | with_reducible apply Has.alloc | with_reducible apply Has.same | with_reducible apply Has.other | (with_reducible show _ ≠ _; first | omega | (simp; done)))) ?_; first | (with_reducible rfl) | (simp only [List.setIfInBounds_toArray, List.set_cons_zero, List.set_cons_succ]; done) | (simp only [List.setIfInBounds_toArray, List.set_cons_zero, List.set_cons_succ]; rfl) | rfl | (simp; done))) (by (refine Has.as (by repeat' (first | with_reducible assumption | with_reducible apply Has.new | with_reducible apply Has.new1 | with_reducible apply Has.new2 | with_reducible apply Has.new3 | with_reducible apply Has.new4 | with_reducible apply Has.drew | with_reducible apply Has.drewN | with_reducible apply Has.alloc | with_reducible apply Has.same | with_reducible apply Has.other | (with_reducible show _ ≠ _; first | omega | (simp; done)))) ?_; first | (with_reducible rfl) | (simp only [List.setIfInBounds_toArray, List.set_cons_zero, List.set_cons_succ]; done) | (simp only [List.setIfInBounds_toArray, List.set_cons_zero, List.set_cons_succ]; rfl) | rfl | (simp; done))) (fun wE hE hE2 => ?_) rfl ⟨_, _, _, _, _, _, _, _, _, _, rfl, ?_⟩
    · have cE := Has.cell hE
      have cE2 := Has.cell hE2
      simp only [results, Try.results18, go_sem]
      (try simp [go_sem, cE, cE2])
      done
    · repeat' (first | with_reducible exact lowRefl _ | with_reducible apply lowSet | with_reducible apply lowDrew | with_reducible apply lowDrewN | with_reducible apply lowAlloc | (with_reducible refine lowCall ?_ (by assumption)) | (show (_ : Nat) ≤ _; first | (simp; done) | (simp; omega) | omega))
  · have B0 := B02
    have B1 := B12
    have BX := BX2
    have hL := hL2
    have hrd : Rd w'.drew w0.heap.size g A n' c _ := ⟨hrd2.lo, hrd2.len, hrd2.cap, hrd2.cells, hrd2.code⟩
    clear B02 B12 BX2 hL2 hrd2
    have CX := Has.cell BX
    have lX := Has.lt BX
    have hsz := hL.size
    go_region_with (go_at_call 48; (with_reducible refine (l4Aimed_any w0.heap.size g n' c _ A _ _ _ _ hrd (by omega)).mono ?_); rintro e w3 ⟨x, y, z, p, q, r, rfl, hrd3, hbyd⟩; have hby3 : w'.grownBy w3 (some g) := ⟨hbyd.os, hbyd.tape, hbyd.output, hbyd.size, hbyd.block⟩; have B03 := B0.by_ hby3 (by omega); have B13 := B1.by_ hby3 (by omega); have BX3 := BX.by_ hby3 (by omega); have hL3 := lowBy hL hby3 (by omega) (by omega); have CX3 := Has.cell BX3; have C03 := Has.cell B03; have F03 := Has.frozen B03; have C13 := Has.cell B13; have F13 := Has.frozen B13)
    all_goals
      go_wp2
      refine bodyPost_hasP (b := w.heap.size) (b' := w.heap.size + 1) (T := 42) (T' := 28) (cs := #[.int .i64 _, .int .i64 _, .int .i64 _, .int .i64 _]) (cs' := #[.int .i64 _, .int .i64 _, .int .i64 _, .int .i64 _, .int .i64 _, .int .i64 _]) (by (refine Has.as (by repeat' (first | with_reducible assumption | with_reducible apply Has.new | with_reducible apply Has.new1 | with_reducible apply Has.new2 | with_reducible apply Has.new3 | with_reducible apply Has.new4 | with_reducible apply Has.drew | with_reducible apply Has.drewN | with_reducible apply Has.alloc | with_reducible apply Has.same | with_reducible apply Has.other | (with_reducible show _ ≠ _; first | omega | (simp; done)))) ?_; first | (with_reducible rfl) | (simp only [List.setIfInBounds_toArray, List.set_cons_zero, List.set_cons_succ]; done) | (simp only [List.setIfInBounds_toArray, List.set_cons_zero, List.set_cons_succ]; rfl) | rfl | (simp; done))) (by (refine Has.as (by repeat' (first | with_reducible assumption | with_reducible apply Has.new | with_reducible apply Has.new1 | with_reducible apply Has.new2 | with_reducible apply Has.new3 | with_reducible apply Has.new4 | with_reducible apply Has.drew | with_reducible apply Has.drewN | with_reducible apply Has.alloc | with_reducible apply Has.same | with_reducible apply Has.other | (with_reducible show _ ≠ _; first | omega | (simp; done)))) ?_; first | (with_reducible rfl) | (simp only [List.setIfInBounds_toArray, List.set_cons_zero, List.set_cons_succ]; done) | (simp only [List.setIfInBounds_toArray, List.set_cons_zero, List.set_cons_succ]; rfl) | rfl | (simp; done))) (fun wE hE hE2 => ?_) rfl ⟨_, _, _, _, _, _, _, _, _, _, rfl, ?_⟩
      · have cE := Has.cell hE
        have cE2 := Has.cell hE2
        simp only [results, Try.results18, go_sem]
        (try simp [go_sem, cE, cE2])
        done
      · repeat' (first | with_reducible exact lowRefl _ | with_reducible apply lowSet | with_reducible apply lowDrew | with_reducible apply lowDrewN | with_reducible apply lowAlloc | (with_reducible refine lowCall ?_ (by assumption)) | (show (_ : Nat) ≤ _; first | (simp; done) | (simp; omega) | omega))
end Go.Proofs.Ytckenfomnenknaa
