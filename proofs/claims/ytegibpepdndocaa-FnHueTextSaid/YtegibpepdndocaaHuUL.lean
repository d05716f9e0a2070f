
import Derived.Test.YtegibpepdndocaaHuU
namespace Go.Proofs.Ytegibpepdndocaa
open Go.ChangeShapes Go.WideShapes Go.ChangeAt Go.RowKit
set_option linter.unusedSimpArgs false
set_option linter.unusedVariables false
set_option maxHeartbeats 8000000
set_option maxRecDepth 8000

attribute [-go_sem] run_eql_struct run_neq_struct
attribute [local go_sem] VGo_value VGo_skip VGo_enter eqlHue neqHue
theorem wFnHueText {A : Option Addr} {n c : Nat} {w : World} (hnc : n ≤ c) (hcap : c ≤ 9223372036854775807) (hcode : Code w w.heap.size A n) :
    Calls Try.prog 15 #[.slice A n c] w fun e w' => e = .returned (.bool true) ∧ Below w.heap.size w w' := by
  by_cases hn : n ≤ 1048576
  · go_enter Try.func15, Try.ntmps15
    go_upto_region 4 with (go_at_call 43; refine (drawHueText_any A n c _ hnc hcap hcode).mono ?_; rintro e w' ⟨x, y, z, rfl, hL⟩)
    refine (fun (kk : ∀ wm, Has wm w'.heap.size #[.int .i64 (x), .int .i64 (y), .int .i64 (z)] 25 → Below w.heap.size w wm → Code.wp _ _ _ _ wm) => kk _ ?_ ?_) ?_
    · (refine Has.as (by repeat' (first | with_reducible assumption | with_reducible apply Has.new | with_reducible apply Has.new1 | with_reducible apply Has.new2 | with_reducible apply Has.new3 | with_reducible apply Has.new4 | with_reducible apply Has.drew | with_reducible apply Has.drewN | with_reducible apply Has.alloc | with_reducible apply Has.same | with_reducible apply Has.other | (with_reducible show _ ≠ _; first | omega | (simp; done)))) ?_; first | (with_reducible rfl) | (simp only [List.setIfInBounds_toArray, List.set_cons_zero, List.set_cons_succ]; done) | (simp only [List.setIfInBounds_toArray, List.set_cons_zero, List.set_cons_succ]; rfl) | rfl | (simp; done))
    · repeat' (first | with_reducible exact lowRefl _ | with_reducible apply lowSet | with_reducible apply lowDrew | with_reducible apply lowDrewN | with_reducible apply lowAlloc | (with_reducible refine lowCall ?_ (by assumption)) | (show (_ : Nat) ≤ _; first | (simp; done) | (simp; omega) | omega))
    clear hL
    generalize w'.heap.size = bH
    intro wm BH hL
    obtain ⟨T, G, B1, B2, B3, F, t1, t2, t3, t4, t5, t6, tf⟩ := txt_all x y z
    have TI := Lib.hid t1
    have TS := Lib.hid t2
    have GI := Lib.hid t3
    have GS := Lib.hid t4
    have TR := Lib.hid t5
    have TO := Lib.hid t6
    have TF := Lib.hid tf
    clear t1 t2 t3 t4 t5 t6 tf
    have CH := Has.cell BH
    go_upto_region 5 with (go_at_call 36; (with_reducible refine (TI.out _).mono ?_); rintro e w' ⟨rfl, hbq⟩)
    have BH2 := BH.below hbq
    have hL2 := lowCall hL hbq
    clear BH CH hL hbq
    have hcode2 := HCode.low hcode hL2 hL2.size
    go_upto_region 6 with (go_at_call 44; (with_reducible refine (drawHueRead_any A n c _ hnc hcap hcode2).mono ?_); rintro e w2 ⟨s, rfl, hs, hb2⟩)
    have BH := BH2.below hb2
    have hL := lowCall hL2 hb2
    clear BH2 hL2 hb2 hcode hcode2
    obtain ⟨X, Y, Z, K, r1, r2, rk⟩ := rd_all s (by omega)
    have RI := Lib.hid r1
    have RS := Lib.hid r2
    have RK := Lib.hid rk
    clear r1 r2 rk
    go_upto_region 7 with (go_at_call 38; (with_reducible refine (RI.out _).mono ?_); rintro e w' ⟨rfl, hbq⟩)
    have BH2 := BH.below hbq
    have hL2 := lowCall hL hbq
    clear BH hL hbq
    refine (fun (kk : ∀ wm, Has wm bH #[.int .i64 (x), .int .i64 (y), .int .i64 (z)] 25 → Has wm w'.heap.size #[.int .i64 (X), .int .i64 (Y), .int .i64 (Z)] 25 → Below w.heap.size w wm → Code.wp _ _ _ _ wm) => kk _ ?_ ?_ ?_) ?_
    · (refine Has.as (by repeat' (first | with_reducible assumption | with_reducible apply Has.new | with_reducible apply Has.new1 | with_reducible apply Has.new2 | with_reducible apply Has.new3 | with_reducible apply Has.new4 | with_reducible apply Has.drew | with_reducible apply Has.drewN | with_reducible apply Has.alloc | with_reducible apply Has.same | with_reducible apply Has.other | (with_reducible show _ ≠ _; first | omega | (simp; done)))) ?_; first | (with_reducible rfl) | (simp only [List.setIfInBounds_toArray, List.set_cons_zero, List.set_cons_succ]; done) | (simp only [List.setIfInBounds_toArray, List.set_cons_zero, List.set_cons_succ]; rfl) | rfl | (simp; done))
    · (refine Has.as (by repeat' (first | with_reducible assumption | with_reducible apply Has.new | with_reducible apply Has.new1 | with_reducible apply Has.new2 | with_reducible apply Has.new3 | with_reducible apply Has.new4 | with_reducible apply Has.drew | with_reducible apply Has.drewN | with_reducible apply Has.alloc | with_reducible apply Has.same | with_reducible apply Has.other | (with_reducible show _ ≠ _; first | omega | (simp; done)))) ?_; first | (with_reducible rfl) | (simp only [List.setIfInBounds_toArray, List.set_cons_zero, List.set_cons_succ]; done) | (simp only [List.setIfInBounds_toArray, List.set_cons_zero, List.set_cons_succ]; rfl) | rfl | (simp; done))
    · repeat' (first | with_reducible exact lowRefl _ | with_reducible apply lowSet | with_reducible apply lowDrew | with_reducible apply lowDrewN | with_reducible apply lowAlloc | (with_reducible refine lowCall ?_ (by assumption)) | (show (_ : Nat) ≤ _; first | (simp; done) | (simp; omega) | omega))
    clear BH2 hL2
    generalize w'.heap.size = bX
    intro wm BH BX hL
    go_upto_region 8 with (go_at_call 37; (with_reducible refine (RS.out _).mono ?_); rintro e w' ⟨rfl, hbq⟩)
    have BH2 := BH.below hbq
    have BX2 := BX.below hbq
    have hL2 := lowCall hL hbq
    clear BH BX hL hbq
    refine (fun (kk : ∀ wm, Has wm bH #[.int .i64 (x), .int .i64 (y), .int .i64 (z)] 25 → Has wm bX #[.int .i64 (X), .int .i64 (Y), .int .i64 (Z)] 25 → Has wm w'.heap.size #[.int .i64 (X), .int .i64 (Y), .int .i64 (Z)] 25 → Below w.heap.size w wm → Code.wp _ _ _ _ wm) => kk _ ?_ ?_ ?_ ?_) ?_
    · (refine Has.as (by repeat' (first | with_reducible assumption | with_reducible apply Has.new | with_reducible apply Has.new1 | with_reducible apply Has.new2 | with_reducible apply Has.new3 | with_reducible apply Has.new4 | with_reducible apply Has.drew | with_reducible apply Has.drewN | with_reducible apply Has.alloc | with_reducible apply Has.same | with_reducible apply Has.other | (with_reducible show _ ≠ _; first | omega | (simp; done)))) ?_; first | (with_reducible rfl) | (simp only [List.setIfInBounds_toArray, List.set_cons_zero, List.set_cons_succ]; done) | (simp only [List.setIfInBounds_toArray, List.set_cons_zero, List.set_cons_succ]; rfl) | rfl | (simp; done))
    · (refine Has.as (by repeat' (first | with_reducible assumption | with_reducible apply Has.new | with_reducible apply Has.new1 | with_reducible apply Has.new2 | with_reducible apply Has.new3 | with_reducible apply Has.new4 | with_reducible apply Has.drew | with_reducible apply Has.drewN | with_reducible apply Has.alloc | with_reducible apply Has.same | with_reducible apply Has.other | (with_reducible show _ ≠ _; first | omega | (simp; done)))) ?_; first | (with_reducible rfl) | (simp only [List.setIfInBounds_toArray, List.set_cons_zero, List.set_cons_succ]; done) | (simp only [List.setIfInBounds_toArray, List.set_cons_zero, List.set_cons_succ]; rfl) | rfl | (simp; done))
    · (refine Has.as (by repeat' (first | with_reducible assumption | with_reducible apply Has.new | with_reducible apply Has.new1 | with_reducible apply Has.new2 | with_reducible apply Has.new3 | with_reducible apply Has.new4 | with_reducible apply Has.drew | with_reducible apply Has.drewN | with_reducible apply Has.alloc | with_reducible apply Has.same | with_reducible apply Has.other | (with_reducible show _ ≠ _; first | omega | (simp; done)))) ?_; first | (with_reducible rfl) | (simp only [List.setIfInBounds_toArray, List.set_cons_zero, List.set_cons_succ]; done) | (simp only [List.setIfInBounds_toArray, List.set_cons_zero, List.set_cons_succ]; rfl) | rfl | (simp; done))
    · repeat' (first | with_reducible exact lowRefl _ | with_reducible apply lowSet | with_reducible apply lowDrew | with_reducible apply lowDrewN | with_reducible apply lowAlloc | (with_reducible refine lowCall ?_ (by assumption)) | (show (_ : Nat) ≤ _; first | (simp; done) | (simp; omega) | omega))
    clear BH2 BX2 hL2
    generalize w'.heap.size = bW
    intro wm BH BX BW hL
    (refine wp_region_held0 (by kernel_rfl) (by kernel_rfl) (fun _ _ _ d _ h => by cases d <;> exact h) ?_; intro Fq hFq)
    repeat (first | (refine wpHeld_skip (by rfl) ?_; ((try simp only [Act.put, List.setIfInBounds_toArray, List.set_cons_zero, List.set_cons_succ]))) | (refine wpHeld_run ?_ rfl ?_ ?_; rotate_left; (focus (intro w' hbq Kq hKq; go_simp; (try (rw [IntWalk.i64_in]; rotate_left; focus (constructor <;> omega))); first | exact hKq _ (Below.refl _ _) | first | (go_at_call 35; ((with_reducible refine (TS.out _).mono ?_); rintro e w2 ⟨rfl, hbr⟩; refine back ?_; exact hKq _ hbr)) | (go_at_call 40; ((with_reducible refine (GI.out _).mono ?_); rintro e w2 ⟨rfl, hbr⟩; refine back ?_; exact hKq _ hbr)) | (go_at_call 39; ((with_reducible refine (GS.out _).mono ?_); rintro e w2 ⟨rfl, hbr⟩; refine back ?_; exact hKq _ hbr)) | (have CH := Has.cell (BH.below (undrew hbq)); have CX := Has.cell (BX.below (undrew hbq)); have CW := Has.cell (BW.below (undrew hbq)); go_simp; exact hKq _ (Below.refl _ _)))); ((try simp only [Act.put, List.setIfInBounds_toArray, List.set_cons_zero, List.set_cons_succ]))))
    (refine wpHeld_nil (hFq _ ?_); clear hFq; intro w' hbq; ((try (have B0 := Has.below (b := w.heap.size) (by repeat' (first | with_reducible assumption | with_reducible apply Has.new | with_reducible apply Has.new1 | with_reducible apply Has.new2 | with_reducible apply Has.new3 | with_reducible apply Has.new4 | with_reducible apply Has.drew | with_reducible apply Has.drewN | with_reducible apply Has.alloc | with_reducible apply Has.same | with_reducible apply Has.other | (with_reducible show _ ≠ _; first | omega | (simp; done)))) hbq; have C0 := Has.cell B0; have F0 := Has.frozen B0)); (try (have B1 := Has.below (b := w.heap.size + 1) (by repeat' (first | with_reducible assumption | with_reducible apply Has.new | with_reducible apply Has.new1 | with_reducible apply Has.new2 | with_reducible apply Has.new3 | with_reducible apply Has.new4 | with_reducible apply Has.drew | with_reducible apply Has.drewN | with_reducible apply Has.alloc | with_reducible apply Has.same | with_reducible apply Has.other | (with_reducible show _ ≠ _; first | omega | (simp; done)))) hbq; have C1 := Has.cell B1; have F1 := Has.frozen B1)); (try (have B2 := Has.below (b := w.heap.size + 1 + 1) (by repeat' (first | with_reducible assumption | with_reducible apply Has.new | with_reducible apply Has.new1 | with_reducible apply Has.new2 | with_reducible apply Has.new3 | with_reducible apply Has.new4 | with_reducible apply Has.drew | with_reducible apply Has.drewN | with_reducible apply Has.alloc | with_reducible apply Has.same | with_reducible apply Has.other | (with_reducible show _ ≠ _; first | omega | (simp; done)))) hbq; have C2 := Has.cell B2; have F2 := Has.frozen B2)); (try (have B3 := Has.below (b := w.heap.size + 1 + 1 + 1) (by repeat' (first | with_reducible assumption | with_reducible apply Has.new | with_reducible apply Has.new1 | with_reducible apply Has.new2 | with_reducible apply Has.new3 | with_reducible apply Has.new4 | with_reducible apply Has.drew | with_reducible apply Has.drewN | with_reducible apply Has.alloc | with_reducible apply Has.same | with_reducible apply Has.other | (with_reducible show _ ≠ _; first | omega | (simp; done)))) hbq; have C3 := Has.cell B3; have F3 := Has.frozen B3)); (try (have BX := Has.below (b := bX) (by repeat' (first | with_reducible assumption | with_reducible apply Has.new | with_reducible apply Has.new1 | with_reducible apply Has.new2 | with_reducible apply Has.new3 | with_reducible apply Has.new4 | with_reducible apply Has.drew | with_reducible apply Has.drewN | with_reducible apply Has.alloc | with_reducible apply Has.same | with_reducible apply Has.other | (with_reducible show _ ≠ _; first | omega | (simp; done)))) hbq; have CX := Has.cell BX; have FX := Has.frozen BX)); (try (have BY := Has.below (b := bY) (by repeat' (first | with_reducible assumption | with_reducible apply Has.new | with_reducible apply Has.new1 | with_reducible apply Has.new2 | with_reducible apply Has.new3 | with_reducible apply Has.new4 | with_reducible apply Has.drew | with_reducible apply Has.drewN | with_reducible apply Has.alloc | with_reducible apply Has.same | with_reducible apply Has.other | (with_reducible show _ ≠ _; first | omega | (simp; done)))) hbq; have CY := Has.cell BY; have FY := Has.frozen BY))))
    have hu := undrew hbq
    have BH2 : Has w' bH #[.int .i64 (x), .int .i64 (y), .int .i64 (z)] 25 := by first | exact BH | exact BH.below hu
    have BX2 : Has w' bX #[.int .i64 (X), .int .i64 (Y), .int .i64 (Z)] 25 := by first | exact BX | exact BX.below hu
    have hL2 := lowCall hL hu
    clear BH BX BW hL hu hbq TI TS GI GS RI RS
    have BH := BH2
    have BX := BX2
    have hL := hL2
    clear BH2 BX2 hL2
    rcases TF.out with rfl | ⟨rfl, rfl, rfl, rfl⟩
    · rcases RK.out with rfl | ⟨rfl, rt⟩
      · have RT := TO
        clear TF RK
        go_upto_region 11 with (go_at_call 38; (with_reducible refine (TR.out _).mono ?_); rintro e w' ⟨rfl, hbq⟩)
        have BH2 := BH.below hbq
        have BX2 := BX.below hbq
        have hL2 := lowCall hL hbq
        clear BH BX hL hbq
        refine (fun (kk : ∀ wm, Has wm bH #[.int .i64 (x), .int .i64 (y), .int .i64 (z)] 25 → Has wm bX #[.int .i64 (X), .int .i64 (Y), .int .i64 (Z)] 25 → Has wm w'.heap.size #[.int .i64 (B1), .int .i64 (B2), .int .i64 (B3)] 25 → Below w.heap.size w wm → Code.wp _ _ _ _ wm) => kk _ ?_ ?_ ?_ ?_) ?_
        · (refine Has.as (by repeat' (first | with_reducible assumption | with_reducible apply Has.new | with_reducible apply Has.new1 | with_reducible apply Has.new2 | with_reducible apply Has.new3 | with_reducible apply Has.new4 | with_reducible apply Has.drew | with_reducible apply Has.drewN | with_reducible apply Has.alloc | with_reducible apply Has.same | with_reducible apply Has.other | (with_reducible show _ ≠ _; first | omega | (simp; done)))) ?_; first | (with_reducible rfl) | (simp only [List.setIfInBounds_toArray, List.set_cons_zero, List.set_cons_succ]; done) | (simp only [List.setIfInBounds_toArray, List.set_cons_zero, List.set_cons_succ]; rfl) | rfl | (simp; done))
        · (refine Has.as (by repeat' (first | with_reducible assumption | with_reducible apply Has.new | with_reducible apply Has.new1 | with_reducible apply Has.new2 | with_reducible apply Has.new3 | with_reducible apply Has.new4 | with_reducible apply Has.drew | with_reducible apply Has.drewN | with_reducible apply Has.alloc | with_reducible apply Has.same | with_reducible apply Has.other | (with_reducible show _ ≠ _; first | omega | (simp; done)))) ?_; first | (with_reducible rfl) | (simp only [List.setIfInBounds_toArray, List.set_cons_zero, List.set_cons_succ]; done) | (simp only [List.setIfInBounds_toArray, List.set_cons_zero, List.set_cons_succ]; rfl) | rfl | (simp; done))
        · (refine Has.as (by repeat' (first | with_reducible assumption | with_reducible apply Has.new | with_reducible apply Has.new1 | with_reducible apply Has.new2 | with_reducible apply Has.new3 | with_reducible apply Has.new4 | with_reducible apply Has.drew | with_reducible apply Has.drewN | with_reducible apply Has.alloc | with_reducible apply Has.same | with_reducible apply Has.other | (with_reducible show _ ≠ _; first | omega | (simp; done)))) ?_; first | (with_reducible rfl) | (simp only [List.setIfInBounds_toArray, List.set_cons_zero, List.set_cons_succ]; done) | (simp only [List.setIfInBounds_toArray, List.set_cons_zero, List.set_cons_succ]; rfl) | rfl | (simp; done))
        · repeat' (first | with_reducible exact lowRefl _ | with_reducible apply lowSet | with_reducible apply lowDrew | with_reducible apply lowDrewN | with_reducible apply lowAlloc | (with_reducible refine lowCall ?_ (by assumption)) | (show (_ : Nat) ≤ _; first | (simp; done) | (simp; omega) | omega))
        clear BH2 BX2 hL2
        generalize w'.heap.size = bB
        intro wm BH BX BB hL
        have CH := Has.cell BH
        have CX := Has.cell BX
        have CB := Has.cell BB
        go_wp2_with (first | (go_at_call 18; (with_reducible refine (TO.out _).mono ?_); rintro e w2 ⟨rfl, hb2⟩; have BH3 := BH.below hb2; have BX3 := BX.below hb2; have BB3 := BB.below hb2; have CH3 := Has.cell BH3; have CX3 := Has.cell BX3; have CB3 := Has.cell BB3; have hL3 := lowCall hL hb2) | (go_at_call 36; (with_reducible refine (RT.out _).mono ?_); rintro e w3 ⟨rfl, hb3⟩; have hL4 := lowCall hL3 hb3))
        go_ret
        exact ⟨by first | rfl | (simp; done), by first | exact hL4 | exact hL3⟩
      · have RT := Lib.hid rt
        clear TF RK rt
        go_upto_region 11 with (go_at_call 38; (with_reducible refine (TR.out _).mono ?_); rintro e w' ⟨rfl, hbq⟩)
        have BH2 := BH.below hbq
        have BX2 := BX.below hbq
        have hL2 := lowCall hL hbq
        clear BH BX hL hbq
        refine (fun (kk : ∀ wm, Has wm bH #[.int .i64 (x), .int .i64 (y), .int .i64 (z)] 25 → Has wm bX #[.int .i64 (X), .int .i64 (Y), .int .i64 (Z)] 25 → Has wm w'.heap.size #[.int .i64 (B1), .int .i64 (B2), .int .i64 (B3)] 25 → Below w.heap.size w wm → Code.wp _ _ _ _ wm) => kk _ ?_ ?_ ?_ ?_) ?_
        · (refine Has.as (by repeat' (first | with_reducible assumption | with_reducible apply Has.new | with_reducible apply Has.new1 | with_reducible apply Has.new2 | with_reducible apply Has.new3 | with_reducible apply Has.new4 | with_reducible apply Has.drew | with_reducible apply Has.drewN | with_reducible apply Has.alloc | with_reducible apply Has.same | with_reducible apply Has.other | (with_reducible show _ ≠ _; first | omega | (simp; done)))) ?_; first | (with_reducible rfl) | (simp only [List.setIfInBounds_toArray, List.set_cons_zero, List.set_cons_succ]; done) | (simp only [List.setIfInBounds_toArray, List.set_cons_zero, List.set_cons_succ]; rfl) | rfl | (simp; done))
        · (refine Has.as (by repeat' (first | with_reducible assumption | with_reducible apply Has.new | with_reducible apply Has.new1 | with_reducible apply Has.new2 | with_reducible apply Has.new3 | with_reducible apply Has.new4 | with_reducible apply Has.drew | with_reducible apply Has.drewN | with_reducible apply Has.alloc | with_reducible apply Has.same | with_reducible apply Has.other | (with_reducible show _ ≠ _; first | omega | (simp; done)))) ?_; first | (with_reducible rfl) | (simp only [List.setIfInBounds_toArray, List.set_cons_zero, List.set_cons_succ]; done) | (simp only [List.setIfInBounds_toArray, List.set_cons_zero, List.set_cons_succ]; rfl) | rfl | (simp; done))
        · (refine Has.as (by repeat' (first | with_reducible assumption | with_reducible apply Has.new | with_reducible apply Has.new1 | with_reducible apply Has.new2 | with_reducible apply Has.new3 | with_reducible apply Has.new4 | with_reducible apply Has.drew | with_reducible apply Has.drewN | with_reducible apply Has.alloc | with_reducible apply Has.same | with_reducible apply Has.other | (with_reducible show _ ≠ _; first | omega | (simp; done)))) ?_; first | (with_reducible rfl) | (simp only [List.setIfInBounds_toArray, List.set_cons_zero, List.set_cons_succ]; done) | (simp only [List.setIfInBounds_toArray, List.set_cons_zero, List.set_cons_succ]; rfl) | rfl | (simp; done))
        · repeat' (first | with_reducible exact lowRefl _ | with_reducible apply lowSet | with_reducible apply lowDrew | with_reducible apply lowDrewN | with_reducible apply lowAlloc | (with_reducible refine lowCall ?_ (by assumption)) | (show (_ : Nat) ≤ _; first | (simp; done) | (simp; omega) | omega))
        clear BH2 BX2 hL2
        generalize w'.heap.size = bB
        intro wm BH BX BB hL
        have CH := Has.cell BH
        have CX := Has.cell BX
        have CB := Has.cell BB
        go_wp2_with (first | (go_at_call 18; (with_reducible refine (TO.out _).mono ?_); rintro e w2 ⟨rfl, hb2⟩; have BH3 := BH.below hb2; have BX3 := BX.below hb2; have BB3 := BB.below hb2; have CH3 := Has.cell BH3; have CX3 := Has.cell BX3; have CB3 := Has.cell BB3; have hL3 := lowCall hL hb2) | (go_at_call 36; (with_reducible refine (RT.out _).mono ?_); rintro e w3 ⟨rfl, hb3⟩; have hL4 := lowCall hL3 hb3))
        go_ret
        exact ⟨by first | rfl | (simp; done), by first | exact hL4 | exact hL3⟩
    · rcases RK.out with rfl | ⟨rfl, rt⟩
      · have RT := TO
        clear TF RK
        go_upto_region 11 with (go_at_call 38; (with_reducible refine (TR.out _).mono ?_); rintro e w' ⟨rfl, hbq⟩)
        have BH2 := BH.below hbq
        have BX2 := BX.below hbq
        have hL2 := lowCall hL hbq
        clear BH BX hL hbq
        refine (fun (kk : ∀ wm, Has wm bH #[.int .i64 (B1), .int .i64 (B2), .int .i64 (B3)] 25 → Has wm bX #[.int .i64 (X), .int .i64 (Y), .int .i64 (Z)] 25 → Has wm w'.heap.size #[.int .i64 (B1), .int .i64 (B2), .int .i64 (B3)] 25 → Below w.heap.size w wm → Code.wp _ _ _ _ wm) => kk _ ?_ ?_ ?_ ?_) ?_
        · (refine Has.as (by repeat' (first | with_reducible assumption | with_reducible apply Has.new | with_reducible apply Has.new1 | with_reducible apply Has.new2 | with_reducible apply Has.new3 | with_reducible apply Has.new4 | with_reducible apply Has.drew | with_reducible apply Has.drewN | with_reducible apply Has.alloc | with_reducible apply Has.same | with_reducible apply Has.other | (with_reducible show _ ≠ _; first | omega | (simp; done)))) ?_; first | (with_reducible rfl) | (simp only [List.setIfInBounds_toArray, List.set_cons_zero, List.set_cons_succ]; done) | (simp only [List.setIfInBounds_toArray, List.set_cons_zero, List.set_cons_succ]; rfl) | rfl | (simp; done))
        · (refine Has.as (by repeat' (first | with_reducible assumption | with_reducible apply Has.new | with_reducible apply Has.new1 | with_reducible apply Has.new2 | with_reducible apply Has.new3 | with_reducible apply Has.new4 | with_reducible apply Has.drew | with_reducible apply Has.drewN | with_reducible apply Has.alloc | with_reducible apply Has.same | with_reducible apply Has.other | (with_reducible show _ ≠ _; first | omega | (simp; done)))) ?_; first | (with_reducible rfl) | (simp only [List.setIfInBounds_toArray, List.set_cons_zero, List.set_cons_succ]; done) | (simp only [List.setIfInBounds_toArray, List.set_cons_zero, List.set_cons_succ]; rfl) | rfl | (simp; done))
        · (refine Has.as (by repeat' (first | with_reducible assumption | with_reducible apply Has.new | with_reducible apply Has.new1 | with_reducible apply Has.new2 | with_reducible apply Has.new3 | with_reducible apply Has.new4 | with_reducible apply Has.drew | with_reducible apply Has.drewN | with_reducible apply Has.alloc | with_reducible apply Has.same | with_reducible apply Has.other | (with_reducible show _ ≠ _; first | omega | (simp; done)))) ?_; first | (with_reducible rfl) | (simp only [List.setIfInBounds_toArray, List.set_cons_zero, List.set_cons_succ]; done) | (simp only [List.setIfInBounds_toArray, List.set_cons_zero, List.set_cons_succ]; rfl) | rfl | (simp; done))
        · repeat' (first | with_reducible exact lowRefl _ | with_reducible apply lowSet | with_reducible apply lowDrew | with_reducible apply lowDrewN | with_reducible apply lowAlloc | (with_reducible refine lowCall ?_ (by assumption)) | (show (_ : Nat) ≤ _; first | (simp; done) | (simp; omega) | omega))
        clear BH2 BX2 hL2
        generalize w'.heap.size = bB
        intro wm BH BX BB hL
        have CH := Has.cell BH
        have CX := Has.cell BX
        have CB := Has.cell BB
        go_wp2_with (first | (go_at_call 18; (with_reducible refine (TO.out _).mono ?_); rintro e w2 ⟨rfl, hb2⟩; have BH3 := BH.below hb2; have BX3 := BX.below hb2; have BB3 := BB.below hb2; have CH3 := Has.cell BH3; have CX3 := Has.cell BX3; have CB3 := Has.cell BB3; have hL3 := lowCall hL hb2) | (go_at_call 36; (with_reducible refine (RT.out _).mono ?_); rintro e w3 ⟨rfl, hb3⟩; have hL4 := lowCall hL3 hb3))
        go_ret
        exact ⟨by first | rfl | (simp; done), by first | exact hL4 | exact hL3⟩
      · have RT := Lib.hid rt
        clear TF RK rt
        go_upto_region 11 with (go_at_call 38; (with_reducible refine (TR.out _).mono ?_); rintro e w' ⟨rfl, hbq⟩)
        have BH2 := BH.below hbq
        have BX2 := BX.below hbq
        have hL2 := lowCall hL hbq
        clear BH BX hL hbq
        refine (fun (kk : ∀ wm, Has wm bH #[.int .i64 (B1), .int .i64 (B2), .int .i64 (B3)] 25 → Has wm bX #[.int .i64 (X), .int .i64 (Y), .int .i64 (Z)] 25 → Has wm w'.heap.size #[.int .i64 (B1), .int .i64 (B2), .int .i64 (B3)] 25 → Below w.heap.size w wm → Code.wp _ _ _ _ wm) => kk _ ?_ ?_ ?_ ?_) ?_
        · (refine Has.as (by repeat' (first | with_reducible assumption | with_reducible apply Has.new | with_reducible apply Has.new1 | with_reducible apply Has.new2 | with_reducible apply Has.new3 | with_reducible apply Has.new4 | with_reducible apply Has.drew | with_reducible apply Has.drewN | with_reducible apply Has.alloc | with_reducible apply Has.same | with_reducible apply Has.other | (with_reducible show _ ≠ _; first | omega | (simp; done)))) ?_; first | (with_reducible rfl) | (simp only [List.setIfInBounds_toArray, List.set_cons_zero, List.set_cons_succ]; done) | (simp only [List.setIfInBounds_toArray, List.set_cons_zero, List.set_cons_succ]; rfl) | rfl | (simp; done))
        · (refine Has.as (by repeat' (first | with_reducible assumption | with_reducible apply Has.new | with_reducible apply Has.new1 | with_reducible apply Has.new2 | with_reducible apply Has.new3 | with_reducible apply Has.new4 | with_reducible apply Has.drew | with_reducible apply Has.drewN | with_reducible apply Has.alloc | with_reducible apply Has.same | with_reducible apply Has.other | (with_reducible show _ ≠ _; first | omega | (simp; done)))) ?_; first | (with_reducible rfl) | (simp only [List.setIfInBounds_toArray, List.set_cons_zero, List.set_cons_succ]; done) | (simp only [List.setIfInBounds_toArray, List.set_cons_zero, List.set_cons_succ]; rfl) | rfl | (simp; done))
        · (refine Has.as (by repeat' (first | with_reducible assumption | with_reducible apply Has.new | with_reducible apply Has.new1 | with_reducible apply Has.new2 | with_reducible apply Has.new3 | with_reducible apply Has.new4 | with_reducible apply Has.drew | with_reducible apply Has.drewN | with_reducible apply Has.alloc | with_reducible apply Has.same | with_reducible apply Has.other | (with_reducible show _ ≠ _; first | omega | (simp; done)))) ?_; first | (with_reducible rfl) | (simp only [List.setIfInBounds_toArray, List.set_cons_zero, List.set_cons_succ]; done) | (simp only [List.setIfInBounds_toArray, List.set_cons_zero, List.set_cons_succ]; rfl) | rfl | (simp; done))
        · repeat' (first | with_reducible exact lowRefl _ | with_reducible apply lowSet | with_reducible apply lowDrew | with_reducible apply lowDrewN | with_reducible apply lowAlloc | (with_reducible refine lowCall ?_ (by assumption)) | (show (_ : Nat) ≤ _; first | (simp; done) | (simp; omega) | omega))
        clear BH2 BX2 hL2
        generalize w'.heap.size = bB
        intro wm BH BX BB hL
        have CH := Has.cell BH
        have CX := Has.cell BX
        have CB := Has.cell BB
        go_wp2_with (first | (go_at_call 18; (with_reducible refine (TO.out _).mono ?_); rintro e w2 ⟨rfl, hb2⟩; have BH3 := BH.below hb2; have BX3 := BX.below hb2; have BB3 := BB.below hb2; have CH3 := Has.cell BH3; have CX3 := Has.cell BX3; have CB3 := Has.cell BB3; have hL3 := lowCall hL hb2) | (go_at_call 36; (with_reducible refine (RT.out _).mono ?_); rintro e w3 ⟨rfl, hb3⟩; have hL4 := lowCall hL3 hb3))
        go_ret
        exact ⟨by first | rfl | (simp; done), by first | exact hL4 | exact hL3⟩
  · go_enter Try.func15, Try.ntmps15
    go_wp2
    go_ret; refine ⟨rfl, ?_⟩; (repeat' (first | with_reducible exact lowRefl _ | with_reducible apply lowSet | with_reducible apply lowDrew | with_reducible apply lowDrewN | with_reducible apply lowAlloc | (with_reducible refine lowCall ?_ (by assumption)) | (show (_ : Nat) ≤ _; first | (simp; done) | (simp; omega) | omega)))
end Go.Proofs.Ytegibpepdndocaa
