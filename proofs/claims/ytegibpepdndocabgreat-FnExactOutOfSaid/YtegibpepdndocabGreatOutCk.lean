import Derived.Test.YtegibpepdndocabGreatOutBk
namespace Go.Proofs.YtegibpepdndocabGreat
open Has renaming new → J0, new1 → J1, new2 → J2, new3 → J3, new4 → J4, drew → J5, drewN → J6, alloc → J7, same → J8, other → J9, cell → Jc, frozen → Jf, below → Jb
open Go.ChangeShapes Go.WideShapes Go.ChangeAt Go.RowKit
set_option linter.unusedSimpArgs false
set_option linter.unusedVariables false
set_option maxHeartbeats 4000000

attribute [local go_sem] ix0 ix1 ix2 VGo_value VGo_skip VGo_enter
theorem l8Face_any (a b c x y z p q r u v t X1 Y1 X2 Y2 X3 Y3 n r1 r2 r3 X Y Z : Int) (w : World) (h : Xok a b c x y z) (k : Rok p q r u v t) (s1 : SlE a x p u X1 Y1) (s2 : SlE b y q v X2 Y2) (s3 : SlE c z r t X3 Y3)
    (f1 : FcE u X1 Y1 n r1) (f2 : FcE v X2 Y2 n r2) (f3 : FcE t X3 Y3 n r3) (o : OtE r1 r2 r3 X Y Z) :
    Calls Tryz.prog 129 #[.agg #[.int .i64 (a), .int .i64 (b), .int .i64 (c), .int .i64 (x), .int .i64 (y), .int .i64 (z)], .agg #[.int .i64 (p), .int .i64 (q), .int .i64 (r), .int .i64 (u), .int .i64 (v), .int .i64 (t)], .int .i64 n] w fun e w' => e = .returned (.agg #[.int .i64 (X), .int .i64 (Y), .int .i64 (Z)]) ∧ Below w.heap.size w w' := by
  have v1 := h.1
  have v2 := h.2.1
  have v3 := k.1
  have v4 := k.2.1
  unfold Vok at v1 v2 v3 v4
  have S1 := Lib.hid (fun w => saxisV a x p u X1 Y1 w (by omega) (by omega) (by omega) (by omega) s1)
  have S2 := Lib.hid (fun w => saxisV b y q v X2 Y2 w (by omega) (by omega) (by omega) (by omega) s2)
  have S3 := Lib.hid (fun w => saxisV c z r t X3 Y3 w (by omega) (by omega) (by omega) (by omega) s3)
  have FF := Lib.hid (show FcE u X1 Y1 n r1 ∧ FcE v X2 Y2 n r2 ∧ FcE t X3 Y3 n r3 ∧ OtE r1 r2 r3 X Y Z from ⟨f1, f2, f3, o⟩)
  clear h k s1 s2 s3 f1 f2 f3 o v1 v2 v3 v4
  go_enter Tryz.func129, Tryz.ntmps129
  go_upto_region 1 with fail
  refine (fun (k : ∀ wm, Has wm w.heap.size #[.int .i64 (a), .int .i64 (b), .int .i64 (c), .int .i64 (x), .int .i64 (y), .int .i64 (z)] 45 → Has wm (w.heap.size + 1) #[.int .i64 (p), .int .i64 (q), .int .i64 (r), .int .i64 (u), .int .i64 (v), .int .i64 (t)] 52 → Has wm (w.heap.size + 1 + 1) #[.int .i64 0, .int .i64 0, .int .i64 0] 38 → Below w.heap.size w wm → Code.wp _ _ _ _ wm) => k _ ?_ ?_ ?_ ?_) ?_
  · (refine Has.as (by repeat' (first|with_reducible (first|assumption|apply J0|apply J1|apply J2|apply J3|apply J4|apply J5|apply J6|apply J7|apply J8|apply J9)|(with_reducible show _ ≠ _;first|omega|(simp;done)))) ?_; first | (with_reducible rfl) | (simp only [List.setIfInBounds_toArray, List.set_cons_zero, List.set_cons_succ]; first | done | rfl) | rfl | (simp; done))
  · (refine Has.as (by repeat' (first|with_reducible (first|assumption|apply J0|apply J1|apply J2|apply J3|apply J4|apply J5|apply J6|apply J7|apply J8|apply J9)|(with_reducible show _ ≠ _;first|omega|(simp;done)))) ?_; first | (with_reducible rfl) | (simp only [List.setIfInBounds_toArray, List.set_cons_zero, List.set_cons_succ]; first | done | rfl) | rfl | (simp; done))
  · (refine Has.as (by repeat' (first|with_reducible (first|assumption|apply J0|apply J1|apply J2|apply J3|apply J4|apply J5|apply J6|apply J7|apply J8|apply J9)|(with_reducible show _ ≠ _;first|omega|(simp;done)))) ?_; first | (with_reducible rfl) | (simp only [List.setIfInBounds_toArray, List.set_cons_zero, List.set_cons_succ]; first | done | rfl) | rfl | (simp; done))
  · repeat' (first|with_reducible (first|exact lowRefl _|apply lowSet|apply lowDrew|apply lowDrewN|apply lowAlloc)|(with_reducible refine lowCall ?_ (by assumption))|(show (_ : Nat) ≤ _;first|(simp;done)|(simp;omega)|omega))
  intro w1 B0 B1 B2 hL
  have C0 := Jc B0
  have F0 := Jf B0
  have C1 := Jc B1
  have F1 := Jf B1
  (first | (refine wp_region_held2 3 (by kernel_rfl) (by kernel_rfl) rfl rfl (fun _ _ _ d _ h => by cases d <;> exact h) (.cells #[.int .i64 0, .int .i64 0, .int .i64 0] 30 (0, 0)) ?_; intro Fq hFq; simp only [List.take_succ_cons, List.take_zero]) | (refine wp_region_plain2 3 rfl (.cells #[.int .i64 0, .int .i64 0, .int .i64 0] 30 (0, 0)) ?_; intro Fq hFq; simp only [List.take_succ_cons, List.take_zero]))
  repeat (first | (refine wpHeld_run ?_ rfl ?_ ?_; rotate_left; (focus (intro w' hbq Kq hKq; ((try (have B0 := Jb (b := w.heap.size) (by repeat' (first|with_reducible (first|assumption|apply J0|apply J1|apply J2|apply J3|apply J4|apply J5|apply J6|apply J7|apply J8|apply J9)|(with_reducible show _ ≠ _;first|omega|(simp;done)))) hbq; have C0 := Jc B0; have F0 := Jf B0)); (try (have B1 := Jb (b := w.heap.size + 1) (by repeat' (first|with_reducible (first|assumption|apply J0|apply J1|apply J2|apply J3|apply J4|apply J5|apply J6|apply J7|apply J8|apply J9)|(with_reducible show _ ≠ _;first|omega|(simp;done)))) hbq; have C1 := Jc B1; have F1 := Jf B1)); (try (have B2 := Jb (b := w.heap.size + 1 + 1) (by repeat' (first|with_reducible (first|assumption|apply J0|apply J1|apply J2|apply J3|apply J4|apply J5|apply J6|apply J7|apply J8|apply J9)|(with_reducible show _ ≠ _;first|omega|(simp;done)))) hbq; have C2 := Jc B2; have F2 := Jf B2)); (try (have BX := Jb (b := bX) (by repeat' (first|with_reducible (first|assumption|apply J0|apply J1|apply J2|apply J3|apply J4|apply J5|apply J6|apply J7|apply J8|apply J9)|(with_reducible show _ ≠ _;first|omega|(simp;done)))) hbq; have CX := Jc BX; have FX := Jf BX))); go_simp; (try (rw [IntWalk.i64_in]; rotate_left; focus (constructor <;> omega))); first | exact hKq _ (Below.refl _ _) | (go_at_call 191; ((with_reducible refine (l3List_any _ _ _ _).mono ?_); rintro e w2 ⟨rfl, hbr⟩; refine back ?_; exact hKq _ hbr)))); ((try simp only [Act.put, List.setIfInBounds_toArray, List.set_cons_zero, List.set_cons_succ]))) | (refine wpHeld_skip (by rfl) ?_; ((try simp only [Act.put, List.setIfInBounds_toArray, List.set_cons_zero, List.set_cons_succ]))))
  (refine wpHeld_nil (hFq _ ⟨rfl, ?_, ?_⟩); (focus (intro w1 _ Kq hKq; go_simp; exact hKq)); clear hFq; intro bX w' hbq hNX hBX; (try (have L0X : w.heap.size < bX := Nat.lt_of_lt_of_le (Has.lt (w := _) (by repeat' (first|with_reducible (first|assumption|apply J0|apply J1|apply J2|apply J3|apply J4|apply J5|apply J6|apply J7|apply J8|apply J9)|(with_reducible show _ ≠ _;first|omega|(simp;done))))) hNX; have N0X : ¬ w.heap.size = bX := Nat.ne_of_lt L0X; have M0X : ¬ bX = w.heap.size := fun h => N0X h.symm)); (try (have L1X : w.heap.size + 1 < bX := Nat.lt_of_lt_of_le (Has.lt (w := _) (by repeat' (first|with_reducible (first|assumption|apply J0|apply J1|apply J2|apply J3|apply J4|apply J5|apply J6|apply J7|apply J8|apply J9)|(with_reducible show _ ≠ _;first|omega|(simp;done))))) hNX; have N1X : ¬ w.heap.size + 1 = bX := Nat.ne_of_lt L1X; have M1X : ¬ bX = w.heap.size + 1 := fun h => N1X h.symm)); (try (have L2X : w.heap.size + 1 + 1 < bX := Nat.lt_of_lt_of_le (Has.lt (w := _) (by repeat' (first|with_reducible (first|assumption|apply J0|apply J1|apply J2|apply J3|apply J4|apply J5|apply J6|apply J7|apply J8|apply J9)|(with_reducible show _ ≠ _;first|omega|(simp;done))))) hNX; have N2X : ¬ w.heap.size + 1 + 1 = bX := Nat.ne_of_lt L2X; have M2X : ¬ bX = w.heap.size + 1 + 1 := fun h => N2X h.symm)); ((try (have B0 := Jb (b := w.heap.size) (by repeat' (first|with_reducible (first|assumption|apply J0|apply J1|apply J2|apply J3|apply J4|apply J5|apply J6|apply J7|apply J8|apply J9)|(with_reducible show _ ≠ _;first|omega|(simp;done)))) hbq; have C0 := Jc B0; have F0 := Jf B0)); (try (have B1 := Jb (b := w.heap.size + 1) (by repeat' (first|with_reducible (first|assumption|apply J0|apply J1|apply J2|apply J3|apply J4|apply J5|apply J6|apply J7|apply J8|apply J9)|(with_reducible show _ ≠ _;first|omega|(simp;done)))) hbq; have C1 := Jc B1; have F1 := Jf B1)); (try (have B2 := Jb (b := w.heap.size + 1 + 1) (by repeat' (first|with_reducible (first|assumption|apply J0|apply J1|apply J2|apply J3|apply J4|apply J5|apply J6|apply J7|apply J8|apply J9)|(with_reducible show _ ≠ _;first|omega|(simp;done)))) hbq; have C2 := Jc B2; have F2 := Jf B2)); (try (have BX := Jb (b := bX) (by repeat' (first|with_reducible (first|assumption|apply J0|apply J1|apply J2|apply J3|apply J4|apply J5|apply J6|apply J7|apply J8|apply J9)|(with_reducible show _ ≠ _;first|omega|(simp;done)))) hbq; have CX := Jc BX; have FX := Jf BX))); have BX : Has w' bX _ _ := hBX; clear hBX; have CX := Jc BX; have FX := Jf BX; ((try simp only [Act.put, List.setIfInBounds_toArray, List.set_cons_zero, List.set_cons_succ])))
  have hL2 := lowCall hL hbq
  clear hL
  have hL := hL2
  clear hL2
  go_upto_region 2 with fail
  refine (fun (k : ∀ wm, Has wm w.heap.size #[.int .i64 (a), .int .i64 (b), .int .i64 (c), .int .i64 (x), .int .i64 (y), .int .i64 (z)] 45 → Has wm (w.heap.size + 1) #[.int .i64 (p), .int .i64 (q), .int .i64 (r), .int .i64 (u), .int .i64 (v), .int .i64 (t)] 52 → Has wm (w.heap.size + 1 + 1) #[.int .i64 0, .int .i64 0, .int .i64 0] 38 → Has wm bX #[.int .i64 (a), .int .i64 (b), .int .i64 (c)] 30 → Below w.heap.size w wm → Code.wp _ _ _ _ wm) => k _ ?_ ?_ ?_ ?_ ?_) ?_
  · (refine Has.as (by repeat' (first|with_reducible (first|assumption|apply J0|apply J1|apply J2|apply J3|apply J4|apply J5|apply J6|apply J7|apply J8|apply J9)|(with_reducible show _ ≠ _;first|omega|(simp;done)))) ?_; first | (with_reducible rfl) | (simp only [List.setIfInBounds_toArray, List.set_cons_zero, List.set_cons_succ]; first | done | rfl) | rfl | (simp; done))
  · (refine Has.as (by repeat' (first|with_reducible (first|assumption|apply J0|apply J1|apply J2|apply J3|apply J4|apply J5|apply J6|apply J7|apply J8|apply J9)|(with_reducible show _ ≠ _;first|omega|(simp;done)))) ?_; first | (with_reducible rfl) | (simp only [List.setIfInBounds_toArray, List.set_cons_zero, List.set_cons_succ]; first | done | rfl) | rfl | (simp; done))
  · (refine Has.as (by repeat' (first|with_reducible (first|assumption|apply J0|apply J1|apply J2|apply J3|apply J4|apply J5|apply J6|apply J7|apply J8|apply J9)|(with_reducible show _ ≠ _;first|omega|(simp;done)))) ?_; first | (with_reducible rfl) | (simp only [List.setIfInBounds_toArray, List.set_cons_zero, List.set_cons_succ]; first | done | rfl) | rfl | (simp; done))
  · (refine Has.as (by repeat' (first|with_reducible (first|assumption|apply J0|apply J1|apply J2|apply J3|apply J4|apply J5|apply J6|apply J7|apply J8|apply J9)|(with_reducible show _ ≠ _;first|omega|(simp;done)))) ?_; first | (with_reducible rfl) | (simp only [List.setIfInBounds_toArray, List.set_cons_zero, List.set_cons_succ]; first | done | rfl) | rfl | (simp; done))
  · repeat' (first|with_reducible (first|exact lowRefl _|apply lowSet|apply lowDrew|apply lowDrewN|apply lowAlloc)|(with_reducible refine lowCall ?_ (by assumption))|(show (_ : Nat) ≤ _;first|(simp;done)|(simp;omega)|omega))
  generalize bX = bP at *
  try clear C2 F2
  clear B0 B1 BX C0 F0 C1 F1 CX FX B2 hL hbq
  intro w2 B0 B1 B2 BP hL
  have C0 := Jc B0
  have F0 := Jf B0
  have C1 := Jc B1
  have F1 := Jf B1
  (first | (refine wp_region_held2 3 (by kernel_rfl) (by kernel_rfl) rfl rfl (fun _ _ _ d _ h => by cases d <;> exact h) (.cells #[.int .i64 0, .int .i64 0, .int .i64 0] 30 (0, 0)) ?_; intro Fq hFq; simp only [List.take_succ_cons, List.take_zero]) | (refine wp_region_plain2 3 rfl (.cells #[.int .i64 0, .int .i64 0, .int .i64 0] 30 (0, 0)) ?_; intro Fq hFq; simp only [List.take_succ_cons, List.take_zero]))
  repeat (first | (refine wpHeld_run ?_ rfl ?_ ?_; rotate_left; (focus (intro w' hbq Kq hKq; ((try (have B0 := Jb (b := w.heap.size) (by repeat' (first|with_reducible (first|assumption|apply J0|apply J1|apply J2|apply J3|apply J4|apply J5|apply J6|apply J7|apply J8|apply J9)|(with_reducible show _ ≠ _;first|omega|(simp;done)))) hbq; have C0 := Jc B0; have F0 := Jf B0)); (try (have B1 := Jb (b := w.heap.size + 1) (by repeat' (first|with_reducible (first|assumption|apply J0|apply J1|apply J2|apply J3|apply J4|apply J5|apply J6|apply J7|apply J8|apply J9)|(with_reducible show _ ≠ _;first|omega|(simp;done)))) hbq; have C1 := Jc B1; have F1 := Jf B1)); (try (have B2 := Jb (b := w.heap.size + 1 + 1) (by repeat' (first|with_reducible (first|assumption|apply J0|apply J1|apply J2|apply J3|apply J4|apply J5|apply J6|apply J7|apply J8|apply J9)|(with_reducible show _ ≠ _;first|omega|(simp;done)))) hbq; have C2 := Jc B2; have F2 := Jf B2)); (try (have BX := Jb (b := bX) (by repeat' (first|with_reducible (first|assumption|apply J0|apply J1|apply J2|apply J3|apply J4|apply J5|apply J6|apply J7|apply J8|apply J9)|(with_reducible show _ ≠ _;first|omega|(simp;done)))) hbq; have CX := Jc BX; have FX := Jf BX))); go_simp; (try (rw [IntWalk.i64_in]; rotate_left; focus (constructor <;> omega))); first | exact hKq _ (Below.refl _ _) | (go_at_call 191; ((with_reducible refine (l3List_any _ _ _ _).mono ?_); rintro e w2 ⟨rfl, hbr⟩; refine back ?_; exact hKq _ hbr)))); ((try simp only [Act.put, List.setIfInBounds_toArray, List.set_cons_zero, List.set_cons_succ]))) | (refine wpHeld_skip (by rfl) ?_; ((try simp only [Act.put, List.setIfInBounds_toArray, List.set_cons_zero, List.set_cons_succ]))))
  (refine wpHeld_nil (hFq _ ⟨rfl, ?_, ?_⟩); (focus (intro w1 _ Kq hKq; go_simp; exact hKq)); clear hFq; intro bX w' hbq hNX hBX; (try (have L0X : w.heap.size < bX := Nat.lt_of_lt_of_le (Has.lt (w := _) (by repeat' (first|with_reducible (first|assumption|apply J0|apply J1|apply J2|apply J3|apply J4|apply J5|apply J6|apply J7|apply J8|apply J9)|(with_reducible show _ ≠ _;first|omega|(simp;done))))) hNX; have N0X : ¬ w.heap.size = bX := Nat.ne_of_lt L0X; have M0X : ¬ bX = w.heap.size := fun h => N0X h.symm)); (try (have L1X : w.heap.size + 1 < bX := Nat.lt_of_lt_of_le (Has.lt (w := _) (by repeat' (first|with_reducible (first|assumption|apply J0|apply J1|apply J2|apply J3|apply J4|apply J5|apply J6|apply J7|apply J8|apply J9)|(with_reducible show _ ≠ _;first|omega|(simp;done))))) hNX; have N1X : ¬ w.heap.size + 1 = bX := Nat.ne_of_lt L1X; have M1X : ¬ bX = w.heap.size + 1 := fun h => N1X h.symm)); (try (have L2X : w.heap.size + 1 + 1 < bX := Nat.lt_of_lt_of_le (Has.lt (w := _) (by repeat' (first|with_reducible (first|assumption|apply J0|apply J1|apply J2|apply J3|apply J4|apply J5|apply J6|apply J7|apply J8|apply J9)|(with_reducible show _ ≠ _;first|omega|(simp;done))))) hNX; have N2X : ¬ w.heap.size + 1 + 1 = bX := Nat.ne_of_lt L2X; have M2X : ¬ bX = w.heap.size + 1 + 1 := fun h => N2X h.symm)); ((try (have B0 := Jb (b := w.heap.size) (by repeat' (first|with_reducible (first|assumption|apply J0|apply J1|apply J2|apply J3|apply J4|apply J5|apply J6|apply J7|apply J8|apply J9)|(with_reducible show _ ≠ _;first|omega|(simp;done)))) hbq; have C0 := Jc B0; have F0 := Jf B0)); (try (have B1 := Jb (b := w.heap.size + 1) (by repeat' (first|with_reducible (first|assumption|apply J0|apply J1|apply J2|apply J3|apply J4|apply J5|apply J6|apply J7|apply J8|apply J9)|(with_reducible show _ ≠ _;first|omega|(simp;done)))) hbq; have C1 := Jc B1; have F1 := Jf B1)); (try (have B2 := Jb (b := w.heap.size + 1 + 1) (by repeat' (first|with_reducible (first|assumption|apply J0|apply J1|apply J2|apply J3|apply J4|apply J5|apply J6|apply J7|apply J8|apply J9)|(with_reducible show _ ≠ _;first|omega|(simp;done)))) hbq; have C2 := Jc B2; have F2 := Jf B2)); (try (have BX := Jb (b := bX) (by repeat' (first|with_reducible (first|assumption|apply J0|apply J1|apply J2|apply J3|apply J4|apply J5|apply J6|apply J7|apply J8|apply J9)|(with_reducible show _ ≠ _;first|omega|(simp;done)))) hbq; have CX := Jc BX; have FX := Jf BX))); have BX : Has w' bX _ _ := hBX; clear hBX; have CX := Jc BX; have FX := Jf BX; ((try simp only [Act.put, List.setIfInBounds_toArray, List.set_cons_zero, List.set_cons_succ])))
  have lP := BP.lt
  (have BP2 := (by first | exact BP.below hbq | exact BP.below (undrew hbq)); clear BP; have BP := BP2; clear BP2)
  have hL2 := lowCall hL hbq
  clear hL
  have hL := hL2
  clear hL2
  go_upto_region 3 with fail
  refine (fun (k : ∀ wm, Has wm w.heap.size #[.int .i64 (a), .int .i64 (b), .int .i64 (c), .int .i64 (x), .int .i64 (y), .int .i64 (z)] 45 → Has wm (w.heap.size + 1) #[.int .i64 (p), .int .i64 (q), .int .i64 (r), .int .i64 (u), .int .i64 (v), .int .i64 (t)] 52 → Has wm (w.heap.size + 1 + 1) #[.int .i64 0, .int .i64 0, .int .i64 0] 38 → Has wm bP #[.int .i64 (a), .int .i64 (b), .int .i64 (c)] 30 → Has wm bX #[.int .i64 (x), .int .i64 (y), .int .i64 (z)] 30 → Below w.heap.size w wm → Code.wp _ _ _ _ wm) => k _ ?_ ?_ ?_ ?_ ?_ ?_) ?_
  · (refine Has.as (by repeat' (first|with_reducible (first|assumption|apply J0|apply J1|apply J2|apply J3|apply J4|apply J5|apply J6|apply J7|apply J8|apply J9)|(with_reducible show _ ≠ _;first|omega|(simp;done)))) ?_; first | (with_reducible rfl) | (simp only [List.setIfInBounds_toArray, List.set_cons_zero, List.set_cons_succ]; first | done | rfl) | rfl | (simp; done))
  · (refine Has.as (by repeat' (first|with_reducible (first|assumption|apply J0|apply J1|apply J2|apply J3|apply J4|apply J5|apply J6|apply J7|apply J8|apply J9)|(with_reducible show _ ≠ _;first|omega|(simp;done)))) ?_; first | (with_reducible rfl) | (simp only [List.setIfInBounds_toArray, List.set_cons_zero, List.set_cons_succ]; first | done | rfl) | rfl | (simp; done))
  · (refine Has.as (by repeat' (first|with_reducible (first|assumption|apply J0|apply J1|apply J2|apply J3|apply J4|apply J5|apply J6|apply J7|apply J8|apply J9)|(with_reducible show _ ≠ _;first|omega|(simp;done)))) ?_; first | (with_reducible rfl) | (simp only [List.setIfInBounds_toArray, List.set_cons_zero, List.set_cons_succ]; first | done | rfl) | rfl | (simp; done))
  · (refine Has.as (by repeat' (first|with_reducible (first|assumption|apply J0|apply J1|apply J2|apply J3|apply J4|apply J5|apply J6|apply J7|apply J8|apply J9)|(with_reducible show _ ≠ _;first|omega|(simp;done)))) ?_; first | (with_reducible rfl) | (simp only [List.setIfInBounds_toArray, List.set_cons_zero, List.set_cons_succ]; first | done | rfl) | rfl | (simp; done))
  · (refine Has.as (by repeat' (first|with_reducible (first|assumption|apply J0|apply J1|apply J2|apply J3|apply J4|apply J5|apply J6|apply J7|apply J8|apply J9)|(with_reducible show _ ≠ _;first|omega|(simp;done)))) ?_; first | (with_reducible rfl) | (simp only [List.setIfInBounds_toArray, List.set_cons_zero, List.set_cons_succ]; first | done | rfl) | rfl | (simp; done))
  · repeat' (first|with_reducible (first|exact lowRefl _|apply lowSet|apply lowDrew|apply lowDrewN|apply lowAlloc)|(with_reducible refine lowCall ?_ (by assumption))|(show (_ : Nat) ≤ _;first|(simp;done)|(simp;omega)|omega))
  generalize bX = bQ at *
  try clear C2 F2
  clear B0 B1 BX C0 F0 C1 F1 CX FX B2 hL hbq BP lP
  intro w3 B0 B1 B2 BP BQ hL
  have C0 := Jc B0
  have F0 := Jf B0
  have C1 := Jc B1
  have F1 := Jf B1
  (first | (refine wp_region_held2 3 (by kernel_rfl) (by kernel_rfl) rfl rfl (fun _ _ _ d _ h => by cases d <;> exact h) (.cells #[.int .i64 0, .int .i64 0, .int .i64 0] 30 (0, 0)) ?_; intro Fq hFq; simp only [List.take_succ_cons, List.take_zero]) | (refine wp_region_plain2 3 rfl (.cells #[.int .i64 0, .int .i64 0, .int .i64 0] 30 (0, 0)) ?_; intro Fq hFq; simp only [List.take_succ_cons, List.take_zero]))
  repeat (first | (refine wpHeld_run ?_ rfl ?_ ?_; rotate_left; (focus (intro w' hbq Kq hKq; ((try (have B0 := Jb (b := w.heap.size) (by repeat' (first|with_reducible (first|assumption|apply J0|apply J1|apply J2|apply J3|apply J4|apply J5|apply J6|apply J7|apply J8|apply J9)|(with_reducible show _ ≠ _;first|omega|(simp;done)))) hbq; have C0 := Jc B0; have F0 := Jf B0)); (try (have B1 := Jb (b := w.heap.size + 1) (by repeat' (first|with_reducible (first|assumption|apply J0|apply J1|apply J2|apply J3|apply J4|apply J5|apply J6|apply J7|apply J8|apply J9)|(with_reducible show _ ≠ _;first|omega|(simp;done)))) hbq; have C1 := Jc B1; have F1 := Jf B1)); (try (have B2 := Jb (b := w.heap.size + 1 + 1) (by repeat' (first|with_reducible (first|assumption|apply J0|apply J1|apply J2|apply J3|apply J4|apply J5|apply J6|apply J7|apply J8|apply J9)|(with_reducible show _ ≠ _;first|omega|(simp;done)))) hbq; have C2 := Jc B2; have F2 := Jf B2)); (try (have BX := Jb (b := bX) (by repeat' (first|with_reducible (first|assumption|apply J0|apply J1|apply J2|apply J3|apply J4|apply J5|apply J6|apply J7|apply J8|apply J9)|(with_reducible show _ ≠ _;first|omega|(simp;done)))) hbq; have CX := Jc BX; have FX := Jf BX))); go_simp; (try (rw [IntWalk.i64_in]; rotate_left; focus (constructor <;> omega))); first | exact hKq _ (Below.refl _ _) | (go_at_call 191; ((with_reducible refine (l3List_any _ _ _ _).mono ?_); rintro e w2 ⟨rfl, hbr⟩; refine back ?_; exact hKq _ hbr)))); ((try simp only [Act.put, List.setIfInBounds_toArray, List.set_cons_zero, List.set_cons_succ]))) | (refine wpHeld_skip (by rfl) ?_; ((try simp only [Act.put, List.setIfInBounds_toArray, List.set_cons_zero, List.set_cons_succ]))))
  (refine wpHeld_nil (hFq _ ⟨rfl, ?_, ?_⟩); (focus (intro w1 _ Kq hKq; go_simp; exact hKq)); clear hFq; intro bX w' hbq hNX hBX; (try (have L0X : w.heap.size < bX := Nat.lt_of_lt_of_le (Has.lt (w := _) (by repeat' (first|with_reducible (first|assumption|apply J0|apply J1|apply J2|apply J3|apply J4|apply J5|apply J6|apply J7|apply J8|apply J9)|(with_reducible show _ ≠ _;first|omega|(simp;done))))) hNX; have N0X : ¬ w.heap.size = bX := Nat.ne_of_lt L0X; have M0X : ¬ bX = w.heap.size := fun h => N0X h.symm)); (try (have L1X : w.heap.size + 1 < bX := Nat.lt_of_lt_of_le (Has.lt (w := _) (by repeat' (first|with_reducible (first|assumption|apply J0|apply J1|apply J2|apply J3|apply J4|apply J5|apply J6|apply J7|apply J8|apply J9)|(with_reducible show _ ≠ _;first|omega|(simp;done))))) hNX; have N1X : ¬ w.heap.size + 1 = bX := Nat.ne_of_lt L1X; have M1X : ¬ bX = w.heap.size + 1 := fun h => N1X h.symm)); (try (have L2X : w.heap.size + 1 + 1 < bX := Nat.lt_of_lt_of_le (Has.lt (w := _) (by repeat' (first|with_reducible (first|assumption|apply J0|apply J1|apply J2|apply J3|apply J4|apply J5|apply J6|apply J7|apply J8|apply J9)|(with_reducible show _ ≠ _;first|omega|(simp;done))))) hNX; have N2X : ¬ w.heap.size + 1 + 1 = bX := Nat.ne_of_lt L2X; have M2X : ¬ bX = w.heap.size + 1 + 1 := fun h => N2X h.symm)); ((try (have B0 := Jb (b := w.heap.size) (by repeat' (first|with_reducible (first|assumption|apply J0|apply J1|apply J2|apply J3|apply J4|apply J5|apply J6|apply J7|apply J8|apply J9)|(with_reducible show _ ≠ _;first|omega|(simp;done)))) hbq; have C0 := Jc B0; have F0 := Jf B0)); (try (have B1 := Jb (b := w.heap.size + 1) (by repeat' (first|with_reducible (first|assumption|apply J0|apply J1|apply J2|apply J3|apply J4|apply J5|apply J6|apply J7|apply J8|apply J9)|(with_reducible show _ ≠ _;first|omega|(simp;done)))) hbq; have C1 := Jc B1; have F1 := Jf B1)); (try (have B2 := Jb (b := w.heap.size + 1 + 1) (by repeat' (first|with_reducible (first|assumption|apply J0|apply J1|apply J2|apply J3|apply J4|apply J5|apply J6|apply J7|apply J8|apply J9)|(with_reducible show _ ≠ _;first|omega|(simp;done)))) hbq; have C2 := Jc B2; have F2 := Jf B2)); (try (have BX := Jb (b := bX) (by repeat' (first|with_reducible (first|assumption|apply J0|apply J1|apply J2|apply J3|apply J4|apply J5|apply J6|apply J7|apply J8|apply J9)|(with_reducible show _ ≠ _;first|omega|(simp;done)))) hbq; have CX := Jc BX; have FX := Jf BX))); have BX : Has w' bX _ _ := hBX; clear hBX; have CX := Jc BX; have FX := Jf BX; ((try simp only [Act.put, List.setIfInBounds_toArray, List.set_cons_zero, List.set_cons_succ])))
  have lP := BP.lt
  (have BP2 := (by first | exact BP.below hbq | exact BP.below (undrew hbq)); clear BP; have BP := BP2; clear BP2)
  have lQ := BQ.lt
  (have BQ2 := (by first | exact BQ.below hbq | exact BQ.below (undrew hbq)); clear BQ; have BQ := BQ2; clear BQ2)
  have hL2 := lowCall hL hbq
  clear hL
  have hL := hL2
  clear hL2
  go_upto_region 4 with fail
  refine (fun (k : ∀ wm, Has wm w.heap.size #[.int .i64 (a), .int .i64 (b), .int .i64 (c), .int .i64 (x), .int .i64 (y), .int .i64 (z)] 45 → Has wm (w.heap.size + 1) #[.int .i64 (p), .int .i64 (q), .int .i64 (r), .int .i64 (u), .int .i64 (v), .int .i64 (t)] 52 → Has wm (w.heap.size + 1 + 1) #[.int .i64 0, .int .i64 0, .int .i64 0] 38 → Has wm bP #[.int .i64 (a), .int .i64 (b), .int .i64 (c)] 30 → Has wm bQ #[.int .i64 (x), .int .i64 (y), .int .i64 (z)] 30 → Has wm bX #[.int .i64 (p), .int .i64 (q), .int .i64 (r)] 30 → Below w.heap.size w wm → Code.wp _ _ _ _ wm) => k _ ?_ ?_ ?_ ?_ ?_ ?_ ?_) ?_
  · (refine Has.as (by repeat' (first|with_reducible (first|assumption|apply J0|apply J1|apply J2|apply J3|apply J4|apply J5|apply J6|apply J7|apply J8|apply J9)|(with_reducible show _ ≠ _;first|omega|(simp;done)))) ?_; first | (with_reducible rfl) | (simp only [List.setIfInBounds_toArray, List.set_cons_zero, List.set_cons_succ]; first | done | rfl) | rfl | (simp; done))
  · (refine Has.as (by repeat' (first|with_reducible (first|assumption|apply J0|apply J1|apply J2|apply J3|apply J4|apply J5|apply J6|apply J7|apply J8|apply J9)|(with_reducible show _ ≠ _;first|omega|(simp;done)))) ?_; first | (with_reducible rfl) | (simp only [List.setIfInBounds_toArray, List.set_cons_zero, List.set_cons_succ]; first | done | rfl) | rfl | (simp; done))
  · (refine Has.as (by repeat' (first|with_reducible (first|assumption|apply J0|apply J1|apply J2|apply J3|apply J4|apply J5|apply J6|apply J7|apply J8|apply J9)|(with_reducible show _ ≠ _;first|omega|(simp;done)))) ?_; first | (with_reducible rfl) | (simp only [List.setIfInBounds_toArray, List.set_cons_zero, List.set_cons_succ]; first | done | rfl) | rfl | (simp; done))
  · (refine Has.as (by repeat' (first|with_reducible (first|assumption|apply J0|apply J1|apply J2|apply J3|apply J4|apply J5|apply J6|apply J7|apply J8|apply J9)|(with_reducible show _ ≠ _;first|omega|(simp;done)))) ?_; first | (with_reducible rfl) | (simp only [List.setIfInBounds_toArray, List.set_cons_zero, List.set_cons_succ]; first | done | rfl) | rfl | (simp; done))
  · (refine Has.as (by repeat' (first|with_reducible (first|assumption|apply J0|apply J1|apply J2|apply J3|apply J4|apply J5|apply J6|apply J7|apply J8|apply J9)|(with_reducible show _ ≠ _;first|omega|(simp;done)))) ?_; first | (with_reducible rfl) | (simp only [List.setIfInBounds_toArray, List.set_cons_zero, List.set_cons_succ]; first | done | rfl) | rfl | (simp; done))
  · (refine Has.as (by repeat' (first|with_reducible (first|assumption|apply J0|apply J1|apply J2|apply J3|apply J4|apply J5|apply J6|apply J7|apply J8|apply J9)|(with_reducible show _ ≠ _;first|omega|(simp;done)))) ?_; first | (with_reducible rfl) | (simp only [List.setIfInBounds_toArray, List.set_cons_zero, List.set_cons_succ]; first | done | rfl) | rfl | (simp; done))
  · repeat' (first|with_reducible (first|exact lowRefl _|apply lowSet|apply lowDrew|apply lowDrewN|apply lowAlloc)|(with_reducible refine lowCall ?_ (by assumption))|(show (_ : Nat) ≤ _;first|(simp;done)|(simp;omega)|omega))
  generalize bX = bR at *
  try clear C2 F2
  clear B0 B1 BX C0 F0 C1 F1 CX FX B2 hL hbq BP lP BQ lQ
  intro w4 B0 B1 B2 BP BQ BR hL
  have C0 := Jc B0
  have F0 := Jf B0
  have C1 := Jc B1
  have F1 := Jf B1
  (first | (refine wp_region_held2 3 (by kernel_rfl) (by kernel_rfl) rfl rfl (fun _ _ _ d _ h => by cases d <;> exact h) (.cells #[.int .i64 0, .int .i64 0, .int .i64 0] 30 (0, 0)) ?_; intro Fq hFq; simp only [List.take_succ_cons, List.take_zero]) | (refine wp_region_plain2 3 rfl (.cells #[.int .i64 0, .int .i64 0, .int .i64 0] 30 (0, 0)) ?_; intro Fq hFq; simp only [List.take_succ_cons, List.take_zero]))
  repeat (first | (refine wpHeld_run ?_ rfl ?_ ?_; rotate_left; (focus (intro w' hbq Kq hKq; ((try (have B0 := Jb (b := w.heap.size) (by repeat' (first|with_reducible (first|assumption|apply J0|apply J1|apply J2|apply J3|apply J4|apply J5|apply J6|apply J7|apply J8|apply J9)|(with_reducible show _ ≠ _;first|omega|(simp;done)))) hbq; have C0 := Jc B0; have F0 := Jf B0)); (try (have B1 := Jb (b := w.heap.size + 1) (by repeat' (first|with_reducible (first|assumption|apply J0|apply J1|apply J2|apply J3|apply J4|apply J5|apply J6|apply J7|apply J8|apply J9)|(with_reducible show _ ≠ _;first|omega|(simp;done)))) hbq; have C1 := Jc B1; have F1 := Jf B1)); (try (have B2 := Jb (b := w.heap.size + 1 + 1) (by repeat' (first|with_reducible (first|assumption|apply J0|apply J1|apply J2|apply J3|apply J4|apply J5|apply J6|apply J7|apply J8|apply J9)|(with_reducible show _ ≠ _;first|omega|(simp;done)))) hbq; have C2 := Jc B2; have F2 := Jf B2)); (try (have BX := Jb (b := bX) (by repeat' (first|with_reducible (first|assumption|apply J0|apply J1|apply J2|apply J3|apply J4|apply J5|apply J6|apply J7|apply J8|apply J9)|(with_reducible show _ ≠ _;first|omega|(simp;done)))) hbq; have CX := Jc BX; have FX := Jf BX))); go_simp; (try (rw [IntWalk.i64_in]; rotate_left; focus (constructor <;> omega))); first | exact hKq _ (Below.refl _ _) | (go_at_call 191; ((with_reducible refine (l3List_any _ _ _ _).mono ?_); rintro e w2 ⟨rfl, hbr⟩; refine back ?_; exact hKq _ hbr)))); ((try simp only [Act.put, List.setIfInBounds_toArray, List.set_cons_zero, List.set_cons_succ]))) | (refine wpHeld_skip (by rfl) ?_; ((try simp only [Act.put, List.setIfInBounds_toArray, List.set_cons_zero, List.set_cons_succ]))))
  (refine wpHeld_nil (hFq _ ⟨rfl, ?_, ?_⟩); (focus (intro w1 _ Kq hKq; go_simp; exact hKq)); clear hFq; intro bX w' hbq hNX hBX; (try (have L0X : w.heap.size < bX := Nat.lt_of_lt_of_le (Has.lt (w := _) (by repeat' (first|with_reducible (first|assumption|apply J0|apply J1|apply J2|apply J3|apply J4|apply J5|apply J6|apply J7|apply J8|apply J9)|(with_reducible show _ ≠ _;first|omega|(simp;done))))) hNX; have N0X : ¬ w.heap.size = bX := Nat.ne_of_lt L0X; have M0X : ¬ bX = w.heap.size := fun h => N0X h.symm)); (try (have L1X : w.heap.size + 1 < bX := Nat.lt_of_lt_of_le (Has.lt (w := _) (by repeat' (first|with_reducible (first|assumption|apply J0|apply J1|apply J2|apply J3|apply J4|apply J5|apply J6|apply J7|apply J8|apply J9)|(with_reducible show _ ≠ _;first|omega|(simp;done))))) hNX; have N1X : ¬ w.heap.size + 1 = bX := Nat.ne_of_lt L1X; have M1X : ¬ bX = w.heap.size + 1 := fun h => N1X h.symm)); (try (have L2X : w.heap.size + 1 + 1 < bX := Nat.lt_of_lt_of_le (Has.lt (w := _) (by repeat' (first|with_reducible (first|assumption|apply J0|apply J1|apply J2|apply J3|apply J4|apply J5|apply J6|apply J7|apply J8|apply J9)|(with_reducible show _ ≠ _;first|omega|(simp;done))))) hNX; have N2X : ¬ w.heap.size + 1 + 1 = bX := Nat.ne_of_lt L2X; have M2X : ¬ bX = w.heap.size + 1 + 1 := fun h => N2X h.symm)); ((try (have B0 := Jb (b := w.heap.size) (by repeat' (first|with_reducible (first|assumption|apply J0|apply J1|apply J2|apply J3|apply J4|apply J5|apply J6|apply J7|apply J8|apply J9)|(with_reducible show _ ≠ _;first|omega|(simp;done)))) hbq; have C0 := Jc B0; have F0 := Jf B0)); (try (have B1 := Jb (b := w.heap.size + 1) (by repeat' (first|with_reducible (first|assumption|apply J0|apply J1|apply J2|apply J3|apply J4|apply J5|apply J6|apply J7|apply J8|apply J9)|(with_reducible show _ ≠ _;first|omega|(simp;done)))) hbq; have C1 := Jc B1; have F1 := Jf B1)); (try (have B2 := Jb (b := w.heap.size + 1 + 1) (by repeat' (first|with_reducible (first|assumption|apply J0|apply J1|apply J2|apply J3|apply J4|apply J5|apply J6|apply J7|apply J8|apply J9)|(with_reducible show _ ≠ _;first|omega|(simp;done)))) hbq; have C2 := Jc B2; have F2 := Jf B2)); (try (have BX := Jb (b := bX) (by repeat' (first|with_reducible (first|assumption|apply J0|apply J1|apply J2|apply J3|apply J4|apply J5|apply J6|apply J7|apply J8|apply J9)|(with_reducible show _ ≠ _;first|omega|(simp;done)))) hbq; have CX := Jc BX; have FX := Jf BX))); have BX : Has w' bX _ _ := hBX; clear hBX; have CX := Jc BX; have FX := Jf BX; ((try simp only [Act.put, List.setIfInBounds_toArray, List.set_cons_zero, List.set_cons_succ])))
  have lP := BP.lt
  (have BP2 := (by first | exact BP.below hbq | exact BP.below (undrew hbq)); clear BP; have BP := BP2; clear BP2)
  have lQ := BQ.lt
  (have BQ2 := (by first | exact BQ.below hbq | exact BQ.below (undrew hbq)); clear BQ; have BQ := BQ2; clear BQ2)
  have lR := BR.lt
  (have BR2 := (by first | exact BR.below hbq | exact BR.below (undrew hbq)); clear BR; have BR := BR2; clear BR2)
  have hL2 := lowCall hL hbq
  clear hL
  have hL := hL2
  clear hL2
  go_upto_region 5 with fail
  refine (fun (k : ∀ wm, Has wm w.heap.size #[.int .i64 (a), .int .i64 (b), .int .i64 (c), .int .i64 (x), .int .i64 (y), .int .i64 (z)] 45 → Has wm (w.heap.size + 1) #[.int .i64 (p), .int .i64 (q), .int .i64 (r), .int .i64 (u), .int .i64 (v), .int .i64 (t)] 52 → Has wm (w.heap.size + 1 + 1) #[.int .i64 0, .int .i64 0, .int .i64 0] 38 → Has wm bP #[.int .i64 (a), .int .i64 (b), .int .i64 (c)] 30 → Has wm bQ #[.int .i64 (x), .int .i64 (y), .int .i64 (z)] 30 → Has wm bR #[.int .i64 (p), .int .i64 (q), .int .i64 (r)] 30 → Has wm bX #[.int .i64 (u), .int .i64 (v), .int .i64 (t)] 30 → Below w.heap.size w wm → Code.wp _ _ _ _ wm) => k _ ?_ ?_ ?_ ?_ ?_ ?_ ?_ ?_) ?_
  · (refine Has.as (by repeat' (first|with_reducible (first|assumption|apply J0|apply J1|apply J2|apply J3|apply J4|apply J5|apply J6|apply J7|apply J8|apply J9)|(with_reducible show _ ≠ _;first|omega|(simp;done)))) ?_; first | (with_reducible rfl) | (simp only [List.setIfInBounds_toArray, List.set_cons_zero, List.set_cons_succ]; first | done | rfl) | rfl | (simp; done))
  · (refine Has.as (by repeat' (first|with_reducible (first|assumption|apply J0|apply J1|apply J2|apply J3|apply J4|apply J5|apply J6|apply J7|apply J8|apply J9)|(with_reducible show _ ≠ _;first|omega|(simp;done)))) ?_; first | (with_reducible rfl) | (simp only [List.setIfInBounds_toArray, List.set_cons_zero, List.set_cons_succ]; first | done | rfl) | rfl | (simp; done))
  · (refine Has.as (by repeat' (first|with_reducible (first|assumption|apply J0|apply J1|apply J2|apply J3|apply J4|apply J5|apply J6|apply J7|apply J8|apply J9)|(with_reducible show _ ≠ _;first|omega|(simp;done)))) ?_; first | (with_reducible rfl) | (simp only [List.setIfInBounds_toArray, List.set_cons_zero, List.set_cons_succ]; first | done | rfl) | rfl | (simp; done))
  · (refine Has.as (by repeat' (first|with_reducible (first|assumption|apply J0|apply J1|apply J2|apply J3|apply J4|apply J5|apply J6|apply J7|apply J8|apply J9)|(with_reducible show _ ≠ _;first|omega|(simp;done)))) ?_; first | (with_reducible rfl) | (simp only [List.setIfInBounds_toArray, List.set_cons_zero, List.set_cons_succ]; first | done | rfl) | rfl | (simp; done))
  · (refine Has.as (by repeat' (first|with_reducible (first|assumption|apply J0|apply J1|apply J2|apply J3|apply J4|apply J5|apply J6|apply J7|apply J8|apply J9)|(with_reducible show _ ≠ _;first|omega|(simp;done)))) ?_; first | (with_reducible rfl) | (simp only [List.setIfInBounds_toArray, List.set_cons_zero, List.set_cons_succ]; first | done | rfl) | rfl | (simp; done))
  · (refine Has.as (by repeat' (first|with_reducible (first|assumption|apply J0|apply J1|apply J2|apply J3|apply J4|apply J5|apply J6|apply J7|apply J8|apply J9)|(with_reducible show _ ≠ _;first|omega|(simp;done)))) ?_; first | (with_reducible rfl) | (simp only [List.setIfInBounds_toArray, List.set_cons_zero, List.set_cons_succ]; first | done | rfl) | rfl | (simp; done))
  · (refine Has.as (by repeat' (first|with_reducible (first|assumption|apply J0|apply J1|apply J2|apply J3|apply J4|apply J5|apply J6|apply J7|apply J8|apply J9)|(with_reducible show _ ≠ _;first|omega|(simp;done)))) ?_; first | (with_reducible rfl) | (simp only [List.setIfInBounds_toArray, List.set_cons_zero, List.set_cons_succ]; first | done | rfl) | rfl | (simp; done))
  · repeat' (first|with_reducible (first|exact lowRefl _|apply lowSet|apply lowDrew|apply lowDrewN|apply lowAlloc)|(with_reducible refine lowCall ?_ (by assumption))|(show (_ : Nat) ≤ _;first|(simp;done)|(simp;omega)|omega))
  generalize bX = bS at *
  try clear C2 F2
  clear B0 B1 BX C0 F0 C1 F1 CX FX B2 hL hbq BP lP BQ lQ BR lR
  intro w5 B0 B1 B2 BP BQ BR BS hL
  have l2 := B2.lt
  have lP := BP.lt
  have lQ := BQ.lt
  have lR := BR.lt
  have lS := BS.lt
  go_upto_region 6 with fail
  refine (fun (k : ∀ wm, Has wm bP #[.int .i64 (a), .int .i64 (b), .int .i64 (c)] 30 → Has wm bQ #[.int .i64 (x), .int .i64 (y), .int .i64 (z)] 30 → Has wm bR #[.int .i64 (p), .int .i64 (q), .int .i64 (r)] 30 → Has wm bS #[.int .i64 (u), .int .i64 (v), .int .i64 (t)] 30 → Has wm w5.heap.size #[.int .i64 0, .int .i64 0, .int .i64 0] 30 → Has wm (w.heap.size + 1 + 1) #[.int .i64 0, .int .i64 0, .int .i64 0] 38 → Below w.heap.size w wm → Code.wp _ _ _ _ wm) => k _ ?_ ?_ ?_ ?_ ?_ ?_ ?_) ?_
  · (refine Has.as (by repeat' (first|with_reducible (first|assumption|apply J0|apply J1|apply J2|apply J3|apply J4|apply J5|apply J6|apply J7|apply J8|apply J9)|(with_reducible show _ ≠ _;first|omega|(simp;done)))) ?_; first | (with_reducible rfl) | (simp only [List.setIfInBounds_toArray, List.set_cons_zero, List.set_cons_succ]; first | done | rfl) | rfl | (simp; done))
  · (refine Has.as (by repeat' (first|with_reducible (first|assumption|apply J0|apply J1|apply J2|apply J3|apply J4|apply J5|apply J6|apply J7|apply J8|apply J9)|(with_reducible show _ ≠ _;first|omega|(simp;done)))) ?_; first | (with_reducible rfl) | (simp only [List.setIfInBounds_toArray, List.set_cons_zero, List.set_cons_succ]; first | done | rfl) | rfl | (simp; done))
  · (refine Has.as (by repeat' (first|with_reducible (first|assumption|apply J0|apply J1|apply J2|apply J3|apply J4|apply J5|apply J6|apply J7|apply J8|apply J9)|(with_reducible show _ ≠ _;first|omega|(simp;done)))) ?_; first | (with_reducible rfl) | (simp only [List.setIfInBounds_toArray, List.set_cons_zero, List.set_cons_succ]; first | done | rfl) | rfl | (simp; done))
  · (refine Has.as (by repeat' (first|with_reducible (first|assumption|apply J0|apply J1|apply J2|apply J3|apply J4|apply J5|apply J6|apply J7|apply J8|apply J9)|(with_reducible show _ ≠ _;first|omega|(simp;done)))) ?_; first | (with_reducible rfl) | (simp only [List.setIfInBounds_toArray, List.set_cons_zero, List.set_cons_succ]; first | done | rfl) | rfl | (simp; done))
  · (refine Has.as (by repeat' (first|with_reducible (first|assumption|apply J0|apply J1|apply J2|apply J3|apply J4|apply J5|apply J6|apply J7|apply J8|apply J9)|(with_reducible show _ ≠ _;first|omega|(simp;done)))) ?_; first | (with_reducible rfl) | (simp only [List.setIfInBounds_toArray, List.set_cons_zero, List.set_cons_succ]; first | done | rfl) | rfl | (simp; done))
  · (refine Has.as (by repeat' (first|with_reducible (first|assumption|apply J0|apply J1|apply J2|apply J3|apply J4|apply J5|apply J6|apply J7|apply J8|apply J9)|(with_reducible show _ ≠ _;first|omega|(simp;done)))) ?_; first | (with_reducible rfl) | (simp only [List.setIfInBounds_toArray, List.set_cons_zero, List.set_cons_succ]; first | done | rfl) | rfl | (simp; done))
  · have := hL.size; repeat' (first|with_reducible (first|exact lowRefl _|apply lowSet|apply lowDrew|apply lowDrewN|apply lowAlloc)|(with_reducible refine lowCall ?_ (by assumption))|(show (_ : Nat) ≤ _;first|(simp;done)|(simp;omega)|omega))
  have no : w.heap.size ≤ w5.heap.size := hL.size
  have nb : w.heap.size + 1 + 1 ≠ w5.heap.size := Nat.ne_of_lt l2
  have nc : ¬ w5.heap.size = w.heap.size + 1 + 1 := fun h => nb h.symm
  have nP : bP ≠ w5.heap.size := Nat.ne_of_lt lP
  have nQ : bQ ≠ w5.heap.size := Nat.ne_of_lt lQ
  have nR : bR ≠ w5.heap.size := Nat.ne_of_lt lR
  have nS : bS ≠ w5.heap.size := Nat.ne_of_lt lS
  generalize w5.heap.size = bO at *
  clear B0 B1 BP BQ BR BS B2 hL l2 lP lQ lR lS
  clear w5
  intro wm BP BQ BR BS BO B2 hL
  go_wp2
  go_loopw [12] (fun i wr => ∃ (j : Nat), j ≤ 3 ∧ i = .int .i64 j ∧ (1 ≤ j → r1 = 0) ∧ (2 ≤ j → r2 = 0) ∧ (3 ≤ j → r3 = 0) ∧ Has wr bP #[.int .i64 (a), .int .i64 (b), .int .i64 (c)] 30 ∧ Has wr bQ #[.int .i64 (x), .int .i64 (y), .int .i64 (z)] 30 ∧ Has wr bR #[.int .i64 (p), .int .i64 (q), .int .i64 (r)] 30 ∧ Has wr bS #[.int .i64 (u), .int .i64 (v), .int .i64 (t)] 30 ∧ Has wr bO #[.int .i64 0, .int .i64 0, .int .i64 0] 30 ∧ Has wr (w.heap.size + 1 + 1) #[.int .i64 0, .int .i64 0, .int .i64 0] 38 ∧ Below w.heap.size w wr) (fun i _ => 3 - (intOf i).toNat)
  case atStart => exact ⟨0, by omega, rfl, by omega, by omega, by omega, BP, BQ, BR, BS, BO, B2, hL⟩
  case round =>
    clear BP BQ BR BS BO B2 hL
    obtain ⟨j, hj, rfl, z1, z2, z3, BP, BQ, BR, BS, BO, B2, hL⟩ := hrel
    obtain ⟨f1, f2, f3, o⟩ := FF.out
    obtain rfl | rfl | rfl | rfl : j = 0 ∨ j = 1 ∨ j = 2 ∨ j = 3 := by omega
    · have HZ := Lib.hid (show True from trivial)
      go_upto_region 9 with fail
      (refine wp_region_held0 (by kernel_rfl) (by kernel_rfl) (fun _ _ _ d _ h => by cases d <;> exact h) ?_; intro Fq hFq)
      repeat (first | (refine wpHeld_skip (by rfl) ?_; ((try simp only [Act.put, List.setIfInBounds_toArray, List.set_cons_zero, List.set_cons_succ]))) | (refine wpHeld_run ?_ rfl ?_ ?_; rotate_left; (focus (intro w' hbq Kq hKq; go_simp; (try (rw [IntWalk.i64_in]; rotate_left; focus (constructor <;> omega))); first | exact hKq _ (Below.refl _ _) | first | (go_at_call 192; ((with_reducible refine (S1.out _).mono ?_); rintro e w2 ⟨rfl, hbr⟩; refine back ?_; exact hKq _ hbr)) | ((first | have CP := Jc (BP.below hbq) | have CP := Jc (BP.below (undrew hbq))); (first | have CQ := Jc (BQ.below hbq) | have CQ := Jc (BQ.below (undrew hbq))); (first | have CR := Jc (BR.below hbq) | have CR := Jc (BR.below (undrew hbq))); (first | have CS := Jc (BS.below hbq) | have CS := Jc (BS.below (undrew hbq))); go_simp; exact hKq _ (Below.refl _ _)))); ((try simp only [Act.put, List.setIfInBounds_toArray, List.set_cons_zero, List.set_cons_succ]))))
      (refine wpHeld_nil (hFq _ ?_); clear hFq; intro w' hbq; ((try (have B0 := Jb (b := w.heap.size) (by repeat' (first|with_reducible (first|assumption|apply J0|apply J1|apply J2|apply J3|apply J4|apply J5|apply J6|apply J7|apply J8|apply J9)|(with_reducible show _ ≠ _;first|omega|(simp;done)))) hbq; have C0 := Jc B0; have F0 := Jf B0)); (try (have B1 := Jb (b := w.heap.size + 1) (by repeat' (first|with_reducible (first|assumption|apply J0|apply J1|apply J2|apply J3|apply J4|apply J5|apply J6|apply J7|apply J8|apply J9)|(with_reducible show _ ≠ _;first|omega|(simp;done)))) hbq; have C1 := Jc B1; have F1 := Jf B1)); (try (have B2 := Jb (b := w.heap.size + 1 + 1) (by repeat' (first|with_reducible (first|assumption|apply J0|apply J1|apply J2|apply J3|apply J4|apply J5|apply J6|apply J7|apply J8|apply J9)|(with_reducible show _ ≠ _;first|omega|(simp;done)))) hbq; have C2 := Jc B2; have F2 := Jf B2)); (try (have BX := Jb (b := bX) (by repeat' (first|with_reducible (first|assumption|apply J0|apply J1|apply J2|apply J3|apply J4|apply J5|apply J6|apply J7|apply J8|apply J9)|(with_reducible show _ ≠ _;first|omega|(simp;done)))) hbq; have CX := Jc BX; have FX := Jf BX))))
      go_upto_region 10 with fail
      refine (fun (k : ∀ wm, Has wm bP #[.int .i64 (a), .int .i64 (b), .int .i64 (c)] 30 → Has wm bQ #[.int .i64 (x), .int .i64 (y), .int .i64 (z)] 30 → Has wm bR #[.int .i64 (p), .int .i64 (q), .int .i64 (r)] 30 → Has wm bS #[.int .i64 (u), .int .i64 (v), .int .i64 (t)] 30 → Has wm bO #[.int .i64 0, .int .i64 0, .int .i64 0] 30 → Has wm (w.heap.size + 1 + 1) #[.int .i64 0, .int .i64 0, .int .i64 0] 38 → Below w.heap.size w wm → Code.wp _ _ _ _ wm) => k _ ?_ ?_ ?_ ?_ ?_ ?_ ?_) ?_
      · first | exact BP.below (undrew hbq) | exact BP
      · first | exact BQ.below (undrew hbq) | exact BQ
      · first | exact BR.below (undrew hbq) | exact BR
      · first | exact BS.below (undrew hbq) | exact BS
      · first | exact BO.below (undrew hbq) | exact BO
      · first | exact B2.below (undrew hbq) | exact B2
      · exact lowCall hL (undrew hbq)
      clear BP BQ BR BS BO B2 hL hbq
      intro wn BP BQ BR BS BO B2 hL
      have CS := Jc BS
      have CO := Jc BO
      have FO := Jf BO
      rcases f1 with ⟨hr, h0⟩ | ⟨hr, h0, hx, hy⟩ | ⟨hr, h0, hx⟩ | ⟨hr, h0, hx⟩ | ⟨hr, h0, hx, hy⟩ | ⟨hr, h0, hx, hy⟩
      · clear f2 f3 o; have hr1 := hr; clear z1 z2 z3; subst h0; go_wp2; first | exact ⟨⟨1, by omega, rfl, fun _ => hr1, by omega, by omega, BP, BQ, BR, BS, BO, B2, hL⟩, by simp [intOf]⟩ | (refine ⟨?_, by simp [intOf]⟩; (repeat apply Exists.intro); exact ⟨⟨1, by omega, rfl, fun _ => hr1, by omega, by omega, BP, BQ, BR, BS, BO, B2, hL⟩, rfl⟩)
      · clear f2 f3 o; have hr1 := hr; clear z1 z2 z3
        have hne : ¬ u = 0 := h0
        have hxn : ¬ X1 = n := fun h => hx h.symm
        have hyn : ¬ Y1 = n := fun h => hy h.symm
        have d0 : (u != 0) = true := by simp [hne]
        have d1 : (X1 == n) = false := by simp [hxn]
        have d2 : (Y1 == n) = false := by simp [hyn]
        go_wp2; first | exact ⟨⟨1, by omega, rfl, fun _ => hr1, by omega, by omega, BP, BQ, BR, BS, BO, B2, hL⟩, by simp [intOf]⟩ | (refine ⟨?_, by simp [intOf]⟩; (repeat apply Exists.intro); exact ⟨⟨1, by omega, rfl, fun _ => hr1, by omega, by omega, BP, BQ, BR, BS, BO, B2, hL⟩, rfl⟩)
      · obtain ⟨rfl, rfl, rfl⟩ : X = -1 ∧ Y = 0 ∧ Z = 0 := by have hz := HZ.out; unfold OtE at o; omega
        clear f2 f3 o z1 z2 z3 HZ hr
        have hne : ¬ u = 0 := by omega
        have d0 : (u != 0) = true := by simp [hne]
        have hgt : 0 < u := by omega
        subst hx
        go_upto_region 14 with fail
        refine (fun (k : ∀ wz, Has wz bO #[.int .i64 (-1), .int .i64 (0), .int .i64 (0)] 30 → Has wz (w.heap.size + 1 + 1) #[.int .i64 0, .int .i64 0, .int .i64 0] 38 → Below w.heap.size w wz → Code.wp _ _ _ _ wz) => k _ ?_ ?_ ?_) ?_
        · (refine Has.as (by repeat' (first|with_reducible (first|assumption|apply J0|apply J1|apply J2|apply J3|apply J4|apply J5|apply J6|apply J7|apply J8|apply J9)|(with_reducible show _ ≠ _;first|omega|(simp;done)))) ?_; first | (with_reducible rfl) | (simp only [List.setIfInBounds_toArray, List.set_cons_zero, List.set_cons_succ]; first | done | rfl) | rfl | (simp; done))
        · (refine Has.as (by repeat' (first|with_reducible (first|assumption|apply J0|apply J1|apply J2|apply J3|apply J4|apply J5|apply J6|apply J7|apply J8|apply J9)|(with_reducible show _ ≠ _;first|omega|(simp;done)))) ?_; first | (with_reducible rfl) | (simp only [List.setIfInBounds_toArray, List.set_cons_zero, List.set_cons_succ]; first | done | rfl) | rfl | (simp; done))
        · repeat' (first|with_reducible (first|exact lowRefl _|apply lowSet|apply lowDrew|apply lowDrewN|apply lowAlloc)|(with_reducible refine lowCall ?_ (by assumption))|(show (_ : Nat) ≤ _;first|(simp;done)|(simp;omega)|omega))
        clear BP BQ BR BS BO B2 hL CS CO FO
        intro wz BO B2 hL
        have CO := Jc BO
        go_wp2_with (go_at_call 193; (with_reducible refine (l3Vec_any _ _ _ _).mono ?_); rintro e w' ⟨rfl, hbq⟩; have B22 := B2.below hbq; have C22 := Jc B22; have F22 := Jf B22; have hL2 := lowCall hL hbq)
        refine bodyPost_has (b := w.heap.size + 1 + 1) (T := 38) ?hB (fun wE hE => ?hres) rfl ⟨rfl, ?hlow⟩; (case hB => (refine Has.as (by repeat' (first|with_reducible (first|assumption|apply J0|apply J1|apply J2|apply J3|apply J4|apply J5|apply J6|apply J7|apply J8|apply J9)|(with_reducible show _ ≠ _;first|omega|(simp;done)))) ?_; first | (with_reducible rfl) | (simp only [List.setIfInBounds_toArray, List.set_cons_zero, List.set_cons_succ]; first | done | rfl) | rfl | (simp; done))); (case hres => have cE := Jc hE; simp only [results, Tryz.results129, go_sem]; simp [go_sem, cE]; done); (case hlow => repeat' (first|with_reducible (first|exact lowRefl _|apply lowSet|apply lowDrew|apply lowDrewN|apply lowAlloc)|(with_reducible refine lowCall ?_ (by assumption))|(show (_ : Nat) ≤ _;first|(simp;done)|(simp;omega)|omega)))
      · obtain ⟨rfl, rfl, rfl⟩ : X = 1 ∧ Y = 0 ∧ Z = 0 := by have hz := HZ.out; unfold OtE at o; omega
        clear f2 f3 o z1 z2 z3 HZ hr
        have hne : ¬ u = 0 := by omega
        have d0 : (u != 0) = true := by simp [hne]
        have hgt : ¬ 0 < u := by omega
        subst hx
        go_upto_region 14 with fail
        refine (fun (k : ∀ wz, Has wz bO #[.int .i64 (1), .int .i64 (0), .int .i64 (0)] 30 → Has wz (w.heap.size + 1 + 1) #[.int .i64 0, .int .i64 0, .int .i64 0] 38 → Below w.heap.size w wz → Code.wp _ _ _ _ wz) => k _ ?_ ?_ ?_) ?_
        · (refine Has.as (by repeat' (first|with_reducible (first|assumption|apply J0|apply J1|apply J2|apply J3|apply J4|apply J5|apply J6|apply J7|apply J8|apply J9)|(with_reducible show _ ≠ _;first|omega|(simp;done)))) ?_; first | (with_reducible rfl) | (simp only [List.setIfInBounds_toArray, List.set_cons_zero, List.set_cons_succ]; first | done | rfl) | rfl | (simp; done))
        · (refine Has.as (by repeat' (first|with_reducible (first|assumption|apply J0|apply J1|apply J2|apply J3|apply J4|apply J5|apply J6|apply J7|apply J8|apply J9)|(with_reducible show _ ≠ _;first|omega|(simp;done)))) ?_; first | (with_reducible rfl) | (simp only [List.setIfInBounds_toArray, List.set_cons_zero, List.set_cons_succ]; first | done | rfl) | rfl | (simp; done))
        · repeat' (first|with_reducible (first|exact lowRefl _|apply lowSet|apply lowDrew|apply lowDrewN|apply lowAlloc)|(with_reducible refine lowCall ?_ (by assumption))|(show (_ : Nat) ≤ _;first|(simp;done)|(simp;omega)|omega))
        clear BP BQ BR BS BO B2 hL CS CO FO
        intro wz BO B2 hL
        have CO := Jc BO
        go_wp2_with (go_at_call 193; (with_reducible refine (l3Vec_any _ _ _ _).mono ?_); rintro e w' ⟨rfl, hbq⟩; have B22 := B2.below hbq; have C22 := Jc B22; have F22 := Jf B22; have hL2 := lowCall hL hbq)
        refine bodyPost_has (b := w.heap.size + 1 + 1) (T := 38) ?hB (fun wE hE => ?hres) rfl ⟨rfl, ?hlow⟩; (case hB => (refine Has.as (by repeat' (first|with_reducible (first|assumption|apply J0|apply J1|apply J2|apply J3|apply J4|apply J5|apply J6|apply J7|apply J8|apply J9)|(with_reducible show _ ≠ _;first|omega|(simp;done)))) ?_; first | (with_reducible rfl) | (simp only [List.setIfInBounds_toArray, List.set_cons_zero, List.set_cons_succ]; first | done | rfl) | rfl | (simp; done))); (case hres => have cE := Jc hE; simp only [results, Tryz.results129, go_sem]; simp [go_sem, cE]; done); (case hlow => repeat' (first|with_reducible (first|exact lowRefl _|apply lowSet|apply lowDrew|apply lowDrewN|apply lowAlloc)|(with_reducible refine lowCall ?_ (by assumption))|(show (_ : Nat) ≤ _;first|(simp;done)|(simp;omega)|omega)))
      · obtain ⟨rfl, rfl, rfl⟩ : X = 1 ∧ Y = 0 ∧ Z = 0 := by have hz := HZ.out; unfold OtE at o; omega
        clear f2 f3 o z1 z2 z3 HZ hr
        have hne : ¬ u = 0 := by omega
        have d0 : (u != 0) = true := by simp [hne]
        have hgt : 0 < u := by omega
        have hxn : ¬ X1 = n := fun h => hx h.symm
        have d1 : (X1 == n) = false := by simp [hxn]
        subst hy
        go_upto_region 14 with fail
        refine (fun (k : ∀ wz, Has wz bO #[.int .i64 (1), .int .i64 (0), .int .i64 (0)] 30 → Has wz (w.heap.size + 1 + 1) #[.int .i64 0, .int .i64 0, .int .i64 0] 38 → Below w.heap.size w wz → Code.wp _ _ _ _ wz) => k _ ?_ ?_ ?_) ?_
        · (refine Has.as (by repeat' (first|with_reducible (first|assumption|apply J0|apply J1|apply J2|apply J3|apply J4|apply J5|apply J6|apply J7|apply J8|apply J9)|(with_reducible show _ ≠ _;first|omega|(simp;done)))) ?_; first | (with_reducible rfl) | (simp only [List.setIfInBounds_toArray, List.set_cons_zero, List.set_cons_succ]; first | done | rfl) | rfl | (simp; done))
        · (refine Has.as (by repeat' (first|with_reducible (first|assumption|apply J0|apply J1|apply J2|apply J3|apply J4|apply J5|apply J6|apply J7|apply J8|apply J9)|(with_reducible show _ ≠ _;first|omega|(simp;done)))) ?_; first | (with_reducible rfl) | (simp only [List.setIfInBounds_toArray, List.set_cons_zero, List.set_cons_succ]; first | done | rfl) | rfl | (simp; done))
        · repeat' (first|with_reducible (first|exact lowRefl _|apply lowSet|apply lowDrew|apply lowDrewN|apply lowAlloc)|(with_reducible refine lowCall ?_ (by assumption))|(show (_ : Nat) ≤ _;first|(simp;done)|(simp;omega)|omega))
        clear BP BQ BR BS BO B2 hL CS CO FO
        intro wz BO B2 hL
        have CO := Jc BO
        go_wp2_with (go_at_call 193; (with_reducible refine (l3Vec_any _ _ _ _).mono ?_); rintro e w' ⟨rfl, hbq⟩; have B22 := B2.below hbq; have C22 := Jc B22; have F22 := Jf B22; have hL2 := lowCall hL hbq)
        refine bodyPost_has (b := w.heap.size + 1 + 1) (T := 38) ?hB (fun wE hE => ?hres) rfl ⟨rfl, ?hlow⟩; (case hB => (refine Has.as (by repeat' (first|with_reducible (first|assumption|apply J0|apply J1|apply J2|apply J3|apply J4|apply J5|apply J6|apply J7|apply J8|apply J9)|(with_reducible show _ ≠ _;first|omega|(simp;done)))) ?_; first | (with_reducible rfl) | (simp only [List.setIfInBounds_toArray, List.set_cons_zero, List.set_cons_succ]; first | done | rfl) | rfl | (simp; done))); (case hres => have cE := Jc hE; simp only [results, Tryz.results129, go_sem]; simp [go_sem, cE]; done); (case hlow => repeat' (first|with_reducible (first|exact lowRefl _|apply lowSet|apply lowDrew|apply lowDrewN|apply lowAlloc)|(with_reducible refine lowCall ?_ (by assumption))|(show (_ : Nat) ≤ _;first|(simp;done)|(simp;omega)|omega)))
      · obtain ⟨rfl, rfl, rfl⟩ : X = -1 ∧ Y = 0 ∧ Z = 0 := by have hz := HZ.out; unfold OtE at o; omega
        clear f2 f3 o z1 z2 z3 HZ hr
        have hne : ¬ u = 0 := by omega
        have d0 : (u != 0) = true := by simp [hne]
        have hgt : ¬ 0 < u := by omega
        have hxn : ¬ X1 = n := fun h => hx h.symm
        have d1 : (X1 == n) = false := by simp [hxn]
        subst hy
        go_upto_region 14 with fail
        refine (fun (k : ∀ wz, Has wz bO #[.int .i64 (-1), .int .i64 (0), .int .i64 (0)] 30 → Has wz (w.heap.size + 1 + 1) #[.int .i64 0, .int .i64 0, .int .i64 0] 38 → Below w.heap.size w wz → Code.wp _ _ _ _ wz) => k _ ?_ ?_ ?_) ?_
        · (refine Has.as (by repeat' (first|with_reducible (first|assumption|apply J0|apply J1|apply J2|apply J3|apply J4|apply J5|apply J6|apply J7|apply J8|apply J9)|(with_reducible show _ ≠ _;first|omega|(simp;done)))) ?_; first | (with_reducible rfl) | (simp only [List.setIfInBounds_toArray, List.set_cons_zero, List.set_cons_succ]; first | done | rfl) | rfl | (simp; done))
        · (refine Has.as (by repeat' (first|with_reducible (first|assumption|apply J0|apply J1|apply J2|apply J3|apply J4|apply J5|apply J6|apply J7|apply J8|apply J9)|(with_reducible show _ ≠ _;first|omega|(simp;done)))) ?_; first | (with_reducible rfl) | (simp only [List.setIfInBounds_toArray, List.set_cons_zero, List.set_cons_succ]; first | done | rfl) | rfl | (simp; done))
        · repeat' (first|with_reducible (first|exact lowRefl _|apply lowSet|apply lowDrew|apply lowDrewN|apply lowAlloc)|(with_reducible refine lowCall ?_ (by assumption))|(show (_ : Nat) ≤ _;first|(simp;done)|(simp;omega)|omega))
        clear BP BQ BR BS BO B2 hL CS CO FO
        intro wz BO B2 hL
        have CO := Jc BO
        go_wp2_with (go_at_call 193; (with_reducible refine (l3Vec_any _ _ _ _).mono ?_); rintro e w' ⟨rfl, hbq⟩; have B22 := B2.below hbq; have C22 := Jc B22; have F22 := Jf B22; have hL2 := lowCall hL hbq)
        refine bodyPost_has (b := w.heap.size + 1 + 1) (T := 38) ?hB (fun wE hE => ?hres) rfl ⟨rfl, ?hlow⟩; (case hB => (refine Has.as (by repeat' (first|with_reducible (first|assumption|apply J0|apply J1|apply J2|apply J3|apply J4|apply J5|apply J6|apply J7|apply J8|apply J9)|(with_reducible show _ ≠ _;first|omega|(simp;done)))) ?_; first | (with_reducible rfl) | (simp only [List.setIfInBounds_toArray, List.set_cons_zero, List.set_cons_succ]; first | done | rfl) | rfl | (simp; done))); (case hres => have cE := Jc hE; simp only [results, Tryz.results129, go_sem]; simp [go_sem, cE]; done); (case hlow => repeat' (first|with_reducible (first|exact lowRefl _|apply lowSet|apply lowDrew|apply lowDrewN|apply lowAlloc)|(with_reducible refine lowCall ?_ (by assumption))|(show (_ : Nat) ≤ _;first|(simp;done)|(simp;omega)|omega)))
    · have HZ := Lib.hid (show True ∧ r1 = 0 from ⟨trivial, z1 (by omega)⟩)
      go_upto_region 9 with fail
      (refine wp_region_held0 (by kernel_rfl) (by kernel_rfl) (fun _ _ _ d _ h => by cases d <;> exact h) ?_; intro Fq hFq)
      repeat (first | (refine wpHeld_skip (by rfl) ?_; ((try simp only [Act.put, List.setIfInBounds_toArray, List.set_cons_zero, List.set_cons_succ]))) | (refine wpHeld_run ?_ rfl ?_ ?_; rotate_left; (focus (intro w' hbq Kq hKq; go_simp; (try (rw [IntWalk.i64_in]; rotate_left; focus (constructor <;> omega))); first | exact hKq _ (Below.refl _ _) | first | (go_at_call 192; ((with_reducible refine (S2.out _).mono ?_); rintro e w2 ⟨rfl, hbr⟩; refine back ?_; exact hKq _ hbr)) | ((first | have CP := Jc (BP.below hbq) | have CP := Jc (BP.below (undrew hbq))); (first | have CQ := Jc (BQ.below hbq) | have CQ := Jc (BQ.below (undrew hbq))); (first | have CR := Jc (BR.below hbq) | have CR := Jc (BR.below (undrew hbq))); (first | have CS := Jc (BS.below hbq) | have CS := Jc (BS.below (undrew hbq))); go_simp; exact hKq _ (Below.refl _ _)))); ((try simp only [Act.put, List.setIfInBounds_toArray, List.set_cons_zero, List.set_cons_succ]))))
      (refine wpHeld_nil (hFq _ ?_); clear hFq; intro w' hbq; ((try (have B0 := Jb (b := w.heap.size) (by repeat' (first|with_reducible (first|assumption|apply J0|apply J1|apply J2|apply J3|apply J4|apply J5|apply J6|apply J7|apply J8|apply J9)|(with_reducible show _ ≠ _;first|omega|(simp;done)))) hbq; have C0 := Jc B0; have F0 := Jf B0)); (try (have B1 := Jb (b := w.heap.size + 1) (by repeat' (first|with_reducible (first|assumption|apply J0|apply J1|apply J2|apply J3|apply J4|apply J5|apply J6|apply J7|apply J8|apply J9)|(with_reducible show _ ≠ _;first|omega|(simp;done)))) hbq; have C1 := Jc B1; have F1 := Jf B1)); (try (have B2 := Jb (b := w.heap.size + 1 + 1) (by repeat' (first|with_reducible (first|assumption|apply J0|apply J1|apply J2|apply J3|apply J4|apply J5|apply J6|apply J7|apply J8|apply J9)|(with_reducible show _ ≠ _;first|omega|(simp;done)))) hbq; have C2 := Jc B2; have F2 := Jf B2)); (try (have BX := Jb (b := bX) (by repeat' (first|with_reducible (first|assumption|apply J0|apply J1|apply J2|apply J3|apply J4|apply J5|apply J6|apply J7|apply J8|apply J9)|(with_reducible show _ ≠ _;first|omega|(simp;done)))) hbq; have CX := Jc BX; have FX := Jf BX))))
      go_upto_region 10 with fail
      refine (fun (k : ∀ wm, Has wm bP #[.int .i64 (a), .int .i64 (b), .int .i64 (c)] 30 → Has wm bQ #[.int .i64 (x), .int .i64 (y), .int .i64 (z)] 30 → Has wm bR #[.int .i64 (p), .int .i64 (q), .int .i64 (r)] 30 → Has wm bS #[.int .i64 (u), .int .i64 (v), .int .i64 (t)] 30 → Has wm bO #[.int .i64 0, .int .i64 0, .int .i64 0] 30 → Has wm (w.heap.size + 1 + 1) #[.int .i64 0, .int .i64 0, .int .i64 0] 38 → Below w.heap.size w wm → Code.wp _ _ _ _ wm) => k _ ?_ ?_ ?_ ?_ ?_ ?_ ?_) ?_
      · first | exact BP.below (undrew hbq) | exact BP
      · first | exact BQ.below (undrew hbq) | exact BQ
      · first | exact BR.below (undrew hbq) | exact BR
      · first | exact BS.below (undrew hbq) | exact BS
      · first | exact BO.below (undrew hbq) | exact BO
      · first | exact B2.below (undrew hbq) | exact B2
      · exact lowCall hL (undrew hbq)
      clear BP BQ BR BS BO B2 hL hbq
      intro wn BP BQ BR BS BO B2 hL
      have CS := Jc BS
      have CO := Jc BO
      have FO := Jf BO
      rcases f2 with ⟨hr, h0⟩ | ⟨hr, h0, hx, hy⟩ | ⟨hr, h0, hx⟩ | ⟨hr, h0, hx⟩ | ⟨hr, h0, hx, hy⟩ | ⟨hr, h0, hx, hy⟩
      · clear f1 f3 o; have hr1 := z1 (by omega); have hr2 := hr; clear z1 z2 z3; subst h0; go_wp2; first | exact ⟨⟨2, by omega, rfl, fun _ => hr1, fun _ => hr2, by omega, BP, BQ, BR, BS, BO, B2, hL⟩, by simp [intOf]⟩ | (refine ⟨?_, by simp [intOf]⟩; (repeat apply Exists.intro); exact ⟨⟨2, by omega, rfl, fun _ => hr1, fun _ => hr2, by omega, BP, BQ, BR, BS, BO, B2, hL⟩, rfl⟩)
      · clear f1 f3 o; have hr1 := z1 (by omega); have hr2 := hr; clear z1 z2 z3
        have hne : ¬ v = 0 := h0
        have hxn : ¬ X2 = n := fun h => hx h.symm
        have hyn : ¬ Y2 = n := fun h => hy h.symm
        have d0 : (v != 0) = true := by simp [hne]
        have d1 : (X2 == n) = false := by simp [hxn]
        have d2 : (Y2 == n) = false := by simp [hyn]
        go_wp2; first | exact ⟨⟨2, by omega, rfl, fun _ => hr1, fun _ => hr2, by omega, BP, BQ, BR, BS, BO, B2, hL⟩, by simp [intOf]⟩ | (refine ⟨?_, by simp [intOf]⟩; (repeat apply Exists.intro); exact ⟨⟨2, by omega, rfl, fun _ => hr1, fun _ => hr2, by omega, BP, BQ, BR, BS, BO, B2, hL⟩, rfl⟩)
      · obtain ⟨rfl, rfl, rfl⟩ : X = 0 ∧ Y = -1 ∧ Z = 0 := by have hz := HZ.out; unfold OtE at o; omega
        clear f1 f3 o z1 z2 z3 HZ hr
        have hne : ¬ v = 0 := by omega
        have d0 : (v != 0) = true := by simp [hne]
        have hgt : 0 < v := by omega
        subst hx
        go_upto_region 14 with fail
        refine (fun (k : ∀ wz, Has wz bO #[.int .i64 (0), .int .i64 (-1), .int .i64 (0)] 30 → Has wz (w.heap.size + 1 + 1) #[.int .i64 0, .int .i64 0, .int .i64 0] 38 → Below w.heap.size w wz → Code.wp _ _ _ _ wz) => k _ ?_ ?_ ?_) ?_
        · (refine Has.as (by repeat' (first|with_reducible (first|assumption|apply J0|apply J1|apply J2|apply J3|apply J4|apply J5|apply J6|apply J7|apply J8|apply J9)|(with_reducible show _ ≠ _;first|omega|(simp;done)))) ?_; first | (with_reducible rfl) | (simp only [List.setIfInBounds_toArray, List.set_cons_zero, List.set_cons_succ]; first | done | rfl) | rfl | (simp; done))
        · (refine Has.as (by repeat' (first|with_reducible (first|assumption|apply J0|apply J1|apply J2|apply J3|apply J4|apply J5|apply J6|apply J7|apply J8|apply J9)|(with_reducible show _ ≠ _;first|omega|(simp;done)))) ?_; first | (with_reducible rfl) | (simp only [List.setIfInBounds_toArray, List.set_cons_zero, List.set_cons_succ]; first | done | rfl) | rfl | (simp; done))
        · repeat' (first|with_reducible (first|exact lowRefl _|apply lowSet|apply lowDrew|apply lowDrewN|apply lowAlloc)|(with_reducible refine lowCall ?_ (by assumption))|(show (_ : Nat) ≤ _;first|(simp;done)|(simp;omega)|omega))
        clear BP BQ BR BS BO B2 hL CS CO FO
        intro wz BO B2 hL
        have CO := Jc BO
        go_wp2_with (go_at_call 193; (with_reducible refine (l3Vec_any _ _ _ _).mono ?_); rintro e w' ⟨rfl, hbq⟩; have B22 := B2.below hbq; have C22 := Jc B22; have F22 := Jf B22; have hL2 := lowCall hL hbq)
        refine bodyPost_has (b := w.heap.size + 1 + 1) (T := 38) ?hB (fun wE hE => ?hres) rfl ⟨rfl, ?hlow⟩; (case hB => (refine Has.as (by repeat' (first|with_reducible (first|assumption|apply J0|apply J1|apply J2|apply J3|apply J4|apply J5|apply J6|apply J7|apply J8|apply J9)|(with_reducible show _ ≠ _;first|omega|(simp;done)))) ?_; first | (with_reducible rfl) | (simp only [List.setIfInBounds_toArray, List.set_cons_zero, List.set_cons_succ]; first | done | rfl) | rfl | (simp; done))); (case hres => have cE := Jc hE; simp only [results, Tryz.results129, go_sem]; simp [go_sem, cE]; done); (case hlow => repeat' (first|with_reducible (first|exact lowRefl _|apply lowSet|apply lowDrew|apply lowDrewN|apply lowAlloc)|(with_reducible refine lowCall ?_ (by assumption))|(show (_ : Nat) ≤ _;first|(simp;done)|(simp;omega)|omega)))
      · obtain ⟨rfl, rfl, rfl⟩ : X = 0 ∧ Y = 1 ∧ Z = 0 := by have hz := HZ.out; unfold OtE at o; omega
        clear f1 f3 o z1 z2 z3 HZ hr
        have hne : ¬ v = 0 := by omega
        have d0 : (v != 0) = true := by simp [hne]
        have hgt : ¬ 0 < v := by omega
        subst hx
        go_upto_region 14 with fail
        refine (fun (k : ∀ wz, Has wz bO #[.int .i64 (0), .int .i64 (1), .int .i64 (0)] 30 → Has wz (w.heap.size + 1 + 1) #[.int .i64 0, .int .i64 0, .int .i64 0] 38 → Below w.heap.size w wz → Code.wp _ _ _ _ wz) => k _ ?_ ?_ ?_) ?_
        · (refine Has.as (by repeat' (first|with_reducible (first|assumption|apply J0|apply J1|apply J2|apply J3|apply J4|apply J5|apply J6|apply J7|apply J8|apply J9)|(with_reducible show _ ≠ _;first|omega|(simp;done)))) ?_; first | (with_reducible rfl) | (simp only [List.setIfInBounds_toArray, List.set_cons_zero, List.set_cons_succ]; first | done | rfl) | rfl | (simp; done))
        · (refine Has.as (by repeat' (first|with_reducible (first|assumption|apply J0|apply J1|apply J2|apply J3|apply J4|apply J5|apply J6|apply J7|apply J8|apply J9)|(with_reducible show _ ≠ _;first|omega|(simp;done)))) ?_; first | (with_reducible rfl) | (simp only [List.setIfInBounds_toArray, List.set_cons_zero, List.set_cons_succ]; first | done | rfl) | rfl | (simp; done))
        · repeat' (first|with_reducible (first|exact lowRefl _|apply lowSet|apply lowDrew|apply lowDrewN|apply lowAlloc)|(with_reducible refine lowCall ?_ (by assumption))|(show (_ : Nat) ≤ _;first|(simp;done)|(simp;omega)|omega))
        clear BP BQ BR BS BO B2 hL CS CO FO
        intro wz BO B2 hL
        have CO := Jc BO
        go_wp2_with (go_at_call 193; (with_reducible refine (l3Vec_any _ _ _ _).mono ?_); rintro e w' ⟨rfl, hbq⟩; have B22 := B2.below hbq; have C22 := Jc B22; have F22 := Jf B22; have hL2 := lowCall hL hbq)
        refine bodyPost_has (b := w.heap.size + 1 + 1) (T := 38) ?hB (fun wE hE => ?hres) rfl ⟨rfl, ?hlow⟩; (case hB => (refine Has.as (by repeat' (first|with_reducible (first|assumption|apply J0|apply J1|apply J2|apply J3|apply J4|apply J5|apply J6|apply J7|apply J8|apply J9)|(with_reducible show _ ≠ _;first|omega|(simp;done)))) ?_; first | (with_reducible rfl) | (simp only [List.setIfInBounds_toArray, List.set_cons_zero, List.set_cons_succ]; first | done | rfl) | rfl | (simp; done))); (case hres => have cE := Jc hE; simp only [results, Tryz.results129, go_sem]; simp [go_sem, cE]; done); (case hlow => repeat' (first|with_reducible (first|exact lowRefl _|apply lowSet|apply lowDrew|apply lowDrewN|apply lowAlloc)|(with_reducible refine lowCall ?_ (by assumption))|(show (_ : Nat) ≤ _;first|(simp;done)|(simp;omega)|omega)))
      · obtain ⟨rfl, rfl, rfl⟩ : X = 0 ∧ Y = 1 ∧ Z = 0 := by have hz := HZ.out; unfold OtE at o; omega
        clear f1 f3 o z1 z2 z3 HZ hr
        have hne : ¬ v = 0 := by omega
        have d0 : (v != 0) = true := by simp [hne]
        have hgt : 0 < v := by omega
        have hxn : ¬ X2 = n := fun h => hx h.symm
        have d1 : (X2 == n) = false := by simp [hxn]
        subst hy
        go_upto_region 14 with fail
        refine (fun (k : ∀ wz, Has wz bO #[.int .i64 (0), .int .i64 (1), .int .i64 (0)] 30 → Has wz (w.heap.size + 1 + 1) #[.int .i64 0, .int .i64 0, .int .i64 0] 38 → Below w.heap.size w wz → Code.wp _ _ _ _ wz) => k _ ?_ ?_ ?_) ?_
        · (refine Has.as (by repeat' (first|with_reducible (first|assumption|apply J0|apply J1|apply J2|apply J3|apply J4|apply J5|apply J6|apply J7|apply J8|apply J9)|(with_reducible show _ ≠ _;first|omega|(simp;done)))) ?_; first | (with_reducible rfl) | (simp only [List.setIfInBounds_toArray, List.set_cons_zero, List.set_cons_succ]; first | done | rfl) | rfl | (simp; done))
        · (refine Has.as (by repeat' (first|with_reducible (first|assumption|apply J0|apply J1|apply J2|apply J3|apply J4|apply J5|apply J6|apply J7|apply J8|apply J9)|(with_reducible show _ ≠ _;first|omega|(simp;done)))) ?_; first | (with_reducible rfl) | (simp only [List.setIfInBounds_toArray, List.set_cons_zero, List.set_cons_succ]; first | done | rfl) | rfl | (simp; done))
        · repeat' (first|with_reducible (first|exact lowRefl _|apply lowSet|apply lowDrew|apply lowDrewN|apply lowAlloc)|(with_reducible refine lowCall ?_ (by assumption))|(show (_ : Nat) ≤ _;first|(simp;done)|(simp;omega)|omega))
        clear BP BQ BR BS BO B2 hL CS CO FO
        intro wz BO B2 hL
        have CO := Jc BO
        go_wp2_with (go_at_call 193; (with_reducible refine (l3Vec_any _ _ _ _).mono ?_); rintro e w' ⟨rfl, hbq⟩; have B22 := B2.below hbq; have C22 := Jc B22; have F22 := Jf B22; have hL2 := lowCall hL hbq)
        refine bodyPost_has (b := w.heap.size + 1 + 1) (T := 38) ?hB (fun wE hE => ?hres) rfl ⟨rfl, ?hlow⟩; (case hB => (refine Has.as (by repeat' (first|with_reducible (first|assumption|apply J0|apply J1|apply J2|apply J3|apply J4|apply J5|apply J6|apply J7|apply J8|apply J9)|(with_reducible show _ ≠ _;first|omega|(simp;done)))) ?_; first | (with_reducible rfl) | (simp only [List.setIfInBounds_toArray, List.set_cons_zero, List.set_cons_succ]; first | done | rfl) | rfl | (simp; done))); (case hres => have cE := Jc hE; simp only [results, Tryz.results129, go_sem]; simp [go_sem, cE]; done); (case hlow => repeat' (first|with_reducible (first|exact lowRefl _|apply lowSet|apply lowDrew|apply lowDrewN|apply lowAlloc)|(with_reducible refine lowCall ?_ (by assumption))|(show (_ : Nat) ≤ _;first|(simp;done)|(simp;omega)|omega)))
      · obtain ⟨rfl, rfl, rfl⟩ : X = 0 ∧ Y = -1 ∧ Z = 0 := by have hz := HZ.out; unfold OtE at o; omega
        clear f1 f3 o z1 z2 z3 HZ hr
        have hne : ¬ v = 0 := by omega
        have d0 : (v != 0) = true := by simp [hne]
        have hgt : ¬ 0 < v := by omega
        have hxn : ¬ X2 = n := fun h => hx h.symm
        have d1 : (X2 == n) = false := by simp [hxn]
        subst hy
        go_upto_region 14 with fail
        refine (fun (k : ∀ wz, Has wz bO #[.int .i64 (0), .int .i64 (-1), .int .i64 (0)] 30 → Has wz (w.heap.size + 1 + 1) #[.int .i64 0, .int .i64 0, .int .i64 0] 38 → Below w.heap.size w wz → Code.wp _ _ _ _ wz) => k _ ?_ ?_ ?_) ?_
        · (refine Has.as (by repeat' (first|with_reducible (first|assumption|apply J0|apply J1|apply J2|apply J3|apply J4|apply J5|apply J6|apply J7|apply J8|apply J9)|(with_reducible show _ ≠ _;first|omega|(simp;done)))) ?_; first | (with_reducible rfl) | (simp only [List.setIfInBounds_toArray, List.set_cons_zero, List.set_cons_succ]; first | done | rfl) | rfl | (simp; done))
        · (refine Has.as (by repeat' (first|with_reducible (first|assumption|apply J0|apply J1|apply J2|apply J3|apply J4|apply J5|apply J6|apply J7|apply J8|apply J9)|(with_reducible show _ ≠ _;first|omega|(simp;done)))) ?_; first | (with_reducible rfl) | (simp only [List.setIfInBounds_toArray, List.set_cons_zero, List.set_cons_succ]; first | done | rfl) | rfl | (simp; done))
        · repeat' (first|with_reducible (first|exact lowRefl _|apply lowSet|apply lowDrew|apply lowDrewN|apply lowAlloc)|(with_reducible refine lowCall ?_ (by assumption))|(show (_ : Nat) ≤ _;first|(simp;done)|(simp;omega)|omega))
        clear BP BQ BR BS BO B2 hL CS CO FO
        intro wz BO B2 hL
        have CO := Jc BO
        go_wp2_with (go_at_call 193; (with_reducible refine (l3Vec_any _ _ _ _).mono ?_); rintro e w' ⟨rfl, hbq⟩; have B22 := B2.below hbq; have C22 := Jc B22; have F22 := Jf B22; have hL2 := lowCall hL hbq)
        refine bodyPost_has (b := w.heap.size + 1 + 1) (T := 38) ?hB (fun wE hE => ?hres) rfl ⟨rfl, ?hlow⟩; (case hB => (refine Has.as (by repeat' (first|with_reducible (first|assumption|apply J0|apply J1|apply J2|apply J3|apply J4|apply J5|apply J6|apply J7|apply J8|apply J9)|(with_reducible show _ ≠ _;first|omega|(simp;done)))) ?_; first | (with_reducible rfl) | (simp only [List.setIfInBounds_toArray, List.set_cons_zero, List.set_cons_succ]; first | done | rfl) | rfl | (simp; done))); (case hres => have cE := Jc hE; simp only [results, Tryz.results129, go_sem]; simp [go_sem, cE]; done); (case hlow => repeat' (first|with_reducible (first|exact lowRefl _|apply lowSet|apply lowDrew|apply lowDrewN|apply lowAlloc)|(with_reducible refine lowCall ?_ (by assumption))|(show (_ : Nat) ≤ _;first|(simp;done)|(simp;omega)|omega)))
    · have HZ := Lib.hid (show True ∧ r1 = 0 ∧ r2 = 0 from ⟨trivial, z1 (by omega), z2 (by omega)⟩)
      go_upto_region 9 with fail
      (refine wp_region_held0 (by kernel_rfl) (by kernel_rfl) (fun _ _ _ d _ h => by cases d <;> exact h) ?_; intro Fq hFq)
      repeat (first | (refine wpHeld_skip (by rfl) ?_; ((try simp only [Act.put, List.setIfInBounds_toArray, List.set_cons_zero, List.set_cons_succ]))) | (refine wpHeld_run ?_ rfl ?_ ?_; rotate_left; (focus (intro w' hbq Kq hKq; go_simp; (try (rw [IntWalk.i64_in]; rotate_left; focus (constructor <;> omega))); first | exact hKq _ (Below.refl _ _) | first | (go_at_call 192; ((with_reducible refine (S3.out _).mono ?_); rintro e w2 ⟨rfl, hbr⟩; refine back ?_; exact hKq _ hbr)) | ((first | have CP := Jc (BP.below hbq) | have CP := Jc (BP.below (undrew hbq))); (first | have CQ := Jc (BQ.below hbq) | have CQ := Jc (BQ.below (undrew hbq))); (first | have CR := Jc (BR.below hbq) | have CR := Jc (BR.below (undrew hbq))); (first | have CS := Jc (BS.below hbq) | have CS := Jc (BS.below (undrew hbq))); go_simp; exact hKq _ (Below.refl _ _)))); ((try simp only [Act.put, List.setIfInBounds_toArray, List.set_cons_zero, List.set_cons_succ]))))
      (refine wpHeld_nil (hFq _ ?_); clear hFq; intro w' hbq; ((try (have B0 := Jb (b := w.heap.size) (by repeat' (first|with_reducible (first|assumption|apply J0|apply J1|apply J2|apply J3|apply J4|apply J5|apply J6|apply J7|apply J8|apply J9)|(with_reducible show _ ≠ _;first|omega|(simp;done)))) hbq; have C0 := Jc B0; have F0 := Jf B0)); (try (have B1 := Jb (b := w.heap.size + 1) (by repeat' (first|with_reducible (first|assumption|apply J0|apply J1|apply J2|apply J3|apply J4|apply J5|apply J6|apply J7|apply J8|apply J9)|(with_reducible show _ ≠ _;first|omega|(simp;done)))) hbq; have C1 := Jc B1; have F1 := Jf B1)); (try (have B2 := Jb (b := w.heap.size + 1 + 1) (by repeat' (first|with_reducible (first|assumption|apply J0|apply J1|apply J2|apply J3|apply J4|apply J5|apply J6|apply J7|apply J8|apply J9)|(with_reducible show _ ≠ _;first|omega|(simp;done)))) hbq; have C2 := Jc B2; have F2 := Jf B2)); (try (have BX := Jb (b := bX) (by repeat' (first|with_reducible (first|assumption|apply J0|apply J1|apply J2|apply J3|apply J4|apply J5|apply J6|apply J7|apply J8|apply J9)|(with_reducible show _ ≠ _;first|omega|(simp;done)))) hbq; have CX := Jc BX; have FX := Jf BX))))
      go_upto_region 10 with fail
      refine (fun (k : ∀ wm, Has wm bP #[.int .i64 (a), .int .i64 (b), .int .i64 (c)] 30 → Has wm bQ #[.int .i64 (x), .int .i64 (y), .int .i64 (z)] 30 → Has wm bR #[.int .i64 (p), .int .i64 (q), .int .i64 (r)] 30 → Has wm bS #[.int .i64 (u), .int .i64 (v), .int .i64 (t)] 30 → Has wm bO #[.int .i64 0, .int .i64 0, .int .i64 0] 30 → Has wm (w.heap.size + 1 + 1) #[.int .i64 0, .int .i64 0, .int .i64 0] 38 → Below w.heap.size w wm → Code.wp _ _ _ _ wm) => k _ ?_ ?_ ?_ ?_ ?_ ?_ ?_) ?_
      · first | exact BP.below (undrew hbq) | exact BP
      · first | exact BQ.below (undrew hbq) | exact BQ
      · first | exact BR.below (undrew hbq) | exact BR
      · first | exact BS.below (undrew hbq) | exact BS
      · first | exact BO.below (undrew hbq) | exact BO
      · first | exact B2.below (undrew hbq) | exact B2
      · exact lowCall hL (undrew hbq)
      clear BP BQ BR BS BO B2 hL hbq
      intro wn BP BQ BR BS BO B2 hL
      have CS := Jc BS
      have CO := Jc BO
      have FO := Jf BO
      rcases f3 with ⟨hr, h0⟩ | ⟨hr, h0, hx, hy⟩ | ⟨hr, h0, hx⟩ | ⟨hr, h0, hx⟩ | ⟨hr, h0, hx, hy⟩ | ⟨hr, h0, hx, hy⟩
      · clear f1 f2 o; have hr1 := z1 (by omega); have hr2 := z2 (by omega); have hr3 := hr; clear z1 z2 z3; subst h0; go_wp2; first | exact ⟨⟨3, by omega, rfl, fun _ => hr1, fun _ => hr2, fun _ => hr3, BP, BQ, BR, BS, BO, B2, hL⟩, by simp [intOf]⟩ | (refine ⟨?_, by simp [intOf]⟩; (repeat apply Exists.intro); exact ⟨⟨3, by omega, rfl, fun _ => hr1, fun _ => hr2, fun _ => hr3, BP, BQ, BR, BS, BO, B2, hL⟩, rfl⟩)
      · clear f1 f2 o; have hr1 := z1 (by omega); have hr2 := z2 (by omega); have hr3 := hr; clear z1 z2 z3
        have hne : ¬ t = 0 := h0
        have hxn : ¬ X3 = n := fun h => hx h.symm
        have hyn : ¬ Y3 = n := fun h => hy h.symm
        have d0 : (t != 0) = true := by simp [hne]
        have d1 : (X3 == n) = false := by simp [hxn]
        have d2 : (Y3 == n) = false := by simp [hyn]
        go_wp2; first | exact ⟨⟨3, by omega, rfl, fun _ => hr1, fun _ => hr2, fun _ => hr3, BP, BQ, BR, BS, BO, B2, hL⟩, by simp [intOf]⟩ | (refine ⟨?_, by simp [intOf]⟩; (repeat apply Exists.intro); exact ⟨⟨3, by omega, rfl, fun _ => hr1, fun _ => hr2, fun _ => hr3, BP, BQ, BR, BS, BO, B2, hL⟩, rfl⟩)
      · obtain ⟨rfl, rfl, rfl⟩ : X = 0 ∧ Y = 0 ∧ Z = -1 := by have hz := HZ.out; unfold OtE at o; omega
        clear f1 f2 o z1 z2 z3 HZ hr
        have hne : ¬ t = 0 := by omega
        have d0 : (t != 0) = true := by simp [hne]
        have hgt : 0 < t := by omega
        subst hx
        go_upto_region 14 with fail
        refine (fun (k : ∀ wz, Has wz bO #[.int .i64 (0), .int .i64 (0), .int .i64 (-1)] 30 → Has wz (w.heap.size + 1 + 1) #[.int .i64 0, .int .i64 0, .int .i64 0] 38 → Below w.heap.size w wz → Code.wp _ _ _ _ wz) => k _ ?_ ?_ ?_) ?_
        · (refine Has.as (by repeat' (first|with_reducible (first|assumption|apply J0|apply J1|apply J2|apply J3|apply J4|apply J5|apply J6|apply J7|apply J8|apply J9)|(with_reducible show _ ≠ _;first|omega|(simp;done)))) ?_; first | (with_reducible rfl) | (simp only [List.setIfInBounds_toArray, List.set_cons_zero, List.set_cons_succ]; first | done | rfl) | rfl | (simp; done))
        · (refine Has.as (by repeat' (first|with_reducible (first|assumption|apply J0|apply J1|apply J2|apply J3|apply J4|apply J5|apply J6|apply J7|apply J8|apply J9)|(with_reducible show _ ≠ _;first|omega|(simp;done)))) ?_; first | (with_reducible rfl) | (simp only [List.setIfInBounds_toArray, List.set_cons_zero, List.set_cons_succ]; first | done | rfl) | rfl | (simp; done))
        · repeat' (first|with_reducible (first|exact lowRefl _|apply lowSet|apply lowDrew|apply lowDrewN|apply lowAlloc)|(with_reducible refine lowCall ?_ (by assumption))|(show (_ : Nat) ≤ _;first|(simp;done)|(simp;omega)|omega))
        clear BP BQ BR BS BO B2 hL CS CO FO
        intro wz BO B2 hL
        have CO := Jc BO
        go_wp2_with (go_at_call 193; (with_reducible refine (l3Vec_any _ _ _ _).mono ?_); rintro e w' ⟨rfl, hbq⟩; have B22 := B2.below hbq; have C22 := Jc B22; have F22 := Jf B22; have hL2 := lowCall hL hbq)
        refine bodyPost_has (b := w.heap.size + 1 + 1) (T := 38) ?hB (fun wE hE => ?hres) rfl ⟨rfl, ?hlow⟩; (case hB => (refine Has.as (by repeat' (first|with_reducible (first|assumption|apply J0|apply J1|apply J2|apply J3|apply J4|apply J5|apply J6|apply J7|apply J8|apply J9)|(with_reducible show _ ≠ _;first|omega|(simp;done)))) ?_; first | (with_reducible rfl) | (simp only [List.setIfInBounds_toArray, List.set_cons_zero, List.set_cons_succ]; first | done | rfl) | rfl | (simp; done))); (case hres => have cE := Jc hE; simp only [results, Tryz.results129, go_sem]; simp [go_sem, cE]; done); (case hlow => repeat' (first|with_reducible (first|exact lowRefl _|apply lowSet|apply lowDrew|apply lowDrewN|apply lowAlloc)|(with_reducible refine lowCall ?_ (by assumption))|(show (_ : Nat) ≤ _;first|(simp;done)|(simp;omega)|omega)))
      · obtain ⟨rfl, rfl, rfl⟩ : X = 0 ∧ Y = 0 ∧ Z = 1 := by have hz := HZ.out; unfold OtE at o; omega
        clear f1 f2 o z1 z2 z3 HZ hr
        have hne : ¬ t = 0 := by omega
        have d0 : (t != 0) = true := by simp [hne]
        have hgt : ¬ 0 < t := by omega
        subst hx
        go_upto_region 14 with fail
        refine (fun (k : ∀ wz, Has wz bO #[.int .i64 (0), .int .i64 (0), .int .i64 (1)] 30 → Has wz (w.heap.size + 1 + 1) #[.int .i64 0, .int .i64 0, .int .i64 0] 38 → Below w.heap.size w wz → Code.wp _ _ _ _ wz) => k _ ?_ ?_ ?_) ?_
        · (refine Has.as (by repeat' (first|with_reducible (first|assumption|apply J0|apply J1|apply J2|apply J3|apply J4|apply J5|apply J6|apply J7|apply J8|apply J9)|(with_reducible show _ ≠ _;first|omega|(simp;done)))) ?_; first | (with_reducible rfl) | (simp only [List.setIfInBounds_toArray, List.set_cons_zero, List.set_cons_succ]; first | done | rfl) | rfl | (simp; done))
        · (refine Has.as (by repeat' (first|with_reducible (first|assumption|apply J0|apply J1|apply J2|apply J3|apply J4|apply J5|apply J6|apply J7|apply J8|apply J9)|(with_reducible show _ ≠ _;first|omega|(simp;done)))) ?_; first | (with_reducible rfl) | (simp only [List.setIfInBounds_toArray, List.set_cons_zero, List.set_cons_succ]; first | done | rfl) | rfl | (simp; done))
        · repeat' (first|with_reducible (first|exact lowRefl _|apply lowSet|apply lowDrew|apply lowDrewN|apply lowAlloc)|(with_reducible refine lowCall ?_ (by assumption))|(show (_ : Nat) ≤ _;first|(simp;done)|(simp;omega)|omega))
        clear BP BQ BR BS BO B2 hL CS CO FO
        intro wz BO B2 hL
        have CO := Jc BO
        go_wp2_with (go_at_call 193; (with_reducible refine (l3Vec_any _ _ _ _).mono ?_); rintro e w' ⟨rfl, hbq⟩; have B22 := B2.below hbq; have C22 := Jc B22; have F22 := Jf B22; have hL2 := lowCall hL hbq)
        refine bodyPost_has (b := w.heap.size + 1 + 1) (T := 38) ?hB (fun wE hE => ?hres) rfl ⟨rfl, ?hlow⟩; (case hB => (refine Has.as (by repeat' (first|with_reducible (first|assumption|apply J0|apply J1|apply J2|apply J3|apply J4|apply J5|apply J6|apply J7|apply J8|apply J9)|(with_reducible show _ ≠ _;first|omega|(simp;done)))) ?_; first | (with_reducible rfl) | (simp only [List.setIfInBounds_toArray, List.set_cons_zero, List.set_cons_succ]; first | done | rfl) | rfl | (simp; done))); (case hres => have cE := Jc hE; simp only [results, Tryz.results129, go_sem]; simp [go_sem, cE]; done); (case hlow => repeat' (first|with_reducible (first|exact lowRefl _|apply lowSet|apply lowDrew|apply lowDrewN|apply lowAlloc)|(with_reducible refine lowCall ?_ (by assumption))|(show (_ : Nat) ≤ _;first|(simp;done)|(simp;omega)|omega)))
      · obtain ⟨rfl, rfl, rfl⟩ : X = 0 ∧ Y = 0 ∧ Z = 1 := by have hz := HZ.out; unfold OtE at o; omega
        clear f1 f2 o z1 z2 z3 HZ hr
        have hne : ¬ t = 0 := by omega
        have d0 : (t != 0) = true := by simp [hne]
        have hgt : 0 < t := by omega
        have hxn : ¬ X3 = n := fun h => hx h.symm
        have d1 : (X3 == n) = false := by simp [hxn]
        subst hy
        go_upto_region 14 with fail
        refine (fun (k : ∀ wz, Has wz bO #[.int .i64 (0), .int .i64 (0), .int .i64 (1)] 30 → Has wz (w.heap.size + 1 + 1) #[.int .i64 0, .int .i64 0, .int .i64 0] 38 → Below w.heap.size w wz → Code.wp _ _ _ _ wz) => k _ ?_ ?_ ?_) ?_
        · (refine Has.as (by repeat' (first|with_reducible (first|assumption|apply J0|apply J1|apply J2|apply J3|apply J4|apply J5|apply J6|apply J7|apply J8|apply J9)|(with_reducible show _ ≠ _;first|omega|(simp;done)))) ?_; first | (with_reducible rfl) | (simp only [List.setIfInBounds_toArray, List.set_cons_zero, List.set_cons_succ]; first | done | rfl) | rfl | (simp; done))
        · (refine Has.as (by repeat' (first|with_reducible (first|assumption|apply J0|apply J1|apply J2|apply J3|apply J4|apply J5|apply J6|apply J7|apply J8|apply J9)|(with_reducible show _ ≠ _;first|omega|(simp;done)))) ?_; first | (with_reducible rfl) | (simp only [List.setIfInBounds_toArray, List.set_cons_zero, List.set_cons_succ]; first | done | rfl) | rfl | (simp; done))
        · repeat' (first|with_reducible (first|exact lowRefl _|apply lowSet|apply lowDrew|apply lowDrewN|apply lowAlloc)|(with_reducible refine lowCall ?_ (by assumption))|(show (_ : Nat) ≤ _;first|(simp;done)|(simp;omega)|omega))
        clear BP BQ BR BS BO B2 hL CS CO FO
        intro wz BO B2 hL
        have CO := Jc BO
        go_wp2_with (go_at_call 193; (with_reducible refine (l3Vec_any _ _ _ _).mono ?_); rintro e w' ⟨rfl, hbq⟩; have B22 := B2.below hbq; have C22 := Jc B22; have F22 := Jf B22; have hL2 := lowCall hL hbq)
        refine bodyPost_has (b := w.heap.size + 1 + 1) (T := 38) ?hB (fun wE hE => ?hres) rfl ⟨rfl, ?hlow⟩; (case hB => (refine Has.as (by repeat' (first|with_reducible (first|assumption|apply J0|apply J1|apply J2|apply J3|apply J4|apply J5|apply J6|apply J7|apply J8|apply J9)|(with_reducible show _ ≠ _;first|omega|(simp;done)))) ?_; first | (with_reducible rfl) | (simp only [List.setIfInBounds_toArray, List.set_cons_zero, List.set_cons_succ]; first | done | rfl) | rfl | (simp; done))); (case hres => have cE := Jc hE; simp only [results, Tryz.results129, go_sem]; simp [go_sem, cE]; done); (case hlow => repeat' (first|with_reducible (first|exact lowRefl _|apply lowSet|apply lowDrew|apply lowDrewN|apply lowAlloc)|(with_reducible refine lowCall ?_ (by assumption))|(show (_ : Nat) ≤ _;first|(simp;done)|(simp;omega)|omega)))
      · obtain ⟨rfl, rfl, rfl⟩ : X = 0 ∧ Y = 0 ∧ Z = -1 := by have hz := HZ.out; unfold OtE at o; omega
        clear f1 f2 o z1 z2 z3 HZ hr
        have hne : ¬ t = 0 := by omega
        have d0 : (t != 0) = true := by simp [hne]
        have hgt : ¬ 0 < t := by omega
        have hxn : ¬ X3 = n := fun h => hx h.symm
        have d1 : (X3 == n) = false := by simp [hxn]
        subst hy
        go_upto_region 14 with fail
        refine (fun (k : ∀ wz, Has wz bO #[.int .i64 (0), .int .i64 (0), .int .i64 (-1)] 30 → Has wz (w.heap.size + 1 + 1) #[.int .i64 0, .int .i64 0, .int .i64 0] 38 → Below w.heap.size w wz → Code.wp _ _ _ _ wz) => k _ ?_ ?_ ?_) ?_
        · (refine Has.as (by repeat' (first|with_reducible (first|assumption|apply J0|apply J1|apply J2|apply J3|apply J4|apply J5|apply J6|apply J7|apply J8|apply J9)|(with_reducible show _ ≠ _;first|omega|(simp;done)))) ?_; first | (with_reducible rfl) | (simp only [List.setIfInBounds_toArray, List.set_cons_zero, List.set_cons_succ]; first | done | rfl) | rfl | (simp; done))
        · (refine Has.as (by repeat' (first|with_reducible (first|assumption|apply J0|apply J1|apply J2|apply J3|apply J4|apply J5|apply J6|apply J7|apply J8|apply J9)|(with_reducible show _ ≠ _;first|omega|(simp;done)))) ?_; first | (with_reducible rfl) | (simp only [List.setIfInBounds_toArray, List.set_cons_zero, List.set_cons_succ]; first | done | rfl) | rfl | (simp; done))
        · repeat' (first|with_reducible (first|exact lowRefl _|apply lowSet|apply lowDrew|apply lowDrewN|apply lowAlloc)|(with_reducible refine lowCall ?_ (by assumption))|(show (_ : Nat) ≤ _;first|(simp;done)|(simp;omega)|omega))
        clear BP BQ BR BS BO B2 hL CS CO FO
        intro wz BO B2 hL
        have CO := Jc BO
        go_wp2_with (go_at_call 193; (with_reducible refine (l3Vec_any _ _ _ _).mono ?_); rintro e w' ⟨rfl, hbq⟩; have B22 := B2.below hbq; have C22 := Jc B22; have F22 := Jf B22; have hL2 := lowCall hL hbq)
        refine bodyPost_has (b := w.heap.size + 1 + 1) (T := 38) ?hB (fun wE hE => ?hres) rfl ⟨rfl, ?hlow⟩; (case hB => (refine Has.as (by repeat' (first|with_reducible (first|assumption|apply J0|apply J1|apply J2|apply J3|apply J4|apply J5|apply J6|apply J7|apply J8|apply J9)|(with_reducible show _ ≠ _;first|omega|(simp;done)))) ?_; first | (with_reducible rfl) | (simp only [List.setIfInBounds_toArray, List.set_cons_zero, List.set_cons_succ]; first | done | rfl) | rfl | (simp; done))); (case hres => have cE := Jc hE; simp only [results, Tryz.results129, go_sem]; simp [go_sem, cE]; done); (case hlow => repeat' (first|with_reducible (first|exact lowRefl _|apply lowSet|apply lowDrew|apply lowDrewN|apply lowAlloc)|(with_reducible refine lowCall ?_ (by assumption))|(show (_ : Nat) ≤ _;first|(simp;done)|(simp;omega)|omega)))
    · obtain ⟨rfl, rfl, rfl⟩ : X = 0 ∧ Y = 0 ∧ Z = 0 := by have e1 := z1 (by omega); have e2 := z2 (by omega); have e3 := z3 (by omega); unfold OtE at o; omega
      clear f1 f2 f3 o
      have CO := Jc BO
      go_wp2_with (go_at_call 193; (with_reducible refine (l3Vec_any _ _ _ _).mono ?_); rintro e w' ⟨rfl, hbq⟩; have B22 := B2.below hbq; have C22 := Jc B22; have F22 := Jf B22; have hL2 := lowCall hL hbq)
      refine bodyPost_has (b := w.heap.size + 1 + 1) (T := 38) ?hB (fun wE hE => ?hres) rfl ⟨rfl, ?hlow⟩; (case hB => (refine Has.as (by repeat' (first|with_reducible (first|assumption|apply J0|apply J1|apply J2|apply J3|apply J4|apply J5|apply J6|apply J7|apply J8|apply J9)|(with_reducible show _ ≠ _;first|omega|(simp;done)))) ?_; first | (with_reducible rfl) | (simp only [List.setIfInBounds_toArray, List.set_cons_zero, List.set_cons_succ]; first | done | rfl) | rfl | (simp; done))); (case hres => have cE := Jc hE; simp only [results, Tryz.results129, go_sem]; simp [go_sem, cE]; done); (case hlow => repeat' (first|with_reducible (first|exact lowRefl _|apply lowSet|apply lowDrew|apply lowDrewN|apply lowAlloc)|(with_reducible refine lowCall ?_ (by assumption))|(show (_ : Nat) ≤ _;first|(simp;done)|(simp;omega)|omega)))
end Go.Proofs.YtegibpepdndocabGreat
