import Derived.Deep.Cut
import Derived.Test.YtegibpepdndocabGreatBoxk
section
namespace Go.Proofs.YtegibpepdndocabGreat
open Has renaming new → J0, new1 → J1, new2 → J2, new3 → J3, new4 → J4, drew → J5, drewN → J6, alloc → J7, same → J8, other → J9, cell → Jc, frozen → Jf, below → Jb
open Go.ChangeShapes Go.WideShapes Go.ChangeAt Go.RowKit
set_option linter.unusedSimpArgs false
set_option maxHeartbeats 1000000

attribute [local go_sem] VGo_value VGo_skip VGo_enter
def LoE (a b c x y z X Y Z : Int) : Prop := min a x = X ∧ min b y = Y ∧ min c z = Z
def HiE (a b c x y z X Y Z : Int) : Prop := max a x = X ∧ max b y = Y ∧ max c z = Z
theorem ilesserV (a b c x y z X Y Z : Int) (w : World) (e : LoE a b c x y z X Y Z) : Calls Tryz.prog 240 #[.agg #[.int .i64 (a), .int .i64 (b), .int .i64 (c)], .agg #[.int .i64 (x), .int .i64 (y), .int .i64 (z)]] w fun e w' => e = .returned (.agg #[.int .i64 (X), .int .i64 (Y), .int .i64 (Z)]) ∧ Below w.heap.size w w' := by
  obtain ⟨rfl, rfl, rfl⟩ := e
  go_enter Tryz.func240, Tryz.ntmps240
  go_wp2
  refine bodyPost_ret (v := .agg #[.int .i64 (min a x), .int .i64 (min b y), .int .i64 (min c z)]) (by simp [results, Tryz.results240, go_sem]) rfl ⟨vec_eq (by first | rfl | omega) (by first | rfl | omega) (by first | rfl | omega), ?_⟩; (repeat' (first|with_reducible (first|exact lowRefl _|apply lowSet|apply lowDrew|apply lowDrewN|apply lowAlloc)|(with_reducible refine lowCall ?_ (by assumption))|(show (_ : Nat) ≤ _;first|(simp;done)|(simp;omega)|omega)))
theorem igreaterV (a b c x y z X Y Z : Int) (w : World) (e : HiE a b c x y z X Y Z) : Calls Tryz.prog 241 #[.agg #[.int .i64 (a), .int .i64 (b), .int .i64 (c)], .agg #[.int .i64 (x), .int .i64 (y), .int .i64 (z)]] w fun e w' => e = .returned (.agg #[.int .i64 (X), .int .i64 (Y), .int .i64 (Z)]) ∧ Below w.heap.size w w' := by
  obtain ⟨rfl, rfl, rfl⟩ := e
  go_enter Tryz.func241, Tryz.ntmps241
  go_wp2
  refine bodyPost_ret (v := .agg #[.int .i64 (max a x), .int .i64 (max b y), .int .i64 (max c z)]) (by simp [results, Tryz.results241, go_sem]) rfl ⟨vec_eq (by first | rfl | omega) (by first | rfl | omega) (by first | rfl | omega), ?_⟩; (repeat' (first|with_reducible (first|exact lowRefl _|apply lowSet|apply lowDrew|apply lowDrewN|apply lowAlloc)|(with_reducible refine lowCall ?_ (by assumption))|(show (_ : Nat) ≤ _;first|(simp;done)|(simp;omega)|omega)))
theorem sleastV (a b X : Int) (w : World) (h : min a b = X) : Calls Tryz.prog 242 #[.int .i64 a, .int .i64 b] w fun e w' => e = .returned (.int .i64 X) ∧ w = w' := by
  by_cases hc : b < a
  · obtain rfl : b = X := by omega
    clear h
    go_enter Tryz.func242, Tryz.ntmps242
    go_wp2
    go_ret
    exact ⟨rfl, rfl⟩
  · obtain rfl : a = X := by omega
    clear h
    go_enter Tryz.func242, Tryz.ntmps242
    go_wp2
    go_ret
    exact ⟨rfl, rfl⟩
theorem slowV (a b c x y z X Y Z : Int) (w : World) (e : LoE a b c x y z X Y Z) : Calls Tryz.prog 230 #[.agg #[.int .i64 (a), .int .i64 (b), .int .i64 (c)], .agg #[.int .i64 (x), .int .i64 (y), .int .i64 (z)]] w fun e w' => e = .returned (.agg #[.int .i64 (X), .int .i64 (Y), .int .i64 (Z)]) ∧ Below w.heap.size w w' := by
  obtain ⟨h1, h2, h3⟩ := e
  have H1 := Lib.hid h1
  have H2 := Lib.hid h2
  have H3 := Lib.hid h3
  clear h1 h2 h3
  go_enter Tryz.func230, Tryz.ntmps230
  go_upto_region 1 with fail
  (refine wp_region_held1 16 (by kernel_rfl) (by kernel_rfl) rfl (fun _ _ _ d _ h => by cases d <;> exact h) ?_; intro Fq hFq; simp only [List.take_succ_cons, List.take_zero])
  repeat (first | (refine wpHeld_run ?_ rfl ?_ ?_; rotate_left; (focus (intro w' hbq Kq hKq; ((try (have B0 := Jb (b := w.heap.size) (by repeat' (first|with_reducible (first|assumption|apply J0|apply J1|apply J2|apply J3|apply J4|apply J5|apply J6|apply J7|apply J8|apply J9)|(with_reducible show _ ≠ _;first|omega|(simp;done)))) hbq; have C0 := Jc B0; have F0 := Jf B0)); (try (have B1 := Jb (b := w.heap.size + 1) (by repeat' (first|with_reducible (first|assumption|apply J0|apply J1|apply J2|apply J3|apply J4|apply J5|apply J6|apply J7|apply J8|apply J9)|(with_reducible show _ ≠ _;first|omega|(simp;done)))) hbq; have C1 := Jc B1; have F1 := Jf B1)); (try (have B2 := Jb (b := w.heap.size + 1 + 1) (by repeat' (first|with_reducible (first|assumption|apply J0|apply J1|apply J2|apply J3|apply J4|apply J5|apply J6|apply J7|apply J8|apply J9)|(with_reducible show _ ≠ _;first|omega|(simp;done)))) hbq; have C2 := Jc B2; have F2 := Jf B2))); go_simp; (try (rw [IntWalk.i64_in]; rotate_left; focus (constructor <;> omega))); first | exact hKq _ (Below.refl _ _) | first | (go_at_call 242; ((with_reducible refine (sleastV a x X _ H1.out).mono ?_); rintro e w2 ⟨rfl, rfl⟩; refine back ?_; exact hKq _ (Below.refl _ _))) | (go_at_call 242; ((with_reducible refine (sleastV b y Y _ H2.out).mono ?_); rintro e w2 ⟨rfl, rfl⟩; refine back ?_; exact hKq _ (Below.refl _ _))) | (go_at_call 242; ((with_reducible refine (sleastV c z Z _ H3.out).mono ?_); rintro e w2 ⟨rfl, rfl⟩; refine back ?_; exact hKq _ (Below.refl _ _))))); ((try simp only [Act.put, List.setIfInBounds_toArray, List.set_cons_zero, List.set_cons_succ]))) | (refine wpHeld_skip (by rfl) ?_; ((try simp only [Act.put, List.setIfInBounds_toArray, List.set_cons_zero, List.set_cons_succ]))))
  (refine wpHeld_nil (hFq _ ?_); clear hFq; intro w' hbq; ((try (have B0 := Jb (b := w.heap.size) (by repeat' (first|with_reducible (first|assumption|apply J0|apply J1|apply J2|apply J3|apply J4|apply J5|apply J6|apply J7|apply J8|apply J9)|(with_reducible show _ ≠ _;first|omega|(simp;done)))) hbq; have C0 := Jc B0; have F0 := Jf B0)); (try (have B1 := Jb (b := w.heap.size + 1) (by repeat' (first|with_reducible (first|assumption|apply J0|apply J1|apply J2|apply J3|apply J4|apply J5|apply J6|apply J7|apply J8|apply J9)|(with_reducible show _ ≠ _;first|omega|(simp;done)))) hbq; have C1 := Jc B1; have F1 := Jf B1)); (try (have B2 := Jb (b := w.heap.size + 1 + 1) (by repeat' (first|with_reducible (first|assumption|apply J0|apply J1|apply J2|apply J3|apply J4|apply J5|apply J6|apply J7|apply J8|apply J9)|(with_reducible show _ ≠ _;first|omega|(simp;done)))) hbq; have C2 := Jc B2; have F2 := Jf B2))))
  go_wp2
  refine bodyPost_ret (v := .agg #[.int .i64 (X), .int .i64 (Y), .int .i64 (Z)]) (by simp [results, Tryz.results230, go_sem, *]) rfl ⟨vec_eq (by first | rfl | omega) (by first | rfl | omega) (by first | rfl | omega), ?_⟩; (repeat' (first|with_reducible (first|exact lowRefl _|apply lowSet|apply lowDrew|apply lowDrewN|apply lowAlloc)|(with_reducible refine lowCall ?_ (by assumption))|(show (_ : Nat) ≤ _;first|(simp;done)|(simp;omega)|omega)))
/- the greater part, as the model has it -/
def hw (a x : Int) : Int := wrap64 (-(min (wrap64 (-a)) (wrap64 (-x))))
theorem hw_max {a x m : Int} (h1 : -m ≤ a) (h2 : a ≤ m) (h3 : -m ≤ x) (h4 : x ≤ m) (hm : m ≤ 1152921504606846976) : hw a x = max a x := by
  unfold hw
  rw [wrap64_of (-a) (by omega) (by omega), wrap64_of (-x) (by omega) (by omega), wrap64_of _ (by omega) (by omega)]
  omega
theorem shighW (a b c x y z : Int) (w : World) : Calls Tryz.prog 231 #[.agg #[.int .i64 (a), .int .i64 (b), .int .i64 (c)], .agg #[.int .i64 (x), .int .i64 (y), .int .i64 (z)]] w fun e w' => e = .returned (.agg #[.int .i64 (hw a x), .int .i64 (hw b y), .int .i64 (hw c z)]) ∧ Below w.heap.size w w' := by
  go_enter Tryz.func231, Tryz.ntmps231
  go_upto_region 1 with fail
  (refine wp_region_held1 25 (by kernel_rfl) (by kernel_rfl) rfl (fun _ _ _ d _ h => by cases d <;> exact h) ?_; intro Fq hFq; simp only [List.take_succ_cons, List.take_zero])
  repeat (first | (refine wpHeld_run ?_ rfl ?_ ?_; rotate_left; (focus (intro w' hbq Kq hKq; ((try (have B0 := Jb (b := w.heap.size) (by repeat' (first|with_reducible (first|assumption|apply J0|apply J1|apply J2|apply J3|apply J4|apply J5|apply J6|apply J7|apply J8|apply J9)|(with_reducible show _ ≠ _;first|omega|(simp;done)))) hbq; have C0 := Jc B0; have F0 := Jf B0)); (try (have B1 := Jb (b := w.heap.size + 1) (by repeat' (first|with_reducible (first|assumption|apply J0|apply J1|apply J2|apply J3|apply J4|apply J5|apply J6|apply J7|apply J8|apply J9)|(with_reducible show _ ≠ _;first|omega|(simp;done)))) hbq; have C1 := Jc B1; have F1 := Jf B1)); (try (have B2 := Jb (b := w.heap.size + 1 + 1) (by repeat' (first|with_reducible (first|assumption|apply J0|apply J1|apply J2|apply J3|apply J4|apply J5|apply J6|apply J7|apply J8|apply J9)|(with_reducible show _ ≠ _;first|omega|(simp;done)))) hbq; have C2 := Jc B2; have F2 := Jf B2))); go_simp; (try (rw [IntWalk.i64_in]; rotate_left; focus (constructor <;> omega))); first | exact hKq _ (Below.refl _ _) | first | (go_at_call 242; ((with_reducible refine (sleastV (IntKind.i64.wrap (-a)) (IntKind.i64.wrap (-x)) _ _ rfl).mono ?_); rintro e w2 ⟨rfl, rfl⟩; refine back ?_; exact hKq _ (Below.refl _ _))) | (go_at_call 242; ((with_reducible refine (sleastV (IntKind.i64.wrap (-b)) (IntKind.i64.wrap (-y)) _ _ rfl).mono ?_); rintro e w2 ⟨rfl, rfl⟩; refine back ?_; exact hKq _ (Below.refl _ _))) | (go_at_call 242; ((with_reducible refine (sleastV (IntKind.i64.wrap (-c)) (IntKind.i64.wrap (-z)) _ _ rfl).mono ?_); rintro e w2 ⟨rfl, rfl⟩; refine back ?_; exact hKq _ (Below.refl _ _))))); ((try simp only [Act.put, List.setIfInBounds_toArray, List.set_cons_zero, List.set_cons_succ]))) | (refine wpHeld_skip (by rfl) ?_; ((try simp only [Act.put, List.setIfInBounds_toArray, List.set_cons_zero, List.set_cons_succ]))))
  (refine wpHeld_nil (hFq _ ?_); clear hFq; intro w' hbq; ((try (have B0 := Jb (b := w.heap.size) (by repeat' (first|with_reducible (first|assumption|apply J0|apply J1|apply J2|apply J3|apply J4|apply J5|apply J6|apply J7|apply J8|apply J9)|(with_reducible show _ ≠ _;first|omega|(simp;done)))) hbq; have C0 := Jc B0; have F0 := Jf B0)); (try (have B1 := Jb (b := w.heap.size + 1) (by repeat' (first|with_reducible (first|assumption|apply J0|apply J1|apply J2|apply J3|apply J4|apply J5|apply J6|apply J7|apply J8|apply J9)|(with_reducible show _ ≠ _;first|omega|(simp;done)))) hbq; have C1 := Jc B1; have F1 := Jf B1)); (try (have B2 := Jb (b := w.heap.size + 1 + 1) (by repeat' (first|with_reducible (first|assumption|apply J0|apply J1|apply J2|apply J3|apply J4|apply J5|apply J6|apply J7|apply J8|apply J9)|(with_reducible show _ ≠ _;first|omega|(simp;done)))) hbq; have C2 := Jc B2; have F2 := Jf B2))))
  go_wp2
  refine bodyPost_ret (v := .agg #[.int .i64 (wrap64 (-min (wrap64 (-a)) (wrap64 (-x)))), .int .i64 (wrap64 (-min (wrap64 (-b)) (wrap64 (-y)))), .int .i64 (wrap64 (-min (wrap64 (-c)) (wrap64 (-z))))]) (by simp [results, Tryz.results231, go_sem, *]) rfl ⟨vec_eq (by first | rfl | omega) (by first | rfl | omega) (by first | rfl | omega), ?_⟩; (repeat' (first|with_reducible (first|exact lowRefl _|apply lowSet|apply lowDrew|apply lowDrewN|apply lowAlloc)|(with_reducible refine lowCall ?_ (by assumption))|(show (_ : Nat) ≤ _;first|(simp;done)|(simp;omega)|omega)))
theorem shighV (a b c x y z X Y Z : Int) (w : World) (e : HiE a b c x y z X Y Z) (h : Vok a b c 1048576) (k : Vok x y z 1048576) : Calls Tryz.prog 231 #[.agg #[.int .i64 (a), .int .i64 (b), .int .i64 (c)], .agg #[.int .i64 (x), .int .i64 (y), .int .i64 (z)]] w fun e w' => e = .returned (.agg #[.int .i64 (X), .int .i64 (Y), .int .i64 (Z)]) ∧ Below w.heap.size w w' := by
  obtain ⟨rfl, rfl, rfl⟩ := e
  obtain ⟨a1, a2, a3, a4, a5, a6⟩ := h
  obtain ⟨k1, k2, k3, k4, k5, k6⟩ := k
  have := shighW a b c x y z w
  rwa [hw_max a1 a2 k1 k2 (by omega), hw_max a3 a4 k3 k4 (by omega), hw_max a5 a6 k5 k6 (by omega)] at this
end Go.Proofs.YtegibpepdndocabGreat
end
section
namespace Go.Proofs.YtegibpepdndocabGreat
open Go.ChangeShapes Go.WideShapes Go.ChangeAt Go.RowKit
set_option linter.unusedSimpArgs false
set_option linter.unusedVariables false
set_option maxHeartbeats 2000000

attribute [local go_sem] VGo_value VGo_skip VGo_enter
theorem vok8 {a b c m : Int} (h : Vok a b c m) (hm : m ≤ 1048576) : Vok a b c 1048576 := by unfold Vok at *; omega
end Go.Proofs.YtegibpepdndocabGreat
end
