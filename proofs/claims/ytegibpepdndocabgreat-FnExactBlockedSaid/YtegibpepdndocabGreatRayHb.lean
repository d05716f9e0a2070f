import Derived.Test.YtegibpepdndocabGreatRayb
namespace Go.Proofs.YtegibpepdndocabGreat
open Has renaming new → J0, new1 → J1, new2 → J2, new3 → J3, new4 → J4, drew → J5, drewN → J6, alloc → J7, same → J8, other → J9, cell → Jc, frozen → Jf, below → Jb
open Go.ChangeShapes Go.WideShapes Go.ChangeAt Go.RowKit
set_option linter.unusedSimpArgs false
set_option maxHeartbeats 1000000

attribute [local go_sem] VGo_value VGo_skip VGo_enter
theorem dot3bb (a b c x y z m k : Int) (h : Vok a b c m) (j : Vok x y z k) : -(3 * (m * k)) ≤ dot3 a b c x y z ∧ dot3 a b c x y z ≤ 3 * (m * k) := by
  obtain ⟨a1, a2, a3, a4, a5, a6⟩ := h
  obtain ⟨k1, k2, k3, k4, k5, k6⟩ := j
  have e1 := mulc a x m k a1 a2 k1 k2
  have e2 := mulc b y m k a3 a4 k3 k4
  have e3 := mulc c z m k a5 a6 k5 k6
  unfold dot3
  omega
theorem iDotX (a b c x y z n : Int) (w : World) (h : Vok a b c 1048576) (k : Vok x y z 1048576) (hn : dot3 a b c x y z = n) :
    Calls Tryz.prog 65 #[.agg #[.int .i64 (a), .int .i64 (b), .int .i64 (c)], .agg #[.int .i64 (x), .int .i64 (y), .int .i64 (z)]] w fun e w' => e = .returned (.int .i64 n) ∧ Below w.heap.size w w' := by
  rw [← hn]; exact iDot_yes a b c x y z w h k
theorem sDotX (a b c x y z n : Int) (w : World) (h : Vok a b c 1048576) (k : Vok x y z 1048576) (hn : dot3 a b c x y z = n) :
    Calls Tryz.prog 199 #[.agg #[.int .i64 (a), .int .i64 (b), .int .i64 (c)], .agg #[.int .i64 (x), .int .i64 (y), .int .i64 (z)]] w fun e w' => e = .returned (.int .i64 n) ∧ Below w.heap.size w w' := by
  rw [← hn]; exact l2Dot_any a b c x y z w h k
theorem vokUp {a b c m : Int} (h : Vok a b c m) (hm : m ≤ 1048576) : Vok a b c 1048576 := by unfold Vok at *; omega

/- from where to where a ray is in a half-space -/
def CutE (d n g F X Y : Int) : Prop := (0 < g ∧ X = -1073741824 ∧ Y = F) ∨ (g < 0 ∧ X = F ∧ Y = 1073741824) ∨ (g = 0 ∧ d - n < 0 ∧ X = 0 ∧ Y = 0) ∨ (g = 0 ∧ 0 ≤ d - n ∧ X = -1073741824 ∧ Y = 1073741824)
theorem cutE (d n g F : Int) : ∃ X Y, CutE d n g F X Y := by
  by_cases h1 : 0 < g
  · exact ⟨_, _, .inl ⟨h1, rfl, rfl⟩⟩
  · by_cases h2 : g < 0
    · exact ⟨_, _, .inr (.inl ⟨h2, rfl, rfl⟩)⟩
    · by_cases h3 : d - n < 0
      · exact ⟨_, _, .inr (.inr (.inl ⟨by omega, h3, rfl, rfl⟩))⟩
      · exact ⟨_, _, .inr (.inr (.inr ⟨by omega, by omega, rfl, rfl⟩))⟩
set_option maxHeartbeats 4000000 in
theorem l4Half_any (a b c d p q r x y z n g F X Y : Int) (w : World) (h : Hok a b c d) (k : Rok p q r x y z) (hn : dot3 a b c p q r = n) (hg : dot3 a b c x y z = g) (hF : ((d - n) * 4096).fdiv g = F) (hc : CutE d n g F X Y) :
    Calls Tryz.prog 138 #[.agg #[.int .i64 (a), .int .i64 (b), .int .i64 (c), .int .i64 (d)], .agg #[.int .i64 (p), .int .i64 (q), .int .i64 (r), .int .i64 (x), .int .i64 (y), .int .i64 (z)]] w fun e w' => e = .returned (.tuple #[.int .i64 (X), .int .i64 (Y)]) ∧ Below w.heap.size w w' := by
  have ⟨n1, n2⟩ := dot3bb a b c p q r 20 800 h.1 k.1
  have ⟨g1, g2⟩ := dot3bb a b c x y z 20 200 h.1 k.2.1
  rw [hn] at n1 n2
  rw [hg] at g1 g2
  have V1 := Lib.hid (vokUp h.1 (by omega))
  have V2 := Lib.hid (vokUp k.1 (by omega))
  have V3 := Lib.hid (vokUp k.2.1 (by omega))
  obtain ⟨-, -, d1, d2⟩ := h
  have SM : g ≠ 0 → Small ((d - n) * 4096) g := fun h0 => by unfold Small; omega
  have S := Lib.hid SM
  have HN := Lib.hid hn
  have HG := Lib.hid hg
  have HF := Lib.hid hF
  clear k hn hg hF SM
  rcases hc with ⟨c1, rfl, rfl⟩ | ⟨c1, rfl, rfl⟩ | ⟨rfl, c1, rfl, rfl⟩ | ⟨rfl, c1, rfl, rfl⟩
  all_goals
    go_enter Tryz.func138, Tryz.ntmps138
    go_upto_region 1 with fail
    (refine wp_region_held1 8 (by kernel_rfl) (by kernel_rfl) rfl (fun _ _ _ d _ h => by cases d <;> exact h) ?_; intro Fq hFq; simp only [List.take_succ_cons, List.take_zero])
    repeat (first | (refine wpHeld_run ?_ rfl ?_ ?_; rotate_left; (focus (intro w' hbq Kq hKq; ((try (have B0 := Jb (b := w.heap.size) (by repeat' (first|with_reducible (first|assumption|apply J0|apply J1|apply J2|apply J3|apply J4|apply J5|apply J6|apply J7|apply J8|apply J9)|(with_reducible show _ ≠ _;first|omega|(simp;done)))) hbq; have C0 := Jc B0; have F0 := Jf B0)); (try (have B1 := Jb (b := w.heap.size + 1) (by repeat' (first|with_reducible (first|assumption|apply J0|apply J1|apply J2|apply J3|apply J4|apply J5|apply J6|apply J7|apply J8|apply J9)|(with_reducible show _ ≠ _;first|omega|(simp;done)))) hbq; have C1 := Jc B1; have F1 := Jf B1)); (try (have B2 := Jb (b := w.heap.size + 1 + 1) (by repeat' (first|with_reducible (first|assumption|apply J0|apply J1|apply J2|apply J3|apply J4|apply J5|apply J6|apply J7|apply J8|apply J9)|(with_reducible show _ ≠ _;first|omega|(simp;done)))) hbq; have C2 := Jc B2; have F2 := Jf B2))); go_simp; (try (rw [IntWalk.i64_in]; rotate_left; focus (constructor <;> omega))); first | exact hKq _ (Below.refl _ _) | (go_at_call 199; ((with_reducible refine (sDotX _ _ _ _ _ _ _ _ V1.out V2.out HN.out).mono ?_); rintro e w2 ⟨rfl, hbr⟩; refine back ?_; exact hKq _ hbr)))); ((try simp only [Act.put, List.setIfInBounds_toArray, List.set_cons_zero, List.set_cons_succ]))) | (refine wpHeld_skip (by rfl) ?_; ((try simp only [Act.put, List.setIfInBounds_toArray, List.set_cons_zero, List.set_cons_succ]))))
    (refine wpHeld_nil (hFq _ ?_); clear hFq; intro w' hbq; ((try (have B0 := Jb (b := w.heap.size) (by repeat' (first|with_reducible (first|assumption|apply J0|apply J1|apply J2|apply J3|apply J4|apply J5|apply J6|apply J7|apply J8|apply J9)|(with_reducible show _ ≠ _;first|omega|(simp;done)))) hbq; have C0 := Jc B0; have F0 := Jf B0)); (try (have B1 := Jb (b := w.heap.size + 1) (by repeat' (first|with_reducible (first|assumption|apply J0|apply J1|apply J2|apply J3|apply J4|apply J5|apply J6|apply J7|apply J8|apply J9)|(with_reducible show _ ≠ _;first|omega|(simp;done)))) hbq; have C1 := Jc B1; have F1 := Jf B1)); (try (have B2 := Jb (b := w.heap.size + 1 + 1) (by repeat' (first|with_reducible (first|assumption|apply J0|apply J1|apply J2|apply J3|apply J4|apply J5|apply J6|apply J7|apply J8|apply J9)|(with_reducible show _ ≠ _;first|omega|(simp;done)))) hbq; have C2 := Jc B2; have F2 := Jf B2))))
    go_wp2_with (first | (go_at_call 199; ((with_reducible refine (sDotX _ _ _ _ _ _ _ _ V1.out V3.out HG.out).mono ?_); rintro e w' ⟨rfl, hbq⟩; (try (have B0 := Jb (b := w.heap.size) (by repeat' (first|with_reducible (first|assumption|apply J0|apply J1|apply J2|apply J3|apply J4|apply J5|apply J6|apply J7|apply J8|apply J9)|(with_reducible show _ ≠ _;first|omega|(simp;done)))) hbq; have C0 := Jc B0; have F0 := Jf B0)); (try (have B1 := Jb (b := w.heap.size + 1) (by repeat' (first|with_reducible (first|assumption|apply J0|apply J1|apply J2|apply J3|apply J4|apply J5|apply J6|apply J7|apply J8|apply J9)|(with_reducible show _ ≠ _;first|omega|(simp;done)))) hbq; have C1 := Jc B1; have F1 := Jf B1)); (try (have B2 := Jb (b := w.heap.size + 1 + 1) (by repeat' (first|with_reducible (first|assumption|apply J0|apply J1|apply J2|apply J3|apply J4|apply J5|apply J6|apply J7|apply J8|apply J9)|(with_reducible show _ ≠ _;first|omega|(simp;done)))) hbq; have C2 := Jc B2; have F2 := Jf B2)))) | (go_at_call 200; ((with_reducible refine (sFloorV _ _ _ _ (S.out (by omega)) HF.out).mono ?_); rintro e w' ⟨rfl, rfl⟩)))
    refine bodyPost_ret ?hres rfl ⟨rfl, ?hlow⟩; (case hres => (first | (simp [results, Tryz.results138, go_sem]; done) | (simp [results, Tryz.results138, go_sem, *]; done))); (case hlow => repeat' (first|with_reducible (first|exact lowRefl _|apply lowSet|apply lowDrew|apply lowDrewN|apply lowAlloc)|(with_reducible refine lowCall ?_ (by assumption))|(show (_ : Nat) ≤ _;first|(simp;done)|(simp;omega)|omega)))
theorem iFloor0 (a : Int) (w : World) : Calls Tryz.prog 229 #[.int .i64 a, .int .i64 0] w fun e w' => e = .returned (.int .i64 0) ∧ w = w' := floor_no a 0 w (by unfold Small; omega)
set_option maxHeartbeats 4000000 in
theorem ihalfCut_yes (a b c d p q r x y z n g F X Y : Int) (w : World) (h : Hok a b c d) (k : Rok p q r x y z) (hn : dot3 a b c p q r = n) (hg : dot3 a b c x y z = g) (hF : ((d - n) * 4096).fdiv g = F) (hc : CutE d n g F X Y) :
    Calls Tryz.prog 262 #[.agg #[.int .i64 (a), .int .i64 (b), .int .i64 (c), .int .i64 (d)], .agg #[.int .i64 (p), .int .i64 (q), .int .i64 (r), .int .i64 (x), .int .i64 (y), .int .i64 (z)]] w fun e w' => e = .returned (.tuple #[.int .i64 (X), .int .i64 (Y)]) ∧ Below w.heap.size w w' := by
  have ⟨n1, n2⟩ := dot3bb a b c p q r 20 800 h.1 k.1
  have ⟨g1, g2⟩ := dot3bb a b c x y z 20 200 h.1 k.2.1
  rw [hn] at n1 n2
  rw [hg] at g1 g2
  have V1 := Lib.hid (vokUp h.1 (by omega))
  have V2 := Lib.hid (vokUp k.1 (by omega))
  have V3 := Lib.hid (vokUp k.2.1 (by omega))
  have H := Lib.hid h
  have K := Lib.hid k
  obtain ⟨-, -, d1, d2⟩ := h
  have SM : g ≠ 0 → Small ((d - n) * 4096) g := fun h0 => by unfold Small; omega
  have S := Lib.hid SM
  have HN := Lib.hid hn
  have HG := Lib.hid hg
  have HF := Lib.hid hF
  clear k hn hg hF SM
  rcases hc with ⟨c1, rfl, rfl⟩ | ⟨c1, rfl, rfl⟩ | ⟨rfl, c1, rfl, rfl⟩ | ⟨rfl, c1, rfl, rfl⟩
  all_goals
    go_enter Tryz.func262, Tryz.ntmps262
    go_upto_region 3 with (first | (go_at_call 226; ((with_reducible refine (ihalfOk_yes _ _ _ _ _ H.out).mono ?_); rintro e w' ⟨rfl, hbq⟩; (try (have B0 := Jb (b := w.heap.size) (by repeat' (first|with_reducible (first|assumption|apply J0|apply J1|apply J2|apply J3|apply J4|apply J5|apply J6|apply J7|apply J8|apply J9)|(with_reducible show _ ≠ _;first|omega|(simp;done)))) hbq; have C0 := Jc B0; have F0 := Jf B0)); (try (have B1 := Jb (b := w.heap.size + 1) (by repeat' (first|with_reducible (first|assumption|apply J0|apply J1|apply J2|apply J3|apply J4|apply J5|apply J6|apply J7|apply J8|apply J9)|(with_reducible show _ ≠ _;first|omega|(simp;done)))) hbq; have C1 := Jc B1; have F1 := Jf B1)); (try (have B2 := Jb (b := w.heap.size + 1 + 1) (by repeat' (first|with_reducible (first|assumption|apply J0|apply J1|apply J2|apply J3|apply J4|apply J5|apply J6|apply J7|apply J8|apply J9)|(with_reducible show _ ≠ _;first|omega|(simp;done)))) hbq; have C2 := Jc B2; have F2 := Jf B2)))) | (go_at_call 40; ((with_reducible refine (irayOk_yes _ _ _ _ _ _ _ K.out).mono ?_); rintro e w' ⟨rfl, hbq⟩; (try (have B0 := Jb (b := w.heap.size) (by repeat' (first|with_reducible (first|assumption|apply J0|apply J1|apply J2|apply J3|apply J4|apply J5|apply J6|apply J7|apply J8|apply J9)|(with_reducible show _ ≠ _;first|omega|(simp;done)))) hbq; have C0 := Jc B0; have F0 := Jf B0)); (try (have B1 := Jb (b := w.heap.size + 1) (by repeat' (first|with_reducible (first|assumption|apply J0|apply J1|apply J2|apply J3|apply J4|apply J5|apply J6|apply J7|apply J8|apply J9)|(with_reducible show _ ≠ _;first|omega|(simp;done)))) hbq; have C1 := Jc B1; have F1 := Jf B1)); (try (have B2 := Jb (b := w.heap.size + 1 + 1) (by repeat' (first|with_reducible (first|assumption|apply J0|apply J1|apply J2|apply J3|apply J4|apply J5|apply J6|apply J7|apply J8|apply J9)|(with_reducible show _ ≠ _;first|omega|(simp;done)))) hbq; have C2 := Jc B2; have F2 := Jf B2)))))
    (refine wp_region_held1 8 (by kernel_rfl) (by kernel_rfl) rfl (fun _ _ _ d _ h => by cases d <;> exact h) ?_; intro Fq hFq; simp only [List.take_succ_cons, List.take_zero])
    repeat (first | (refine wpHeld_run ?_ rfl ?_ ?_; rotate_left; (focus (intro w' hbq Kq hKq; ((try (have B0 := Jb (b := w.heap.size) (by repeat' (first|with_reducible (first|assumption|apply J0|apply J1|apply J2|apply J3|apply J4|apply J5|apply J6|apply J7|apply J8|apply J9)|(with_reducible show _ ≠ _;first|omega|(simp;done)))) hbq; have C0 := Jc B0; have F0 := Jf B0)); (try (have B1 := Jb (b := w.heap.size + 1) (by repeat' (first|with_reducible (first|assumption|apply J0|apply J1|apply J2|apply J3|apply J4|apply J5|apply J6|apply J7|apply J8|apply J9)|(with_reducible show _ ≠ _;first|omega|(simp;done)))) hbq; have C1 := Jc B1; have F1 := Jf B1)); (try (have B2 := Jb (b := w.heap.size + 1 + 1) (by repeat' (first|with_reducible (first|assumption|apply J0|apply J1|apply J2|apply J3|apply J4|apply J5|apply J6|apply J7|apply J8|apply J9)|(with_reducible show _ ≠ _;first|omega|(simp;done)))) hbq; have C2 := Jc B2; have F2 := Jf B2))); go_simp; (try (rw [IntWalk.i64_in]; rotate_left; focus (constructor <;> omega))); first | exact hKq _ (Below.refl _ _) | (go_at_call 65; ((with_reducible refine (iDotX _ _ _ _ _ _ _ _ V1.out V2.out HN.out).mono ?_); rintro e w2 ⟨rfl, hbr⟩; refine back ?_; exact hKq _ hbr)))); ((try simp only [Act.put, List.setIfInBounds_toArray, List.set_cons_zero, List.set_cons_succ]))) | (refine wpHeld_skip (by rfl) ?_; ((try simp only [Act.put, List.setIfInBounds_toArray, List.set_cons_zero, List.set_cons_succ]))))
    (refine wpHeld_nil (hFq _ ?_); clear hFq; intro w' hbq; ((try (have B0 := Jb (b := w.heap.size) (by repeat' (first|with_reducible (first|assumption|apply J0|apply J1|apply J2|apply J3|apply J4|apply J5|apply J6|apply J7|apply J8|apply J9)|(with_reducible show _ ≠ _;first|omega|(simp;done)))) hbq; have C0 := Jc B0; have F0 := Jf B0)); (try (have B1 := Jb (b := w.heap.size + 1) (by repeat' (first|with_reducible (first|assumption|apply J0|apply J1|apply J2|apply J3|apply J4|apply J5|apply J6|apply J7|apply J8|apply J9)|(with_reducible show _ ≠ _;first|omega|(simp;done)))) hbq; have C1 := Jc B1; have F1 := Jf B1)); (try (have B2 := Jb (b := w.heap.size + 1 + 1) (by repeat' (first|with_reducible (first|assumption|apply J0|apply J1|apply J2|apply J3|apply J4|apply J5|apply J6|apply J7|apply J8|apply J9)|(with_reducible show _ ≠ _;first|omega|(simp;done)))) hbq; have C2 := Jc B2; have F2 := Jf B2))))
    go_wp2_with (first | (go_at_call 65; ((with_reducible refine (iDotX _ _ _ _ _ _ _ _ V1.out V3.out HG.out).mono ?_); rintro e w' ⟨rfl, hbq⟩; (try (have B0 := Jb (b := w.heap.size) (by repeat' (first|with_reducible (first|assumption|apply J0|apply J1|apply J2|apply J3|apply J4|apply J5|apply J6|apply J7|apply J8|apply J9)|(with_reducible show _ ≠ _;first|omega|(simp;done)))) hbq; have C0 := Jc B0; have F0 := Jf B0)); (try (have B1 := Jb (b := w.heap.size + 1) (by repeat' (first|with_reducible (first|assumption|apply J0|apply J1|apply J2|apply J3|apply J4|apply J5|apply J6|apply J7|apply J8|apply J9)|(with_reducible show _ ≠ _;first|omega|(simp;done)))) hbq; have C1 := Jc B1; have F1 := Jf B1)); (try (have B2 := Jb (b := w.heap.size + 1 + 1) (by repeat' (first|with_reducible (first|assumption|apply J0|apply J1|apply J2|apply J3|apply J4|apply J5|apply J6|apply J7|apply J8|apply J9)|(with_reducible show _ ≠ _;first|omega|(simp;done)))) hbq; have C2 := Jc B2; have F2 := Jf B2)))) | (go_at_call 229; ((with_reducible refine (iFloor0 _ _).mono ?_); rintro e w' ⟨rfl, rfl⟩)) | (go_at_call 229; ((with_reducible refine (iFloorV _ _ _ _ (S.out (by omega)) HF.out).mono ?_); rintro e w' ⟨rfl, rfl⟩)))
    refine bodyPost_ret ?hres rfl ⟨rfl, ?hlow⟩; (case hres => (first | (simp [results, Tryz.results262, go_sem]; done) | (simp [results, Tryz.results262, go_sem, *]; done))); (case hlow => repeat' (first|with_reducible (first|exact lowRefl _|apply lowSet|apply lowDrew|apply lowDrewN|apply lowAlloc)|(with_reducible refine lowCall ?_ (by assumption))|(show (_ : Nat) ≤ _;first|(simp;done)|(simp;omega)|omega)))
end Go.Proofs.YtegibpepdndocabGreat
