import Derived.BigQuiet
import Derived.Deep.DrawnRows
import Derived.Deep.QuietTactic
import Derived.Deep.RegionHeld3
import Derived.StillTailTactics
import Derived.Test.YtegibpepdndocabGreatVec2k
import Derived.WalkLawsBesides
namespace Go.Proofs.YtegibpepdndocabGreat
open Has renaming new → J0, new1 → J1, new2 → J2, new3 → J3, new4 → J4, drew → J5, drewN → J6, alloc → J7, same → J8, other → J9, cell → Jc, frozen → Jf, below → Jb
open Go.ChangeShapes Go.WideShapes Go.ChangeAt Go.RowKit

/- a number divided by another one above 1, nearer to 0 -/
def cut (x n : Int) : Int := if n ≤ 1 then x else x.tdiv n
theorem tdivb (x n m : Int) (h1 : -m ≤ x) (h2 : x ≤ m) : -m ≤ x.tdiv n ∧ x.tdiv n ≤ m := by
  have e : (x.tdiv n).natAbs = x.natAbs / n.natAbs := Int.natAbs_tdiv x n
  have hle := Nat.div_le_self x.natAbs n.natAbs
  omega
theorem cutb (x n m : Int) (h1 : -m ≤ x) (h2 : x ≤ m) : -m ≤ cut x n ∧ cut x n ≤ m := by
  unfold cut
  split
  · exact ⟨h1, h2⟩
  · exact tdivb x n m h1 h2
/- the greatest part without its sign -/
def big (x y z : Int) : Int := max x (max (-x) (max y (max (-y) (max z (-z)))))
theorem cut_one (x n : Int) (h : n ≤ 1) : cut x n = x := if_pos h
theorem cut_more (x n : Int) (h : 1 < n) : cut x n = x.tdiv n := if_neg (by omega)

theorem idividedBy_one (x y z n : Int) (w : World) (hn : n ≤ 1) :
    Calls Tryz.prog 194 #[.agg #[.int .i64 (x), .int .i64 (y), .int .i64 (z)], .int .i64 n] w fun e w' => e = .returned (.agg #[.int .i64 (cut x n), .int .i64 (cut y n), .int .i64 (cut z n)]) ∧ Below w.heap.size w w' := by
  have e1 := Lib.hid (cut_one x n hn)
  have e2 := Lib.hid (cut_one y n hn)
  have e3 := Lib.hid (cut_one z n hn)
  go_enter Tryz.func194, Tryz.ntmps194
  go_wp2
  refine bodyPost_ret (v := .agg #[.int .i64 (x), .int .i64 (y), .int .i64 (z)]) (by simp [results, Tryz.results194, go_sem]) rfl ⟨vec_eq e1.out.symm e2.out.symm e3.out.symm, ?_⟩
  repeat' (first|with_reducible (first|exact lowRefl _|apply lowSet|apply lowDrew|apply lowDrewN|apply lowAlloc)|(with_reducible refine lowCall ?_ (by assumption))|(show (_ : Nat) ≤ _;first|(simp;done)|(simp;omega)|omega))
theorem idividedBy_more (x y z n : Int) (w : World) (hn : 1 < n) (h : Vok x y z 1152921504606846976) :
    Calls Tryz.prog 194 #[.agg #[.int .i64 (x), .int .i64 (y), .int .i64 (z)], .int .i64 n] w fun e w' => e = .returned (.agg #[.int .i64 (cut x n), .int .i64 (cut y n), .int .i64 (cut z n)]) ∧ Below w.heap.size w w' := by
  obtain ⟨a1, a2, a3, a4, a5, a6⟩ := h
  have ⟨p1, p2⟩ := tdivb x n _ a1 a2
  have ⟨p3, p4⟩ := tdivb y n _ a3 a4
  have ⟨p5, p6⟩ := tdivb z n _ a5 a6
  have e1 := Lib.hid (cut_more x n hn)
  have e2 := Lib.hid (cut_more y n hn)
  have e3 := Lib.hid (cut_more z n hn)
  have hz : (n == 0) = false := by simp; omega
  have hz2 : ¬ n = 0 := by omega
  go_enter Tryz.func194, Tryz.ntmps194
  go_wp2
  go_region
  go_wp2
  refine bodyPost_ret (v := .agg #[.int .i64 (x.tdiv n), .int .i64 (y.tdiv n), .int .i64 (z.tdiv n)]) (by simp [results, Tryz.results194, go_sem]) rfl ⟨vec_eq e1.out.symm e2.out.symm e3.out.symm, ?_⟩
  repeat' (first|with_reducible (first|exact lowRefl _|apply lowSet|apply lowDrew|apply lowDrewN|apply lowAlloc)|(with_reducible refine lowCall ?_ (by assumption))|(show (_ : Nat) ≤ _;first|(simp;done)|(simp;omega)|omega))
theorem idividedBy_any (x y z n : Int) (w : World) (h : Vok x y z 1152921504606846976) :
    Calls Tryz.prog 194 #[.agg #[.int .i64 (x), .int .i64 (y), .int .i64 (z)], .int .i64 n] w fun e w' => e = .returned (.agg #[.int .i64 (cut x n), .int .i64 (cut y n), .int .i64 (cut z n)]) ∧ Below w.heap.size w w' := by
  by_cases hn : n ≤ 1
  · exact idividedBy_one x y z n w hn
  · exact idividedBy_more x y z n w (by omega) h
theorem l2Cut_any (x n : Int) (w : World) (h1 : -1152921504606846976 ≤ x) (h2 : x ≤ 1152921504606846976) (hn : 1 < n) :
    Calls Tryz.prog 219 #[.int .i64 x, .int .i64 n] w fun e w' => e = .returned (.int .i64 (x.tdiv n)) ∧ w = w' := by
  have ⟨p1, p2⟩ := tdivb x n _ h1 h2
  have hz : (n == 0) = false := by simp; omega
  have hz2 : ¬ n = 0 := by omega
  go_enter Tryz.func219, Tryz.ntmps219
  go_wp2
  go_ret
  exact ⟨rfl, rfl⟩
theorem l2Most_any (x y z : Int) (w : World) (h : Vok x y z 1152921504606846976) :
    Calls Tryz.prog 218 #[.agg #[.int .i64 (x), .int .i64 (y), .int .i64 (z)]] w fun e w' => e = .returned (.int .i64 (big x y z)) ∧ Below w.heap.size w w' := by
  obtain ⟨a1, a2, a3, a4, a5, a6⟩ := h
  go_enter Tryz.func218, Tryz.ntmps218
  go_wp2_with ((go_at_call 214; ((with_reducible refine (abs_any _ _ (by omega) (by omega)).mono ?_); rintro e w' ⟨rfl, rfl⟩)))
  all_goals
    go_ret
    refine ⟨ret_int (by unfold big; omega), ?_⟩
    repeat' (first|with_reducible (first|exact lowRefl _|apply lowSet|apply lowDrew|apply lowDrewN|apply lowAlloc)|(with_reducible refine lowCall ?_ (by assumption))|(show (_ : Nat) ≤ _;first|(simp;done)|(simp;omega)|omega))
def gcd3 (x y z : Int) : Int := (Int.gcd (Int.gcd x y : Int) z : Int)
theorem gcdb (x y m : Int) (h1 : -m ≤ x) (h2 : x ≤ m) (h3 : -m ≤ y) (h4 : y ≤ m) : 0 ≤ (Int.gcd x y : Int) ∧ (Int.gcd x y : Int) ≤ m := by
  refine ⟨by omega, ?_⟩
  by_cases hx : x = 0
  · subst hx; rw [Int.gcd_zero_left]; omega
  · have hle : Int.gcd x y ≤ x.natAbs := Nat.gcd_le_left _ (by omega)
    omega
theorem bigb (x y z m : Int) (h : Vok x y z m) : 0 ≤ big x y z ∧ big x y z ≤ m := by
  obtain ⟨a1, a2, a3, a4, a5, a6⟩ := h
  unfold big
  omega
def sby (x y z c : Int) : Int := -((-(big (cut x c) (cut y c) (cut z c))).fdiv 200)
def sh (x y z t : Int) : Int := cut (cut t (gcd3 x y z)) (sby x y z (gcd3 x y z))
theorem vokCut (x y z c m : Int) (h : Vok x y z m) : Vok (cut x c) (cut y c) (cut z c) m := by
  obtain ⟨a1, a2, a3, a4, a5, a6⟩ := h
  have b1 := cutb x c m a1 a2
  have b2 := cutb y c m a3 a4
  have b3 := cutb z c m a5 a6
  exact ⟨b1.1, b1.2, b2.1, b2.2, b3.1, b3.2⟩
theorem max_if (a b : Int) : (if b > a then b else a) = max a b := by omega
theorem run_max6 (P : Program) (w : World) (ts : Array TypeId) (t : TypeId) (k : IntKind) (a b c x y z : Int) :
    (Builtin.max_ ts t #[.int k a, .int k b, .int k c, .int k x, .int k y, .int k z]).run P w = .ok (.int k (max (max (max (max (max a b) c) x) y) z)) w := by
  simp only [← max_if]
  simp [Builtin.max_, Builtin.max2]
attribute [local go_sem] run_max6
theorem igreatest_any (x y z : Int) (w : World) (h : Vok x y z 1152921504606846976) :
    Calls Tryz.prog 197 #[.agg #[.int .i64 (x), .int .i64 (y), .int .i64 (z)]] w fun e w' => e = .returned (.int .i64 (big x y z)) ∧ Below w.heap.size w w' := by
  obtain ⟨a1, a2, a3, a4, a5, a6⟩ := h
  go_enter Tryz.func197, Tryz.ntmps197
  go_wp2
  go_ret; refine ⟨rfl, ?_⟩; (repeat' (first|with_reducible (first|exact lowRefl _|apply lowSet|apply lowDrew|apply lowDrewN|apply lowAlloc)|(with_reducible refine lowCall ?_ (by assumption))|(show (_ : Nat) ≤ _;first|(simp;done)|(simp;omega)|omega)))
theorem common3 (x y z : Int) (w : World) (h : Whole2 (Int.gcd x y) z) :
    Calls Tryz.prog 195 #[.int .i64 (Int.gcd x y), .int .i64 z] w fun e w' => e = .returned (.int .i64 (gcd3 x y z)) ∧ ∃ n, w' = w.drewN n := common_yes _ _ w h
theorem ceil3 (x y z c : Int) (w : World) (h : Small (big (cut x c) (cut y c) (cut z c)) 200) :
    Calls Tryz.prog 196 #[.int .i64 (big (cut x c) (cut y c) (cut z c)), .int .i64 200] w fun e w' => e = .returned (.int .i64 (sby x y z c)) ∧ w = w' := ceil_yes _ _ w h
attribute [local go_sem] VGo_value VGo_skip VGo_enter
set_option maxHeartbeats 1000000 in
theorem iShort_yes (x y z : Int) (w : World) (h : Vok x y z 1073741824) :
    Calls Tryz.prog 134 #[.agg #[.int .i64 (x), .int .i64 (y), .int .i64 (z)]] w fun e w' => e = .returned (.agg #[.int .i64 (sh x y z x), .int .i64 (sh x y z y), .int .i64 (sh x y z z)]) ∧ Below w.heap.size w w' := by
  have h1 : Vok x y z 1152921504606846976 := by unfold Vok at *; omega
  have h2 : Vok (cut x (gcd3 x y z)) (cut y (gcd3 x y z)) (cut z (gcd3 x y z)) 1152921504606846976 := vokCut _ _ _ _ _ h1
  have h3 := bigb _ _ _ _ h2
  have g1 : Whole2 x y := by unfold Vok at h; unfold Whole2; omega
  have g2 : Whole2 (Int.gcd x y) z := by have := gcdb x y 1073741824 h.1 h.2.1 h.2.2.1 h.2.2.2.1; unfold Vok at h; unfold Whole2; omega
  have g3 : Small (big (cut x (gcd3 x y z)) (cut y (gcd3 x y z)) (cut z (gcd3 x y z))) 200 := by unfold Small; omega
  have H := Lib.hid h
  have H1 := Lib.hid h1
  have H2 := Lib.hid h2
  have G1 := Lib.hid g1
  have G2 := Lib.hid g2
  have G3 := Lib.hid g3
  clear h h1 h2 h3 g1 g2 g3
  go_enter Tryz.func134, Tryz.ntmps134
  go_wp2_with ((go_at_call 53; ((with_reducible refine (ivecOk_yes _ _ _ _ _ (by omega) (by omega) H.out).mono ?_); rintro e w' ⟨rfl, hbq⟩; (try (have B0 := Jb (b := w.heap.size) (by repeat' (first|with_reducible (first|assumption|apply J0|apply J1|apply J2|apply J3|apply J4|apply J5|apply J6|apply J7|apply J8|apply J9)|(with_reducible show _ ≠ _;first|omega|(simp;done)))) hbq; have C0 := Jc B0; have F0 := Jf B0)); (try (have B1 := Jb (b := w.heap.size + 1) (by repeat' (first|with_reducible (first|assumption|apply J0|apply J1|apply J2|apply J3|apply J4|apply J5|apply J6|apply J7|apply J8|apply J9)|(with_reducible show _ ≠ _;first|omega|(simp;done)))) hbq; have C1 := Jc B1; have F1 := Jf B1)); (try (have B2 := Jb (b := w.heap.size + 1 + 1) (by repeat' (first|with_reducible (first|assumption|apply J0|apply J1|apply J2|apply J3|apply J4|apply J5|apply J6|apply J7|apply J8|apply J9)|(with_reducible show _ ≠ _;first|omega|(simp;done)))) hbq; have C2 := Jc B2; have F2 := Jf B2)))))
  (refine wp_region_held1 10 (by kernel_rfl) (by kernel_rfl) rfl (fun _ _ _ d _ h => by cases d <;> exact h) ?_; intro Fq hFq; simp only [List.take_succ_cons, List.take_zero])
  repeat (first | (refine wpHeld_run ?_ rfl ?_ ?_; rotate_left; (focus (intro w' hbq Kq hKq; ((try (have B0 := Jb (b := w.heap.size) (by repeat' (first|with_reducible (first|assumption|apply J0|apply J1|apply J2|apply J3|apply J4|apply J5|apply J6|apply J7|apply J8|apply J9)|(with_reducible show _ ≠ _;first|omega|(simp;done)))) hbq; have C0 := Jc B0; have F0 := Jf B0)); (try (have B1 := Jb (b := w.heap.size + 1) (by repeat' (first|with_reducible (first|assumption|apply J0|apply J1|apply J2|apply J3|apply J4|apply J5|apply J6|apply J7|apply J8|apply J9)|(with_reducible show _ ≠ _;first|omega|(simp;done)))) hbq; have C1 := Jc B1; have F1 := Jf B1)); (try (have B2 := Jb (b := w.heap.size + 1 + 1) (by repeat' (first|with_reducible (first|assumption|apply J0|apply J1|apply J2|apply J3|apply J4|apply J5|apply J6|apply J7|apply J8|apply J9)|(with_reducible show _ ≠ _;first|omega|(simp;done)))) hbq; have C2 := Jc B2; have F2 := Jf B2))); go_simp; (try (rw [IntWalk.i64_in]; rotate_left; focus (constructor <;> omega))); first | exact hKq _ (Below.refl _ _) | first | (go_at_call 195; ((with_reducible refine (common_yes x y _ G1.out).mono ?_); rintro e w2 ⟨rfl, nd, rfl⟩; refine back ?_; exact hKq _ (lowDrewN (Below.refl _ _) nd))) | (go_at_call 195; ((with_reducible refine (common3 _ _ z _ G2.out).mono ?_); rintro e w2 ⟨rfl, nd, rfl⟩; refine back ?_; exact hKq _ (lowDrewN (Below.refl _ _) nd))) | (go_at_call 194; ((with_reducible refine (idividedBy_any x y z _ _ H1.out).mono ?_); rintro e w2 ⟨rfl, hbr⟩; refine back ?_; exact hKq _ hbr)))); ((try simp only [Act.put, List.setIfInBounds_toArray, List.set_cons_zero, List.set_cons_succ]))) | (refine wpHeld_skip (by rfl) ?_; ((try simp only [Act.put, List.setIfInBounds_toArray, List.set_cons_zero, List.set_cons_succ]))))
  (refine wpHeld_nil (hFq _ ?_); clear hFq; intro w' hbq; ((try (have B0 := Jb (b := w.heap.size) (by repeat' (first|with_reducible (first|assumption|apply J0|apply J1|apply J2|apply J3|apply J4|apply J5|apply J6|apply J7|apply J8|apply J9)|(with_reducible show _ ≠ _;first|omega|(simp;done)))) hbq; have C0 := Jc B0; have F0 := Jf B0)); (try (have B1 := Jb (b := w.heap.size + 1) (by repeat' (first|with_reducible (first|assumption|apply J0|apply J1|apply J2|apply J3|apply J4|apply J5|apply J6|apply J7|apply J8|apply J9)|(with_reducible show _ ≠ _;first|omega|(simp;done)))) hbq; have C1 := Jc B1; have F1 := Jf B1)); (try (have B2 := Jb (b := w.heap.size + 1 + 1) (by repeat' (first|with_reducible (first|assumption|apply J0|apply J1|apply J2|apply J3|apply J4|apply J5|apply J6|apply J7|apply J8|apply J9)|(with_reducible show _ ≠ _;first|omega|(simp;done)))) hbq; have C2 := Jc B2; have F2 := Jf B2))))
  go_wp2
  (refine wp_region_held1 5 (by kernel_rfl) (by kernel_rfl) rfl (fun _ _ _ d _ h => by cases d <;> exact h) ?_; intro Fq hFq; simp only [List.take_succ_cons, List.take_zero])
  repeat (first | (refine wpHeld_run ?_ rfl ?_ ?_; rotate_left; (focus (intro w' hbq Kq hKq; ((try (have B0 := Jb (b := w.heap.size) (by repeat' (first|with_reducible (first|assumption|apply J0|apply J1|apply J2|apply J3|apply J4|apply J5|apply J6|apply J7|apply J8|apply J9)|(with_reducible show _ ≠ _;first|omega|(simp;done)))) hbq; have C0 := Jc B0; have F0 := Jf B0)); (try (have B1 := Jb (b := w.heap.size + 1) (by repeat' (first|with_reducible (first|assumption|apply J0|apply J1|apply J2|apply J3|apply J4|apply J5|apply J6|apply J7|apply J8|apply J9)|(with_reducible show _ ≠ _;first|omega|(simp;done)))) hbq; have C1 := Jc B1; have F1 := Jf B1)); (try (have B2 := Jb (b := w.heap.size + 1 + 1) (by repeat' (first|with_reducible (first|assumption|apply J0|apply J1|apply J2|apply J3|apply J4|apply J5|apply J6|apply J7|apply J8|apply J9)|(with_reducible show _ ≠ _;first|omega|(simp;done)))) hbq; have C2 := Jc B2; have F2 := Jf B2))); go_simp; (try (rw [IntWalk.i64_in]; rotate_left; focus (constructor <;> omega))); first | exact hKq _ (Below.refl _ _) | first | (go_at_call 197; ((with_reducible refine (igreatest_any _ _ _ _ H2.out).mono ?_); rintro e w2 ⟨rfl, hbr⟩; refine back ?_; exact hKq _ hbr)) | (go_at_call 196; ((with_reducible refine (ceil3 _ _ _ _ _ G3.out).mono ?_); rintro e w2 ⟨rfl, rfl⟩; refine back ?_; exact hKq _ (Below.refl _ _))) | (go_at_call 194; ((with_reducible refine (idividedBy_any _ _ _ _ _ H2.out).mono ?_); rintro e w2 ⟨rfl, hbr⟩; refine back ?_; exact hKq _ hbr)))); ((try simp only [Act.put, List.setIfInBounds_toArray, List.set_cons_zero, List.set_cons_succ]))) | (refine wpHeld_skip (by rfl) ?_; ((try simp only [Act.put, List.setIfInBounds_toArray, List.set_cons_zero, List.set_cons_succ]))))
  (refine wpHeld_nil (hFq _ ?_); clear hFq; intro w' hbq; ((try (have B0 := Jb (b := w.heap.size) (by repeat' (first|with_reducible (first|assumption|apply J0|apply J1|apply J2|apply J3|apply J4|apply J5|apply J6|apply J7|apply J8|apply J9)|(with_reducible show _ ≠ _;first|omega|(simp;done)))) hbq; have C0 := Jc B0; have F0 := Jf B0)); (try (have B1 := Jb (b := w.heap.size + 1) (by repeat' (first|with_reducible (first|assumption|apply J0|apply J1|apply J2|apply J3|apply J4|apply J5|apply J6|apply J7|apply J8|apply J9)|(with_reducible show _ ≠ _;first|omega|(simp;done)))) hbq; have C1 := Jc B1; have F1 := Jf B1)); (try (have B2 := Jb (b := w.heap.size + 1 + 1) (by repeat' (first|with_reducible (first|assumption|apply J0|apply J1|apply J2|apply J3|apply J4|apply J5|apply J6|apply J7|apply J8|apply J9)|(with_reducible show _ ≠ _;first|omega|(simp;done)))) hbq; have C2 := Jc B2; have F2 := Jf B2))))
  go_wp2
  refine bodyPost_ret (v := .agg #[.int .i64 (cut (cut x (gcd3 x y z)) (sby x y z (gcd3 x y z))), .int .i64 (cut (cut y (gcd3 x y z)) (sby x y z (gcd3 x y z))), .int .i64 (cut (cut z (gcd3 x y z)) (sby x y z (gcd3 x y z)))]) (by simp [results, Tryz.results134, go_sem, *]) rfl ⟨vec_eq (by first | rfl | omega) (by first | rfl | omega) (by first | rfl | omega), ?_⟩; (repeat' (first|with_reducible (first|exact lowRefl _|apply lowSet|apply lowDrew|apply lowDrewN|apply lowAlloc)|(with_reducible refine lowCall ?_ (by assumption))|(show (_ : Nat) ≤ _;first|(simp;done)|(simp;omega)|omega)))
end Go.Proofs.YtegibpepdndocabGreat
