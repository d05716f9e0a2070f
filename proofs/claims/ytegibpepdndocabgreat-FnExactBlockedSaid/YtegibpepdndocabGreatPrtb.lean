import Derived.Deep.MidRow
import Derived.Deep.WholeRow
import Derived.Laws.CopyOwn
import Derived.Test.YtegibpepdndocabGreatBoxb
import Derived.Test.YtegibpepdndocabGreatHeldb
import Derived.Test.YtegibpepdndocabGreatMotSb
import Derived.Test.YtegibpepdndocabGreatMotTb
import Derived.Test.YtegibpepdndocabGreatMotUb
import Derived.Test.YtegibpepdndocabGreatRootb
section
namespace Go.Proofs.YtegibpepdndocabGreat
open Has renaming new → J0, new1 → J1, new2 → J2, new3 → J3, new4 → J4, drew → J5, drewN → J6, alloc → J7, same → J8, other → J9, cell → Jc, frozen → Jf, below → Jb
open Go.ChangeShapes Go.WideShapes Go.ChangeAt Go.RowKit
set_option maxHeartbeats 2000000

attribute [local go_sem] VGo_value VGo_skip VGo_enter
def TuE (a b c : Int) (k l n : Bool) (x y z X Y Z : Int) : Prop := tu a k x y z = X ∧ tu b l x y z = Y ∧ tu c n x y z = Z
theorem tuE_vok {a b c x y z X Y Z m : Int} {k l n : Bool} (h : TuE a b c k l n x y z X Y Z) (hv : Vok x y z m) : Vok X Y Z m := by
  obtain ⟨rfl, rfl, rfl⟩ := h
  exact tu3_vok hv
theorem turnedByV (a b c : Int) (k l n : Bool) (p q r x y z X Y Z : Int) (w : World) (h : Perm a b c) (hv : Vok x y z 1048576) (e : TuE a b c k l n x y z X Y Z) :
    Calls Tryz.prog 115 #[.agg #[.int .i64 (a), .int .i64 (b), .int .i64 (c), .bool (k), .bool (l), .bool (n), .int .i64 (p), .int .i64 (q), .int .i64 (r)], .agg #[.int .i64 (x), .int .i64 (y), .int .i64 (z)]] w fun e w' => e = .returned (.agg #[.int .i64 (X), .int .i64 (Y), .int .i64 (Z)]) ∧ Below w.heap.size w w' := by
  obtain ⟨rfl, rfl, rfl⟩ := e
  exact turnedBy_any a b c k l n p q r x y z w h hv
theorem l3TurnedV (a b c : Int) (k l n : Bool) (p q r x y z X Y Z : Int) (w : World) (h : Perm a b c) (hv : Vok x y z 1048576) (e : TuE a b c k l n x y z X Y Z) :
    Calls Tryz.prog 237 #[.agg #[.int .i64 (a), .int .i64 (b), .int .i64 (c), .bool (k), .bool (l), .bool (n), .int .i64 (p), .int .i64 (q), .int .i64 (r)], .agg #[.int .i64 (x), .int .i64 (y), .int .i64 (z)]] w fun e w' => e = .returned (.agg #[.int .i64 (X), .int .i64 (Y), .int .i64 (Z)]) ∧ Below w.heap.size w w' := by
  obtain ⟨rfl, rfl, rfl⟩ := e
  exact l3Turned_any a b c k l n p q r x y z w h hv

theorem iMoved_yes (a b c : Int) (k l n : Bool) (p q r x y z X Y Z : Int) (w : World) (h : Mok a b c p q r) (hv : Vok x y z 1048576) (ht : TuE a b c k l n x y z X Y Z) :
    Calls Tryz.prog 54 #[.agg #[.int .i64 (a), .int .i64 (b), .int .i64 (c), .bool (k), .bool (l), .bool (n), .int .i64 (p), .int .i64 (q), .int .i64 (r)], .agg #[.int .i64 (x), .int .i64 (y), .int .i64 (z)]] w fun e w' => e = .returned (.agg #[.int .i64 (X + p), .int .i64 (Y + q), .int .i64 (Z + r)]) ∧ Below w.heap.size w w' := by
  have HM := Lib.hid h
  have HP := Lib.hid h.1
  have HV := Lib.hid hv
  have HT := Lib.hid ht
  have V1 := Lib.hid (tuE_vok ht hv)
  have V2 : Hid (Vok p q r 1048576) := Lib.hid (by have := h.2; unfold Vok at *; omega)
  clear h hv ht
  go_enter Tryz.func54, Tryz.ntmps54
  go_upto_region 3 with (first | (go_at_call 112; ((with_reducible refine (imotOk_yes _ _ _ _ _ _ _ _ _ _ HM.out).mono ?_); rintro e w' ⟨rfl, hbq⟩; (try (have B0 := Jb (b := w.heap.size) (by repeat' (first|with_reducible (first|assumption|apply J0|apply J1|apply J2|apply J3|apply J4|apply J5|apply J6|apply J7|apply J8|apply J9)|(with_reducible show _ ≠ _;first|omega|(simp;done)))) hbq; have C0 := Jc B0; have F0 := Jf B0)); (try (have B1 := Jb (b := w.heap.size + 1) (by repeat' (first|with_reducible (first|assumption|apply J0|apply J1|apply J2|apply J3|apply J4|apply J5|apply J6|apply J7|apply J8|apply J9)|(with_reducible show _ ≠ _;first|omega|(simp;done)))) hbq; have C1 := Jc B1; have F1 := Jf B1)); (try (have B2 := Jb (b := w.heap.size + 1 + 1) (by repeat' (first|with_reducible (first|assumption|apply J0|apply J1|apply J2|apply J3|apply J4|apply J5|apply J6|apply J7|apply J8|apply J9)|(with_reducible show _ ≠ _;first|omega|(simp;done)))) hbq; have C2 := Jc B2; have F2 := Jf B2)))) | (go_at_call 53; ((with_reducible refine (ivecOk_yes _ _ _ _ _ (by omega) (by omega) HV.out).mono ?_); rintro e w' ⟨rfl, hbq⟩; (try (have B0 := Jb (b := w.heap.size) (by repeat' (first|with_reducible (first|assumption|apply J0|apply J1|apply J2|apply J3|apply J4|apply J5|apply J6|apply J7|apply J8|apply J9)|(with_reducible show _ ≠ _;first|omega|(simp;done)))) hbq; have C0 := Jc B0; have F0 := Jf B0)); (try (have B1 := Jb (b := w.heap.size + 1) (by repeat' (first|with_reducible (first|assumption|apply J0|apply J1|apply J2|apply J3|apply J4|apply J5|apply J6|apply J7|apply J8|apply J9)|(with_reducible show _ ≠ _;first|omega|(simp;done)))) hbq; have C1 := Jc B1; have F1 := Jf B1)); (try (have B2 := Jb (b := w.heap.size + 1 + 1) (by repeat' (first|with_reducible (first|assumption|apply J0|apply J1|apply J2|apply J3|apply J4|apply J5|apply J6|apply J7|apply J8|apply J9)|(with_reducible show _ ≠ _;first|omega|(simp;done)))) hbq; have C2 := Jc B2; have F2 := Jf B2)))))
  (refine wp_region_held1 6 (by kernel_rfl) (by kernel_rfl) rfl (fun _ _ _ d _ h => by cases d <;> exact h) ?_; intro Fq hFq; simp only [List.take_succ_cons, List.take_zero])
  repeat (first | (refine wpHeld_run ?_ rfl ?_ ?_; rotate_left; (focus (intro w' hbq Kq hKq; ((try (have B0 := Jb (b := w.heap.size) (by repeat' (first|with_reducible (first|assumption|apply J0|apply J1|apply J2|apply J3|apply J4|apply J5|apply J6|apply J7|apply J8|apply J9)|(with_reducible show _ ≠ _;first|omega|(simp;done)))) hbq; have C0 := Jc B0; have F0 := Jf B0)); (try (have B1 := Jb (b := w.heap.size + 1) (by repeat' (first|with_reducible (first|assumption|apply J0|apply J1|apply J2|apply J3|apply J4|apply J5|apply J6|apply J7|apply J8|apply J9)|(with_reducible show _ ≠ _;first|omega|(simp;done)))) hbq; have C1 := Jc B1; have F1 := Jf B1)); (try (have B2 := Jb (b := w.heap.size + 1 + 1) (by repeat' (first|with_reducible (first|assumption|apply J0|apply J1|apply J2|apply J3|apply J4|apply J5|apply J6|apply J7|apply J8|apply J9)|(with_reducible show _ ≠ _;first|omega|(simp;done)))) hbq; have C2 := Jc B2; have F2 := Jf B2))); go_simp; (try (rw [IntWalk.i64_in]; rotate_left; focus (constructor <;> omega))); first | exact hKq _ (Below.refl _ _) | first | (go_at_call 115; ((with_reducible refine (turnedByV _ _ _ _ _ _ _ _ _ _ _ _ _ _ _ _ HP.out HV.out HT.out).mono ?_); rintro e w2 ⟨rfl, hbr⟩; refine back ?_; exact hKq _ hbr)) | (go_at_call 114; ((with_reducible refine (iPlus_yes _ _ _ _ _ _ _ V1.out V2.out).mono ?_); rintro e w2 ⟨rfl, hbr⟩; refine back ?_; exact hKq _ hbr)))); ((try simp only [Act.put, List.setIfInBounds_toArray, List.set_cons_zero, List.set_cons_succ]))) | (refine wpHeld_skip (by rfl) ?_; ((try simp only [Act.put, List.setIfInBounds_toArray, List.set_cons_zero, List.set_cons_succ]))))
  (refine wpHeld_nil (hFq _ ?_); clear hFq; intro w' hbq; ((try (have B0 := Jb (b := w.heap.size) (by repeat' (first|with_reducible (first|assumption|apply J0|apply J1|apply J2|apply J3|apply J4|apply J5|apply J6|apply J7|apply J8|apply J9)|(with_reducible show _ ≠ _;first|omega|(simp;done)))) hbq; have C0 := Jc B0; have F0 := Jf B0)); (try (have B1 := Jb (b := w.heap.size + 1) (by repeat' (first|with_reducible (first|assumption|apply J0|apply J1|apply J2|apply J3|apply J4|apply J5|apply J6|apply J7|apply J8|apply J9)|(with_reducible show _ ≠ _;first|omega|(simp;done)))) hbq; have C1 := Jc B1; have F1 := Jf B1)); (try (have B2 := Jb (b := w.heap.size + 1 + 1) (by repeat' (first|with_reducible (first|assumption|apply J0|apply J1|apply J2|apply J3|apply J4|apply J5|apply J6|apply J7|apply J8|apply J9)|(with_reducible show _ ≠ _;first|omega|(simp;done)))) hbq; have C2 := Jc B2; have F2 := Jf B2))))
  go_wp2
  refine bodyPost_ret (v := .agg #[.int .i64 (X + p), .int .i64 (Y + q), .int .i64 (Z + r)]) (by simp [results, Tryz.results54, go_sem, *]) rfl ⟨vec_eq (by first | rfl | omega) (by first | rfl | omega) (by first | rfl | omega), ?_⟩; (repeat' (first|with_reducible (first|exact lowRefl _|apply lowSet|apply lowDrew|apply lowDrewN|apply lowAlloc)|(with_reducible refine lowCall ?_ (by assumption))|(show (_ : Nat) ≤ _;first|(simp;done)|(simp;omega)|omega)))
theorem iTurned_yes (a b c : Int) (k l n : Bool) (p q r x y z X Y Z : Int) (w : World) (h : Mok a b c p q r) (hv : Vok x y z 1048576) (ht : TuE a b c k l n x y z X Y Z) :
    Calls Tryz.prog 113 #[.agg #[.int .i64 (a), .int .i64 (b), .int .i64 (c), .bool (k), .bool (l), .bool (n), .int .i64 (p), .int .i64 (q), .int .i64 (r)], .agg #[.int .i64 (x), .int .i64 (y), .int .i64 (z)]] w fun e w' => e = .returned (.agg #[.int .i64 (X), .int .i64 (Y), .int .i64 (Z)]) ∧ Below w.heap.size w w' := by
  have HM := Lib.hid h
  have HP := Lib.hid h.1
  have HV := Lib.hid hv
  have HT := Lib.hid ht
  clear h hv ht
  go_enter Tryz.func113, Tryz.ntmps113
  go_wp2_with (first | (go_at_call 112; ((with_reducible refine (imotOk_yes _ _ _ _ _ _ _ _ _ _ HM.out).mono ?_); rintro e w' ⟨rfl, hbq⟩; (try (have B0 := Jb (b := w.heap.size) (by repeat' (first|with_reducible (first|assumption|apply J0|apply J1|apply J2|apply J3|apply J4|apply J5|apply J6|apply J7|apply J8|apply J9)|(with_reducible show _ ≠ _;first|omega|(simp;done)))) hbq; have C0 := Jc B0; have F0 := Jf B0)); (try (have B1 := Jb (b := w.heap.size + 1) (by repeat' (first|with_reducible (first|assumption|apply J0|apply J1|apply J2|apply J3|apply J4|apply J5|apply J6|apply J7|apply J8|apply J9)|(with_reducible show _ ≠ _;first|omega|(simp;done)))) hbq; have C1 := Jc B1; have F1 := Jf B1)); (try (have B2 := Jb (b := w.heap.size + 1 + 1) (by repeat' (first|with_reducible (first|assumption|apply J0|apply J1|apply J2|apply J3|apply J4|apply J5|apply J6|apply J7|apply J8|apply J9)|(with_reducible show _ ≠ _;first|omega|(simp;done)))) hbq; have C2 := Jc B2; have F2 := Jf B2)))) | (go_at_call 53; ((with_reducible refine (ivecOk_yes _ _ _ _ _ (by omega) (by omega) HV.out).mono ?_); rintro e w' ⟨rfl, hbq⟩; (try (have B0 := Jb (b := w.heap.size) (by repeat' (first|with_reducible (first|assumption|apply J0|apply J1|apply J2|apply J3|apply J4|apply J5|apply J6|apply J7|apply J8|apply J9)|(with_reducible show _ ≠ _;first|omega|(simp;done)))) hbq; have C0 := Jc B0; have F0 := Jf B0)); (try (have B1 := Jb (b := w.heap.size + 1) (by repeat' (first|with_reducible (first|assumption|apply J0|apply J1|apply J2|apply J3|apply J4|apply J5|apply J6|apply J7|apply J8|apply J9)|(with_reducible show _ ≠ _;first|omega|(simp;done)))) hbq; have C1 := Jc B1; have F1 := Jf B1)); (try (have B2 := Jb (b := w.heap.size + 1 + 1) (by repeat' (first|with_reducible (first|assumption|apply J0|apply J1|apply J2|apply J3|apply J4|apply J5|apply J6|apply J7|apply J8|apply J9)|(with_reducible show _ ≠ _;first|omega|(simp;done)))) hbq; have C2 := Jc B2; have F2 := Jf B2)))) | (go_at_call 115; ((with_reducible refine (turnedByV _ _ _ _ _ _ _ _ _ _ _ _ _ _ _ _ HP.out HV.out HT.out).mono ?_); rintro e w' ⟨rfl, hbq⟩; (try (have B0 := Jb (b := w.heap.size) (by repeat' (first|with_reducible (first|assumption|apply J0|apply J1|apply J2|apply J3|apply J4|apply J5|apply J6|apply J7|apply J8|apply J9)|(with_reducible show _ ≠ _;first|omega|(simp;done)))) hbq; have C0 := Jc B0; have F0 := Jf B0)); (try (have B1 := Jb (b := w.heap.size + 1) (by repeat' (first|with_reducible (first|assumption|apply J0|apply J1|apply J2|apply J3|apply J4|apply J5|apply J6|apply J7|apply J8|apply J9)|(with_reducible show _ ≠ _;first|omega|(simp;done)))) hbq; have C1 := Jc B1; have F1 := Jf B1)); (try (have B2 := Jb (b := w.heap.size + 1 + 1) (by repeat' (first|with_reducible (first|assumption|apply J0|apply J1|apply J2|apply J3|apply J4|apply J5|apply J6|apply J7|apply J8|apply J9)|(with_reducible show _ ≠ _;first|omega|(simp;done)))) hbq; have C2 := Jc B2; have F2 := Jf B2)))))
  refine bodyPost_ret (v := .agg #[.int .i64 (X), .int .i64 (Y), .int .i64 (Z)]) (by simp [results, Tryz.results113, go_sem, *]) rfl ⟨vec_eq (by first | rfl | omega) (by first | rfl | omega) (by first | rfl | omega), ?_⟩; (repeat' (first|with_reducible (first|exact lowRefl _|apply lowSet|apply lowDrew|apply lowDrewN|apply lowAlloc)|(with_reducible refine lowCall ?_ (by assumption))|(show (_ : Nat) ≤ _;first|(simp;done)|(simp;omega)|omega)))
theorem l3MovedV (a b c : Int) (k l n : Bool) (p q r x y z X Y Z : Int) (w : World) (h : Mok a b c p q r) (hv : Vok x y z 1048576) (ht : TuE a b c k l n x y z X Y Z) :
    Calls Tryz.prog 209 #[.agg #[.int .i64 (a), .int .i64 (b), .int .i64 (c), .bool (k), .bool (l), .bool (n), .int .i64 (p), .int .i64 (q), .int .i64 (r)], .agg #[.int .i64 (x), .int .i64 (y), .int .i64 (z)]] w fun e w' => e = .returned (.agg #[.int .i64 (X + p), .int .i64 (Y + q), .int .i64 (Z + r)]) ∧ Below w.heap.size w w' := by
  have HP := Lib.hid h.1
  have HV := Lib.hid hv
  have HT := Lib.hid ht
  have V1 : Hid (Vok X Y Z 1152921504606846976) := Lib.hid (by have := tuE_vok ht hv; unfold Vok at *; omega)
  have V2 : Hid (Vok p q r 1152921504606846976) := Lib.hid (by have := h.2; unfold Vok at *; omega)
  clear h hv ht
  go_enter Tryz.func209, Tryz.ntmps209
  go_upto_region 1 with fail
  (refine wp_region_held1 6 (by kernel_rfl) (by kernel_rfl) rfl (fun _ _ _ d _ h => by cases d <;> exact h) ?_; intro Fq hFq; simp only [List.take_succ_cons, List.take_zero])
  repeat (first | (refine wpHeld_run ?_ rfl ?_ ?_; rotate_left; (focus (intro w' hbq Kq hKq; ((try (have B0 := Jb (b := w.heap.size) (by repeat' (first|with_reducible (first|assumption|apply J0|apply J1|apply J2|apply J3|apply J4|apply J5|apply J6|apply J7|apply J8|apply J9)|(with_reducible show _ ≠ _;first|omega|(simp;done)))) hbq; have C0 := Jc B0; have F0 := Jf B0)); (try (have B1 := Jb (b := w.heap.size + 1) (by repeat' (first|with_reducible (first|assumption|apply J0|apply J1|apply J2|apply J3|apply J4|apply J5|apply J6|apply J7|apply J8|apply J9)|(with_reducible show _ ≠ _;first|omega|(simp;done)))) hbq; have C1 := Jc B1; have F1 := Jf B1)); (try (have B2 := Jb (b := w.heap.size + 1 + 1) (by repeat' (first|with_reducible (first|assumption|apply J0|apply J1|apply J2|apply J3|apply J4|apply J5|apply J6|apply J7|apply J8|apply J9)|(with_reducible show _ ≠ _;first|omega|(simp;done)))) hbq; have C2 := Jc B2; have F2 := Jf B2))); go_simp; (try (rw [IntWalk.i64_in]; rotate_left; focus (constructor <;> omega))); first | exact hKq _ (Below.refl _ _) | first | (go_at_call 237; ((with_reducible refine (l3TurnedV _ _ _ _ _ _ _ _ _ _ _ _ _ _ _ _ HP.out HV.out HT.out).mono ?_); rintro e w2 ⟨rfl, hbr⟩; refine back ?_; exact hKq _ hbr)) | (go_at_call 155; ((with_reducible refine (l2Plus_any _ _ _ _ _ _ _ V1.out V2.out).mono ?_); rintro e w2 ⟨rfl, hbr⟩; refine back ?_; exact hKq _ hbr)))); ((try simp only [Act.put, List.setIfInBounds_toArray, List.set_cons_zero, List.set_cons_succ]))) | (refine wpHeld_skip (by rfl) ?_; ((try simp only [Act.put, List.setIfInBounds_toArray, List.set_cons_zero, List.set_cons_succ]))))
  (refine wpHeld_nil (hFq _ ?_); clear hFq; intro w' hbq; ((try (have B0 := Jb (b := w.heap.size) (by repeat' (first|with_reducible (first|assumption|apply J0|apply J1|apply J2|apply J3|apply J4|apply J5|apply J6|apply J7|apply J8|apply J9)|(with_reducible show _ ≠ _;first|omega|(simp;done)))) hbq; have C0 := Jc B0; have F0 := Jf B0)); (try (have B1 := Jb (b := w.heap.size + 1) (by repeat' (first|with_reducible (first|assumption|apply J0|apply J1|apply J2|apply J3|apply J4|apply J5|apply J6|apply J7|apply J8|apply J9)|(with_reducible show _ ≠ _;first|omega|(simp;done)))) hbq; have C1 := Jc B1; have F1 := Jf B1)); (try (have B2 := Jb (b := w.heap.size + 1 + 1) (by repeat' (first|with_reducible (first|assumption|apply J0|apply J1|apply J2|apply J3|apply J4|apply J5|apply J6|apply J7|apply J8|apply J9)|(with_reducible show _ ≠ _;first|omega|(simp;done)))) hbq; have C2 := Jc B2; have F2 := Jf B2))))
  go_wp2
  refine bodyPost_ret (v := .agg #[.int .i64 (X + p), .int .i64 (Y + q), .int .i64 (Z + r)]) (by simp [results, Tryz.results209, go_sem, *]) rfl ⟨vec_eq (by first | rfl | omega) (by first | rfl | omega) (by first | rfl | omega), ?_⟩; (repeat' (first|with_reducible (first|exact lowRefl _|apply lowSet|apply lowDrew|apply lowDrewN|apply lowAlloc)|(with_reducible refine lowCall ?_ (by assumption))|(show (_ : Nat) ≤ _;first|(simp;done)|(simp;omega)|omega)))
end Go.Proofs.YtegibpepdndocabGreat
end
section
namespace Go.Proofs.YtegibpepdndocabGreat
open Go Go.RowKit
/- a draw of the order makes nothing -/
theorem undrew {w w' : World} (h : Below w.drew.heap.size w.drew w') : Below w.heap.size w w' := ⟨h.os, h.tape, h.output, h.size, h.block⟩
end Go.Proofs.YtegibpepdndocabGreat
end
section
namespace Go.Proofs.YtegibpepdndocabGreat
open Go.ChangeShapes Go.WideShapes Go.ChangeAt Go.RowKit
set_option linter.unusedSimpArgs false
set_option maxHeartbeats 1000000

attribute [local go_sem] VGo_value VGo_skip VGo_enter
/- parts of solids as plain words -/
structure Mo where
  a : Int
  b : Int
  c : Int
  k : Bool
  l : Bool
  n : Bool
  p : Int
  q : Int
  r : Int
structure Sx where
  a : Int
  b : Int
  c : Int
  d : Int
  e : Int
  f : Int
structure Pt where
  k : Int
  h : Qd
  b : Qd
  x : Sx
  m : Mo
  A : Int
  B : Int
  S : Int
def Pt.cells (p : Pt) : List Value :=
  [.int .i64 p.k, .int .i64 p.h.f, .int .i64 p.h.t, .int .i64 p.h.i, .int .i64 p.h.o, .int .i64 p.b.f, .int .i64 p.b.t, .int .i64 p.b.i, .int .i64 p.b.o,
   .int .i64 p.x.a, .int .i64 p.x.b, .int .i64 p.x.c, .int .i64 p.x.d, .int .i64 p.x.e, .int .i64 p.x.f,
   .int .i64 p.m.a, .int .i64 p.m.b, .int .i64 p.m.c, .bool p.m.k, .bool p.m.l, .bool p.m.n, .int .i64 p.m.p, .int .i64 p.m.q, .int .i64 p.m.r, .int .i64 p.A, .int .i64 p.B, .int .i64 p.S]
def Pt.arr (p : Pt) : Array Value := p.cells.toArray
abbrev Pt.val (p : Pt) : Value := .agg p.arr
theorem Pt.cells_len (p : Pt) : p.cells.length = 27 := rfl
/- its cells one by one -/
structure Pt.At (c : Nat → Option Value) (p : Pt) : Prop where
  c0 : c 0 = some (.int .i64 p.k)
  c1 : c 1 = some (.int .i64 p.h.f)
  c2 : c 2 = some (.int .i64 p.h.t)
  c3 : c 3 = some (.int .i64 p.h.i)
  c4 : c 4 = some (.int .i64 p.h.o)
  c5 : c 5 = some (.int .i64 p.b.f)
  c6 : c 6 = some (.int .i64 p.b.t)
  c7 : c 7 = some (.int .i64 p.b.i)
  c8 : c 8 = some (.int .i64 p.b.o)
  c9 : c 9 = some (.int .i64 p.x.a)
  c10 : c 10 = some (.int .i64 p.x.b)
  c11 : c 11 = some (.int .i64 p.x.c)
  c12 : c 12 = some (.int .i64 p.x.d)
  c13 : c 13 = some (.int .i64 p.x.e)
  c14 : c 14 = some (.int .i64 p.x.f)
  c15 : c 15 = some (.int .i64 p.m.a)
  c16 : c 16 = some (.int .i64 p.m.b)
  c17 : c 17 = some (.int .i64 p.m.c)
  c18 : c 18 = some (.bool p.m.k)
  c19 : c 19 = some (.bool p.m.l)
  c20 : c 20 = some (.bool p.m.n)
  c21 : c 21 = some (.int .i64 p.m.p)
  c22 : c 22 = some (.int .i64 p.m.q)
  c23 : c 23 = some (.int .i64 p.m.r)
  c24 : c 24 = some (.int .i64 p.A)
  c25 : c 25 = some (.int .i64 p.B)
  c26 : c 26 = some (.int .i64 p.S)
theorem Pt.arr0 (p : Pt) : p.arr[0]? = some (.int .i64 p.k) := rfl
theorem Pt.arr1 (p : Pt) : p.arr[1]? = some (.int .i64 p.h.f) := rfl
theorem Pt.arr2 (p : Pt) : p.arr[2]? = some (.int .i64 p.h.t) := rfl
theorem Pt.arr3 (p : Pt) : p.arr[3]? = some (.int .i64 p.h.i) := rfl
theorem Pt.arr4 (p : Pt) : p.arr[4]? = some (.int .i64 p.h.o) := rfl
theorem Pt.arr5 (p : Pt) : p.arr[5]? = some (.int .i64 p.b.f) := rfl
theorem Pt.arr6 (p : Pt) : p.arr[6]? = some (.int .i64 p.b.t) := rfl
theorem Pt.arr7 (p : Pt) : p.arr[7]? = some (.int .i64 p.b.i) := rfl
theorem Pt.arr8 (p : Pt) : p.arr[8]? = some (.int .i64 p.b.o) := rfl
theorem Pt.arr9 (p : Pt) : p.arr[9]? = some (.int .i64 p.x.a) := rfl
theorem Pt.arr10 (p : Pt) : p.arr[10]? = some (.int .i64 p.x.b) := rfl
theorem Pt.arr11 (p : Pt) : p.arr[11]? = some (.int .i64 p.x.c) := rfl
theorem Pt.arr12 (p : Pt) : p.arr[12]? = some (.int .i64 p.x.d) := rfl
theorem Pt.arr13 (p : Pt) : p.arr[13]? = some (.int .i64 p.x.e) := rfl
theorem Pt.arr14 (p : Pt) : p.arr[14]? = some (.int .i64 p.x.f) := rfl
theorem Pt.arr15 (p : Pt) : p.arr[15]? = some (.int .i64 p.m.a) := rfl
theorem Pt.arr16 (p : Pt) : p.arr[16]? = some (.int .i64 p.m.b) := rfl
theorem Pt.arr17 (p : Pt) : p.arr[17]? = some (.int .i64 p.m.c) := rfl
theorem Pt.arr18 (p : Pt) : p.arr[18]? = some (.bool p.m.k) := rfl
theorem Pt.arr19 (p : Pt) : p.arr[19]? = some (.bool p.m.l) := rfl
theorem Pt.arr20 (p : Pt) : p.arr[20]? = some (.bool p.m.n) := rfl
theorem Pt.arr21 (p : Pt) : p.arr[21]? = some (.int .i64 p.m.p) := rfl
theorem Pt.arr22 (p : Pt) : p.arr[22]? = some (.int .i64 p.m.q) := rfl
theorem Pt.arr23 (p : Pt) : p.arr[23]? = some (.int .i64 p.m.r) := rfl
theorem Pt.arr24 (p : Pt) : p.arr[24]? = some (.int .i64 p.A) := rfl
theorem Pt.arr25 (p : Pt) : p.arr[25]? = some (.int .i64 p.B) := rfl
theorem Pt.arr26 (p : Pt) : p.arr[26]? = some (.int .i64 p.S) := rfl
attribute [local go_sem] Pt.arr0 Pt.arr1 Pt.arr2 Pt.arr3 Pt.arr4 Pt.arr5 Pt.arr6 Pt.arr7 Pt.arr8 Pt.arr9 Pt.arr10 Pt.arr11 Pt.arr12 Pt.arr13 Pt.arr14 Pt.arr15 Pt.arr16 Pt.arr17 Pt.arr18 Pt.arr19 Pt.arr20 Pt.arr21 Pt.arr22 Pt.arr23 Pt.arr24 Pt.arr25 Pt.arr26
/- a whole part is read out of a block that holds it, and laid into one -/
theorem lvA {t : TypeId} {a : Addr} {w : World} (h : (isAgg t).run Tryz.prog w = .ok false w) : (loadVar t a).run Tryz.prog w = (load a).run Tryz.prog w := by
  simp only [loadVar, Sem.run_bind, h, Result.andThen_ok, Bool.false_eq_true, if_false]
theorem lvB {t : TypeId} {a : Addr} {w : World} (h : (isAgg t).run Tryz.prog w = .ok true w) :
    (loadVar t a).run Tryz.prog w = ((sizeOf t).run Tryz.prog w).andThen fun n w1 => ((loadCells a n).run Tryz.prog w1).andThen fun cs w2 => .ok (.agg cs) w2 := by
  simp only [loadVar, Sem.run_bind, h, Result.andThen_ok, if_true, Sem.run_pure]
theorem lvVec (a : Addr) (w : World) : (loadVar 38 a).run Tryz.prog w = ((loadCells a 3).run Tryz.prog w).andThen fun cs w2 => .ok (.agg cs) w2 := by
  rw [lvB (Tryz.isAgg38 w), Tryz.sizeOf38 w, Result.andThen_ok]
theorem lvHalf (a : Addr) (w : World) : (loadVar 41 a).run Tryz.prog w = ((loadCells a 4).run Tryz.prog w).andThen fun cs w2 => .ok (.agg cs) w2 := by
  rw [lvB (Tryz.isAgg41 w), Tryz.sizeOf41 w, Result.andThen_ok]
theorem lvBall (a : Addr) (w : World) : (loadVar 43 a).run Tryz.prog w = ((loadCells a 4).run Tryz.prog w).andThen fun cs w2 => .ok (.agg cs) w2 := by
  rw [lvB (Tryz.isAgg43 w), Tryz.sizeOf43 w, Result.andThen_ok]
theorem lvBox (a : Addr) (w : World) : (loadVar 45 a).run Tryz.prog w = ((loadCells a 6).run Tryz.prog w).andThen fun cs w2 => .ok (.agg cs) w2 := by
  rw [lvB (Tryz.isAgg45 w), Tryz.sizeOf45 w, Result.andThen_ok]
theorem lvMot (a : Addr) (w : World) : (loadVar 47 a).run Tryz.prog w = ((loadCells a 9).run Tryz.prog w).andThen fun cs w2 => .ok (.agg cs) w2 := by
  rw [lvB (Tryz.isAgg47 w), Tryz.sizeOf47 w, Result.andThen_ok]
theorem svA {t : TypeId} {a : Addr} {v : Value} {w : World} (h : (sizeOf t).run Tryz.prog w = .ok v.cells.size w) : (storeVar t a v).run Tryz.prog w = (storeCells a v.cells.toList).run Tryz.prog w := by
  unfold storeVar
  rw [Sem.run_bind, h, Result.andThen_ok]
  simp
theorem ptSize : (Tryz.prog.info? 49).map (·.size) = some 27 := by kernel_rfl
theorem ptLoad (p : Pt) {w : World} {b : Nat} {T : TypeId} (h : Has w b p.arr T) : (loadVar 49 ⟨b, 0, none⟩).run Tryz.prog w = .ok p.val w := by
  have hr : w.rangeAt b 0 p.cells := fun j v hj => by rw [Nat.zero_add, Has.cell h, ← hj]; simp [Pt.arr]
  exact run_loadVar_mid w b 0 _ p.cells _ hr Tryz.underlying49 rfl ptSize
theorem ptLoadNew (p : Pt) (w : World) : (loadVar 49 ⟨w.heap.size, 0, none⟩).run Tryz.prog (w.alloc (.cells p.arr 49)) = .ok p.val (w.alloc (.cells p.arr 49)) := ptLoad p (Has.new w p.arr 49)
theorem Pt.one (p : Pt) : ∀ v ∈ p.cells, v.oneCell' = true := by
  intro v hv
  simp only [Pt.cells, List.mem_cons, List.not_mem_nil, or_false] at hv
  rcases hv with h | h | h | h | h | h | h | h | h | h | h | h | h | h | h | h | h | h | h | h | h | h | h | h | h | h | h <;> (rw [h]; rfl)
theorem ptStoreNew (p : Pt) (cs : Array Value) (w : World) (hs : cs.size = 27) : (storeVar 49 ⟨w.heap.size, 0, none⟩ p.val).run Tryz.prog (w.alloc (.cells cs 49)) = .ok () (w.alloc (.cells p.arr 49)) := by
  have := run_storeAt_new (P := Tryz.prog) w 49 cs p.arr ptSize hs (all_oneCell_toArray p.one)
  simpa only [Instr.storeAt, Instr.sureAddr, Sem.run_bind, Sem.run_pure, Result.andThen] using this
def Pt.zero : Pt := ⟨0, ⟨0, 0, 0, 0⟩, ⟨0, 0, 0, 0⟩, ⟨0, 0, 0, 0, 0, 0⟩, ⟨0, 0, 0, false, false, false, 0, 0, 0⟩, 0, 0, 0⟩
theorem ptZeroV (w : World) : (zeroValue 49).run Tryz.prog w = .ok Pt.zero.val w := Tryz.zeroValue49 w
/- a value is laid into a block that is known whole -/
theorem ptStore (p : Pt) {w : World} {b : Nat} {cs : Array Value} {T : TypeId} (h : Has w b cs T) (hs : cs.size = 27) : (storeVar 49 ⟨b, 0, none⟩ p.val).run Tryz.prog w = .ok () (w.setRow b p.arr) :=
  run_storeVar_row w b T _ cs p.arr h ptSize hs (all_oneCell_toArray p.one)
theorem Has.setRow {w : World} {b : Nat} {cs : Array Value} {T : TypeId} (h : Has w b cs T) (cs' : Array Value) : Has (w.setRow b cs') b cs' T := setRow_heap w b cs cs' T _ h
theorem Has.setRowO {w : World} {b g : Nat} {cs : Array Value} {T : TypeId} (hne : b ≠ g) (h : Has w b cs T) (cs' : Array Value) : Has (w.setRow g cs') b cs T := (setRow_other w g b cs' hne).trans h
theorem lowRow {a w : World} {g : Nat} (h : Below a.heap.size a w) (hg : a.heap.size ≤ g) (cs : Array Value) : Below a.heap.size a (w.setRow g cs) := below_setRow h hg cs
/- parts that lie in a row -/
def Pat (w : World) (b k : Nat) (p : Pt) : Prop := w.rangeAt b k p.cells
theorem Pat.lt {w : World} {b k : Nat} {p : Pt} (h : Pat w b k p) : b < w.heap.size := block_lt_of_cell (h 0 _ rfl)
theorem Pat.lift {w w' : World} {b k : Nat} {p : Pt} (h : Pat w b k p) (he : w'.heap[b]? = w.heap[b]?) : Pat w' b k p := fun j v hj => qcell_lift (h j v hj) he
theorem Pat.below {w w' : World} {b k : Nat} {p : Pt} (h : Pat w b k p) (hb : Below w.heap.size w w') : Pat w' b k p := h.lift (hb.block b h.lt)
theorem Pat.load {w : World} {b k : Nat} {p : Pt} (h : Pat w b k p) : (Go.loadVar 49 ⟨b, k, none⟩).run Tryz.prog w = .ok p.val w :=
  run_loadVar_mid w b k _ p.cells _ h Tryz.underlying49 rfl ptSize
def PIn (w : World) (v : Value) (l : List Pt) : Prop := ∃ A c, v = .slice A l.length c ∧ (0 < l.length → ∃ b off, A = some ⟨b, off, none⟩ ∧ ∀ i (h : i < l.length), Pat w b (off + i * 27) l[i])
theorem PIn.lift {w w' : World} {v : Value} {l : List Pt} (h : PIn w v l) (he : ∀ b, v.ownBlock = some b → b < w.heap.size → w'.heap[b]? = w.heap[b]?) : PIn w' v l := by
  obtain ⟨A, c, rfl, h⟩ := h
  refine ⟨A, c, rfl, fun h0 => ?_⟩
  obtain ⟨b, off, rfl, hf⟩ := h h0
  exact ⟨b, off, rfl, fun i hi => (hf i hi).lift (he b rfl (hf i hi).lt)⟩
theorem PIn.below {w w' : World} {v : Value} {l : List Pt} (h : PIn w v l) (hb : Below w.heap.size w w') : PIn w' v l := h.lift fun b _ hlt => hb.block b hlt
theorem isMade_yes (p : Pt) (w : World) (h1 : 3 ≤ p.k) (h2 : p.k ≤ 6) : Calls Tryz.prog 120 #[p.val] w fun e w' => e = .returned (.bool true) ∧ Below w.heap.size w w' := by
  go_enter Tryz.func120, Tryz.ntmps120
  go_wp2_with ((go_at_call 79; ((with_reducible refine (within_yes _ _ _ _ (by omega) (by omega)).mono ?_); rintro e w' ⟨rfl, rfl⟩)))
  go_ret; refine ⟨rfl, ?_⟩; (repeat' (first|with_reducible (first|exact lowRefl _|apply lowSet|apply lowDrew|apply lowDrewN|apply lowAlloc)|(with_reducible refine lowCall ?_ (by assumption))|(show (_ : Nat) ≤ _;first|(simp;done)|(simp;omega)|omega)))
theorem isMade_no (p : Pt) (w : World) (h : p.k < 3 ∨ 6 < p.k) : Calls Tryz.prog 120 #[p.val] w fun e w' => e = .returned (.bool false) ∧ Below w.heap.size w w' := by
  go_enter Tryz.func120, Tryz.ntmps120
  go_wp2_with ((go_at_call 79; ((with_reducible refine (within_no _ _ _ _ h).mono ?_); rintro e w' ⟨rfl, rfl⟩)))
  go_ret; refine ⟨rfl, ?_⟩; (repeat' (first|with_reducible (first|exact lowRefl _|apply lowSet|apply lowDrew|apply lowDrewN|apply lowAlloc)|(with_reducible refine lowCall ?_ (by assumption))|(show (_ : Nat) ≤ _;first|(simp;done)|(simp;omega)|omega)))
end Go.Proofs.YtegibpepdndocabGreat
end
