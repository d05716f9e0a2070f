import Derived.BigQuiet
import Derived.Deep.QuietTactic
import Derived.LoopTactic
import Derived.Test.YtegibpepdndocabGreatGcdk
import Derived.Test.YtegibpepdndocabGreatHeldk
namespace Go.Proofs.YtegibpepdndocabGreat
open Has renaming new → J0, new1 → J1, new2 → J2, new3 → J3, new4 → J4, drew → J5, drewN → J6, alloc → J7, same → J8, other → J9, cell → Jc, frozen → Jf, below → Jb
open Go.ChangeShapes Go.WideShapes Go.ChangeAt Go.RowKit

theorem toVec_any (x y z : Int) (w : World) :
    Calls Tryz.prog 78 #[.agg #[.int .i64 (x), .int .i64 (y), .int .i64 (z)]] w fun e w' => e = .returned (.agg #[.int .i64 (x), .int .i64 (y), .int .i64 (z)]) ∧ Below w.heap.size w w' := by
  go_enter Tryz.func78, Tryz.ntmps78
  go_wp2
  refine bodyPost_ret (v := .agg #[.int .i64 (x), .int .i64 (y), .int .i64 (z)]) (by simp [results, Tryz.results78, go_sem]) rfl ⟨rfl, ?_⟩
  repeat' (first|with_reducible (first|exact lowRefl _|apply lowSet|apply lowDrew|apply lowDrewN|apply lowAlloc)|(with_reducible refine lowCall ?_ (by assumption))|(show (_ : Nat) ≤ _;first|(simp;done)|(simp;omega)|omega))
theorem eqVec_yes (x y z : Int) (w : World) :
    Calls Tryz.prog 19 #[.agg #[.int .i64 (x), .int .i64 (y), .int .i64 (z)], .agg #[.int .i64 (x), .int .i64 (y), .int .i64 (z)]] w fun e w' => e = .returned (.bool true) ∧ Below w.heap.size w w' := by
  go_enter Tryz.func19, Tryz.ntmps19
  go_wp2
  go_ret
  refine ⟨rfl, ?_⟩
  repeat' (first|with_reducible (first|exact lowRefl _|apply lowSet|apply lowDrew|apply lowDrewN|apply lowAlloc)|(with_reducible refine lowCall ?_ (by assumption))|(show (_ : Nat) ≤ _;first|(simp;done)|(simp;omega)|omega))

def Vok (x y z m : Int) : Prop := -m ≤ x ∧ x ≤ m ∧ -m ≤ y ∧ y ≤ m ∧ -m ≤ z ∧ z ≤ m
theorem ivecOk_yes (x y z m : Int) (w : World) (h0 : 0 ≤ m) (h1 : m ≤ 4611686018427387904) (hv : Vok x y z m) :
    Calls Tryz.prog 53 #[.agg #[.int .i64 (x), .int .i64 (y), .int .i64 (z)], .int .i64 m] w fun e w' => e = .returned (.bool true) ∧ Below w.heap.size w w' := by
  obtain ⟨a1, a2, a3, a4, a5, a6⟩ := hv
  go_enter Tryz.func53, Tryz.ntmps53
  go_wp2_with ((go_at_call 79; ((with_reducible refine (within_yes _ _ _ _ (by omega) (by omega)).mono ?_); rintro e w' ⟨rfl, rfl⟩)))
  go_ret
  refine ⟨rfl, ?_⟩
  repeat' (first|with_reducible (first|exact lowRefl _|apply lowSet|apply lowDrew|apply lowDrewN|apply lowAlloc)|(with_reducible refine lowCall ?_ (by assumption))|(show (_ : Nat) ≤ _;first|(simp;done)|(simp;omega)|omega))
theorem ivecOk_no (x y z m : Int) (w : World) (h0 : 0 ≤ m) (h1 : m ≤ 4611686018427387904) (hv : ¬ Vok x y z m) :
    Calls Tryz.prog 53 #[.agg #[.int .i64 (x), .int .i64 (y), .int .i64 (z)], .int .i64 m] w fun e w' => e = .returned (.bool false) ∧ Below w.heap.size w w' := by
  unfold Vok at hv
  by_cases hx : x < -m ∨ m < x
  · clear hv
    go_enter Tryz.func53, Tryz.ntmps53
    go_wp2_with ((go_at_call 79; ((with_reducible refine (within_no _ _ _ _ hx).mono ?_); rintro e w' ⟨rfl, rfl⟩)))
    go_ret
    refine ⟨rfl, ?_⟩
    repeat' (first|with_reducible (first|exact lowRefl _|apply lowSet|apply lowDrew|apply lowDrewN|apply lowAlloc)|(with_reducible refine lowCall ?_ (by assumption))|(show (_ : Nat) ≤ _;first|(simp;done)|(simp;omega)|omega))
  have hx1 : -m ≤ x := by omega
  have hx2 : x ≤ m := by omega
  clear hx
  by_cases hy : y < -m ∨ m < y
  · clear hv
    go_enter Tryz.func53, Tryz.ntmps53
    go_wp2_with (first | (go_at_call 79; ((with_reducible refine (within_yes x _ _ _ hx1 hx2).mono ?_); rintro e w' ⟨rfl, rfl⟩)) | (go_at_call 79; ((with_reducible refine (within_no y _ _ _ hy).mono ?_); rintro e w' ⟨rfl, rfl⟩)))
    go_ret
    refine ⟨rfl, ?_⟩
    repeat' (first|with_reducible (first|exact lowRefl _|apply lowSet|apply lowDrew|apply lowDrewN|apply lowAlloc)|(with_reducible refine lowCall ?_ (by assumption))|(show (_ : Nat) ≤ _;first|(simp;done)|(simp;omega)|omega))
  have hy1 : -m ≤ y := by omega
  have hy2 : y ≤ m := by omega
  clear hy
  have hz : z < -m ∨ m < z := by omega
  clear hv
  go_enter Tryz.func53, Tryz.ntmps53
  go_wp2_with (first | (go_at_call 79; ((with_reducible refine (within_yes x _ _ _ hx1 hx2).mono ?_); rintro e w' ⟨rfl, rfl⟩)) | (go_at_call 79; ((with_reducible refine (within_yes y _ _ _ hy1 hy2).mono ?_); rintro e w' ⟨rfl, rfl⟩)) | (go_at_call 79; ((with_reducible refine (within_no z _ _ _ hz).mono ?_); rintro e w' ⟨rfl, rfl⟩)))
  go_ret
  refine ⟨rfl, ?_⟩
  repeat' (first|with_reducible (first|exact lowRefl _|apply lowSet|apply lowDrew|apply lowDrewN|apply lowAlloc)|(with_reducible refine lowCall ?_ (by assumption))|(show (_ : Nat) ≤ _;first|(simp;done)|(simp;omega)|omega))
theorem svecOk_yes (x y z m : Int) (w : World) (h0 : 0 ≤ m) (h1 : m ≤ 4611686018427387904) (hv : Vok x y z m) :
    Calls Tryz.prog 103 #[.agg #[.int .i64 (x), .int .i64 (y), .int .i64 (z)], .int .i64 m] w fun e w' => e = .returned (.bool true) ∧ Below w.heap.size w w' := by
  obtain ⟨a1, a2, a3, a4, a5, a6⟩ := hv
  go_enter Tryz.func103, Tryz.ntmps103
  go_wp2_with ((go_at_call 72; ((with_reducible refine (l1In_yes _ _ _ _ (by omega) (by omega)).mono ?_); rintro e w' ⟨rfl, rfl⟩)))
  go_ret
  refine ⟨rfl, ?_⟩
  repeat' (first|with_reducible (first|exact lowRefl _|apply lowSet|apply lowDrew|apply lowDrewN|apply lowAlloc)|(with_reducible refine lowCall ?_ (by assumption))|(show (_ : Nat) ≤ _;first|(simp;done)|(simp;omega)|omega))
theorem svecOk_no (x y z m : Int) (w : World) (h0 : 0 ≤ m) (h1 : m ≤ 4611686018427387904) (hv : ¬ Vok x y z m) :
    Calls Tryz.prog 103 #[.agg #[.int .i64 (x), .int .i64 (y), .int .i64 (z)], .int .i64 m] w fun e w' => e = .returned (.bool false) ∧ Below w.heap.size w w' := by
  unfold Vok at hv
  by_cases hx : x < -m ∨ m < x
  · clear hv
    go_enter Tryz.func103, Tryz.ntmps103
    go_wp2_with ((go_at_call 72; ((with_reducible refine (l1In_no _ _ _ _ hx).mono ?_); rintro e w' ⟨rfl, rfl⟩)))
    go_ret
    refine ⟨rfl, ?_⟩
    repeat' (first|with_reducible (first|exact lowRefl _|apply lowSet|apply lowDrew|apply lowDrewN|apply lowAlloc)|(with_reducible refine lowCall ?_ (by assumption))|(show (_ : Nat) ≤ _;first|(simp;done)|(simp;omega)|omega))
  have hx1 : -m ≤ x := by omega
  have hx2 : x ≤ m := by omega
  clear hx
  by_cases hy : y < -m ∨ m < y
  · clear hv
    go_enter Tryz.func103, Tryz.ntmps103
    go_wp2_with (first | (go_at_call 72; ((with_reducible refine (l1In_yes x _ _ _ hx1 hx2).mono ?_); rintro e w' ⟨rfl, rfl⟩)) | (go_at_call 72; ((with_reducible refine (l1In_no y _ _ _ hy).mono ?_); rintro e w' ⟨rfl, rfl⟩)))
    go_ret
    refine ⟨rfl, ?_⟩
    repeat' (first|with_reducible (first|exact lowRefl _|apply lowSet|apply lowDrew|apply lowDrewN|apply lowAlloc)|(with_reducible refine lowCall ?_ (by assumption))|(show (_ : Nat) ≤ _;first|(simp;done)|(simp;omega)|omega))
  have hy1 : -m ≤ y := by omega
  have hy2 : y ≤ m := by omega
  clear hy
  have hz : z < -m ∨ m < z := by omega
  clear hv
  go_enter Tryz.func103, Tryz.ntmps103
  go_wp2_with (first | (go_at_call 72; ((with_reducible refine (l1In_yes x _ _ _ hx1 hx2).mono ?_); rintro e w' ⟨rfl, rfl⟩)) | (go_at_call 72; ((with_reducible refine (l1In_yes y _ _ _ hy1 hy2).mono ?_); rintro e w' ⟨rfl, rfl⟩)) | (go_at_call 72; ((with_reducible refine (l1In_no z _ _ _ hz).mono ?_); rintro e w' ⟨rfl, rfl⟩)))
  go_ret
  refine ⟨rfl, ?_⟩
  repeat' (first|with_reducible (first|exact lowRefl _|apply lowSet|apply lowDrew|apply lowDrewN|apply lowAlloc)|(with_reducible refine lowCall ?_ (by assumption))|(show (_ : Nat) ≤ _;first|(simp;done)|(simp;omega)|omega))

/- two vectors within a limit -/
theorem ibothOk_yes (a b c x y z m : Int) (w : World) (h0 : 0 ≤ m) (h1 : m ≤ 4611686018427387904) (hv : Vok a b c m) (hu : Vok x y z m) :
    Calls Tryz.prog 126 #[.agg #[.int .i64 (a), .int .i64 (b), .int .i64 (c)], .agg #[.int .i64 (x), .int .i64 (y), .int .i64 (z)], .int .i64 m] w fun e w' => e = .returned (.bool true) ∧ Below w.heap.size w w' := by
  have H := Lib.hid hv
  have H' := Lib.hid hu
  clear hv hu
  go_enter Tryz.func126, Tryz.ntmps126
  go_wp2_with (first | (go_at_call 53; ((with_reducible refine (ivecOk_yes a b c m _ h0 h1 H.out).mono ?_); rintro e w' ⟨rfl, hbq⟩; (try (have B0 := Jb (b := w.heap.size) (by repeat' (first|with_reducible (first|assumption|apply J0|apply J1|apply J2|apply J3|apply J4|apply J5|apply J6|apply J7|apply J8|apply J9)|(with_reducible show _ ≠ _;first|omega|(simp;done)))) hbq; have C0 := Jc B0; have F0 := Jf B0)); (try (have B1 := Jb (b := w.heap.size + 1) (by repeat' (first|with_reducible (first|assumption|apply J0|apply J1|apply J2|apply J3|apply J4|apply J5|apply J6|apply J7|apply J8|apply J9)|(with_reducible show _ ≠ _;first|omega|(simp;done)))) hbq; have C1 := Jc B1; have F1 := Jf B1)); (try (have B2 := Jb (b := w.heap.size + 1 + 1) (by repeat' (first|with_reducible (first|assumption|apply J0|apply J1|apply J2|apply J3|apply J4|apply J5|apply J6|apply J7|apply J8|apply J9)|(with_reducible show _ ≠ _;first|omega|(simp;done)))) hbq; have C2 := Jc B2; have F2 := Jf B2)))) | (go_at_call 53; ((with_reducible refine (ivecOk_yes x y z m _ h0 h1 H'.out).mono ?_); rintro e w' ⟨rfl, hbq⟩; (try (have B0 := Jb (b := w.heap.size) (by repeat' (first|with_reducible (first|assumption|apply J0|apply J1|apply J2|apply J3|apply J4|apply J5|apply J6|apply J7|apply J8|apply J9)|(with_reducible show _ ≠ _;first|omega|(simp;done)))) hbq; have C0 := Jc B0; have F0 := Jf B0)); (try (have B1 := Jb (b := w.heap.size + 1) (by repeat' (first|with_reducible (first|assumption|apply J0|apply J1|apply J2|apply J3|apply J4|apply J5|apply J6|apply J7|apply J8|apply J9)|(with_reducible show _ ≠ _;first|omega|(simp;done)))) hbq; have C1 := Jc B1; have F1 := Jf B1)); (try (have B2 := Jb (b := w.heap.size + 1 + 1) (by repeat' (first|with_reducible (first|assumption|apply J0|apply J1|apply J2|apply J3|apply J4|apply J5|apply J6|apply J7|apply J8|apply J9)|(with_reducible show _ ≠ _;first|omega|(simp;done)))) hbq; have C2 := Jc B2; have F2 := Jf B2)))))
  go_ret
  refine ⟨rfl, ?_⟩
  repeat' (first|with_reducible (first|exact lowRefl _|apply lowSet|apply lowDrew|apply lowDrewN|apply lowAlloc)|(with_reducible refine lowCall ?_ (by assumption))|(show (_ : Nat) ≤ _;first|(simp;done)|(simp;omega)|omega))
theorem ibothOk_no (a b c x y z m : Int) (w : World) (h0 : 0 ≤ m) (h1 : m ≤ 4611686018427387904) (hv : ¬ (Vok a b c m ∧ Vok x y z m)) :
    Calls Tryz.prog 126 #[.agg #[.int .i64 (a), .int .i64 (b), .int .i64 (c)], .agg #[.int .i64 (x), .int .i64 (y), .int .i64 (z)], .int .i64 m] w fun e w' => e = .returned (.bool false) ∧ Below w.heap.size w w' := by
  by_cases hu : Vok a b c m
  · have hn : ¬ Vok x y z m := fun h => hv ⟨hu, h⟩
    have H := Lib.hid hu
    have H' := Lib.hid hn
    clear hv hu hn
    go_enter Tryz.func126, Tryz.ntmps126
    go_wp2_with (first | (go_at_call 53; ((with_reducible refine (ivecOk_yes a b c m _ h0 h1 H.out).mono ?_); rintro e w' ⟨rfl, hbq⟩; (try (have B0 := Jb (b := w.heap.size) (by repeat' (first|with_reducible (first|assumption|apply J0|apply J1|apply J2|apply J3|apply J4|apply J5|apply J6|apply J7|apply J8|apply J9)|(with_reducible show _ ≠ _;first|omega|(simp;done)))) hbq; have C0 := Jc B0; have F0 := Jf B0)); (try (have B1 := Jb (b := w.heap.size + 1) (by repeat' (first|with_reducible (first|assumption|apply J0|apply J1|apply J2|apply J3|apply J4|apply J5|apply J6|apply J7|apply J8|apply J9)|(with_reducible show _ ≠ _;first|omega|(simp;done)))) hbq; have C1 := Jc B1; have F1 := Jf B1)); (try (have B2 := Jb (b := w.heap.size + 1 + 1) (by repeat' (first|with_reducible (first|assumption|apply J0|apply J1|apply J2|apply J3|apply J4|apply J5|apply J6|apply J7|apply J8|apply J9)|(with_reducible show _ ≠ _;first|omega|(simp;done)))) hbq; have C2 := Jc B2; have F2 := Jf B2)))) | (go_at_call 53; ((with_reducible refine (ivecOk_no x y z m _ h0 h1 H'.out).mono ?_); rintro e w' ⟨rfl, hbq⟩; (try (have B0 := Jb (b := w.heap.size) (by repeat' (first|with_reducible (first|assumption|apply J0|apply J1|apply J2|apply J3|apply J4|apply J5|apply J6|apply J7|apply J8|apply J9)|(with_reducible show _ ≠ _;first|omega|(simp;done)))) hbq; have C0 := Jc B0; have F0 := Jf B0)); (try (have B1 := Jb (b := w.heap.size + 1) (by repeat' (first|with_reducible (first|assumption|apply J0|apply J1|apply J2|apply J3|apply J4|apply J5|apply J6|apply J7|apply J8|apply J9)|(with_reducible show _ ≠ _;first|omega|(simp;done)))) hbq; have C1 := Jc B1; have F1 := Jf B1)); (try (have B2 := Jb (b := w.heap.size + 1 + 1) (by repeat' (first|with_reducible (first|assumption|apply J0|apply J1|apply J2|apply J3|apply J4|apply J5|apply J6|apply J7|apply J8|apply J9)|(with_reducible show _ ≠ _;first|omega|(simp;done)))) hbq; have C2 := Jc B2; have F2 := Jf B2)))))
    go_ret
    refine ⟨rfl, ?_⟩
    repeat' (first|with_reducible (first|exact lowRefl _|apply lowSet|apply lowDrew|apply lowDrewN|apply lowAlloc)|(with_reducible refine lowCall ?_ (by assumption))|(show (_ : Nat) ≤ _;first|(simp;done)|(simp;omega)|omega))
  · have H := Lib.hid hu
    clear hv hu
    go_enter Tryz.func126, Tryz.ntmps126
    go_wp2_with ((go_at_call 53; ((with_reducible refine (ivecOk_no a b c m _ h0 h1 H.out).mono ?_); rintro e w' ⟨rfl, hbq⟩; (try (have B0 := Jb (b := w.heap.size) (by repeat' (first|with_reducible (first|assumption|apply J0|apply J1|apply J2|apply J3|apply J4|apply J5|apply J6|apply J7|apply J8|apply J9)|(with_reducible show _ ≠ _;first|omega|(simp;done)))) hbq; have C0 := Jc B0; have F0 := Jf B0)); (try (have B1 := Jb (b := w.heap.size + 1) (by repeat' (first|with_reducible (first|assumption|apply J0|apply J1|apply J2|apply J3|apply J4|apply J5|apply J6|apply J7|apply J8|apply J9)|(with_reducible show _ ≠ _;first|omega|(simp;done)))) hbq; have C1 := Jc B1; have F1 := Jf B1)); (try (have B2 := Jb (b := w.heap.size + 1 + 1) (by repeat' (first|with_reducible (first|assumption|apply J0|apply J1|apply J2|apply J3|apply J4|apply J5|apply J6|apply J7|apply J8|apply J9)|(with_reducible show _ ≠ _;first|omega|(simp;done)))) hbq; have C2 := Jc B2; have F2 := Jf B2)))))
    go_ret
    refine ⟨rfl, ?_⟩
    repeat' (first|with_reducible (first|exact lowRefl _|apply lowSet|apply lowDrew|apply lowDrewN|apply lowAlloc)|(with_reducible refine lowCall ?_ (by assumption))|(show (_ : Nat) ≤ _;first|(simp;done)|(simp;omega)|omega))
end Go.Proofs.YtegibpepdndocabGreat
