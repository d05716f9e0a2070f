import Derived.Test.YtegibpepdndocabGreatJnCk
import Derived.Test.YtegibpepdndocabGreatTgWk
namespace Go.Proofs.YtegibpepdndocabGreat
open Has renaming new → J0, new1 → J1, new2 → J2, new3 → J3, new4 → J4, drew → J5, drewN → J6, alloc → J7, same → J8, other → J9, cell → Jc, frozen → Jf, below → Jb
open Go.ChangeShapes Go.WideShapes Go.ChangeAt Go.RowKit
set_option linter.unusedSimpArgs false
set_option linter.unusedVariables false
set_option maxHeartbeats 1000000

attribute [local go_sem] VGo_value VGo_skip VGo_enter
attribute [local go_sem] Pt.arr0 Pt.arr1 Pt.arr2 Pt.arr3 Pt.arr4 Pt.arr5 Pt.arr6 Pt.arr7 Pt.arr8 Pt.arr9 Pt.arr10 Pt.arr11 Pt.arr12 Pt.arr13 Pt.arr14 Pt.arr15 Pt.arr16 Pt.arr17 Pt.arr18 Pt.arr19 Pt.arr20 Pt.arr21 Pt.arr22 Pt.arr23 Pt.arr24 Pt.arr25 Pt.arr26
attribute [-go_sem] loadVar storeVar run_eql_struct run_neq_struct
attribute [local go_sem] lvA svA lvVec lvHalf lvBall lvBox lvMot
attribute [local go_sem high] ptLoadNew ptStoreNew ptZeroV
theorem l7Two_yes (k : Int) (w : World) (h1 : 3 ≤ k) (h2 : k ≤ 5) : Calls Tryz.prog 118 #[.int .i64 k] w fun e w' => e = .returned (.bool true) ∧ w = w' := by
  go_enter Tryz.func118, Tryz.ntmps118
  go_wp2_with ((go_at_call 72; ((with_reducible refine (l1In_yes _ _ _ _ h1 h2).mono ?_); rintro e w' ⟨rfl, rfl⟩)))
  go_ret
  exact ⟨rfl, rfl⟩
theorem l7Two_no (k : Int) (w : World) (h : k < 3 ∨ 5 < k) : Calls Tryz.prog 118 #[.int .i64 k] w fun e w' => e = .returned (.bool false) ∧ w = w' := by
  go_enter Tryz.func118, Tryz.ntmps118
  go_wp2_with ((go_at_call 72; ((with_reducible refine (l1In_no _ _ _ _ h).mono ?_); rintro e w' ⟨rfl, rfl⟩)))
  go_ret
  exact ⟨rfl, rfl⟩
/- '!=' against nothing -/
theorem neqHalf0 (s : Qd) (w : World) : (binOp .neq 41 s.val (.agg #[.int .i64 (0), .int .i64 (0), .int .i64 (0), .int .i64 (0)])).run Tryz.prog w = .ok (.bool (!qeq s ⟨0, 0, 0, 0⟩)) w := neqHalf s ⟨0, 0, 0, 0⟩ w
theorem neqBall0 (s : Qd) (w : World) : (binOp .neq 43 s.val (.agg #[.int .i64 (0), .int .i64 (0), .int .i64 (0), .int .i64 (0)])).run Tryz.prog w = .ok (.bool (!qeq s ⟨0, 0, 0, 0⟩)) w := neqBall s ⟨0, 0, 0, 0⟩ w
theorem neqBox0 (s : Sx) (w : World) : (binOp .neq 45 s.val (.agg #[.int .i64 (0), .int .i64 (0), .int .i64 (0), .int .i64 (0), .int .i64 (0), .int .i64 (0)])).run Tryz.prog w = .ok (.bool (!xeqs s ⟨0, 0, 0, 0, 0, 0⟩)) w := neqBox _ _ _ _ _ _ _ _ _ _ _ _ w
theorem neqMot0 (s : Mo) (w : World) : (binOp .neq 47 s.val (.agg #[.int .i64 (0), .int .i64 (0), .int .i64 (0), .bool (false), .bool (false), .bool (false), .int .i64 (0), .int .i64 (0), .int .i64 (0)])).run Tryz.prog w = .ok (.bool (!meqs s ⟨0, 0, 0, false, false, false, 0, 0, 0⟩)) w := neqMot _ _ _ _ _ _ _ _ _ _ _ _ _ _ _ _ _ _ w
theorem qeq_self (s : Qd) : qeq s s = true := by simp [qeq]
theorem xeqs_self (s : Sx) : xeqs s s = true := xeq_self _ _ _ _ _ _
theorem meqs_self (s : Mo) : meqs s s = true := meq_self _ _ _ _ _ _ _ _ _
section
attribute [local go_sem] neqHalf0 neqBall0 neqBox0 neqMot0
theorem l7Bare_0 (p : Pt) (w : World) (h : p.k = 0) : Calls Tryz.prog 166 #[p.val] w fun e w' => e = .returned (.bool (peq p p.bare)) ∧ Below w.heap.size w w' := by
  have e : peq p p.bare = [qeq p.b ⟨0, 0, 0, 0⟩, xeqs p.x ⟨0, 0, 0, 0, 0, 0⟩, meqs p.m ⟨0, 0, 0, false, false, false, 0, 0, 0⟩, p.A == 0, p.B == 0].all id := by
    unfold Pt.bare
    simp only [h, if_true, if_false, Int.reduceEq]
    unfold peq
    simp [h, qeq_self, xeqs_self, meqs_self]
    try ac_rfl
  rw [e]
  clear e
  simp only [List.all_cons, List.all_nil, id, Bool.and_true]
  go_enter Tryz.func166, Tryz.ntmps166
  go_upto_region 5 with fail
  refine (fun (k : ∀ wm, Has wm w.heap.size p.arr 49 → Has wm (w.heap.size + 1) #[.int .i64 0, .int .i64 0, .int .i64 0, .int .i64 0] 41 → Has wm (w.heap.size + 1 + 1) #[.int .i64 0, .int .i64 0, .int .i64 0, .int .i64 0] 43 → Has wm (w.heap.size + 1 + 1 + 1) #[.int .i64 0, .int .i64 0, .int .i64 0, .int .i64 0, .int .i64 0, .int .i64 0] 45 → Has wm (w.heap.size + 1 + 1 + 1 + 1) #[.int .i64 0, .int .i64 0, .int .i64 0, .bool false, .bool false, .bool false, .int .i64 0, .int .i64 0, .int .i64 0] 47 → Below w.heap.size w wm → Code.wp _ _ _ _ wm) => k _ ?_ ?_ ?_ ?_ ?_ ?_) ?_
  · (refine Has.as (by repeat' (first|with_reducible (first|assumption|apply J0|apply J1|apply J2|apply J3|apply J4|apply J5|apply J6|apply J7|apply J8|apply J9)|(with_reducible show _ ≠ _;first|omega|(simp;done)))) ?_; first | (with_reducible rfl) | (simp only [List.setIfInBounds_toArray, List.set_cons_zero, List.set_cons_succ]; first | done | rfl) | rfl | (simp; done))
  · (refine Has.as (by repeat' (first|with_reducible (first|assumption|apply J0|apply J1|apply J2|apply J3|apply J4|apply J5|apply J6|apply J7|apply J8|apply J9)|(with_reducible show _ ≠ _;first|omega|(simp;done)))) ?_; first | (with_reducible rfl) | (simp only [List.setIfInBounds_toArray, List.set_cons_zero, List.set_cons_succ]; first | done | rfl) | rfl | (simp; done))
  · (refine Has.as (by repeat' (first|with_reducible (first|assumption|apply J0|apply J1|apply J2|apply J3|apply J4|apply J5|apply J6|apply J7|apply J8|apply J9)|(with_reducible show _ ≠ _;first|omega|(simp;done)))) ?_; first | (with_reducible rfl) | (simp only [List.setIfInBounds_toArray, List.set_cons_zero, List.set_cons_succ]; first | done | rfl) | rfl | (simp; done))
  · (refine Has.as (by repeat' (first|with_reducible (first|assumption|apply J0|apply J1|apply J2|apply J3|apply J4|apply J5|apply J6|apply J7|apply J8|apply J9)|(with_reducible show _ ≠ _;first|omega|(simp;done)))) ?_; first | (with_reducible rfl) | (simp only [List.setIfInBounds_toArray, List.set_cons_zero, List.set_cons_succ]; first | done | rfl) | rfl | (simp; done))
  · (refine Has.as (by repeat' (first|with_reducible (first|assumption|apply J0|apply J1|apply J2|apply J3|apply J4|apply J5|apply J6|apply J7|apply J8|apply J9)|(with_reducible show _ ≠ _;first|omega|(simp;done)))) ?_; first | (with_reducible rfl) | (simp only [List.setIfInBounds_toArray, List.set_cons_zero, List.set_cons_succ]; first | done | rfl) | rfl | (simp; done))
  · repeat' (first|with_reducible (first|exact lowRefl _|apply lowSet|apply lowDrew|apply lowDrewN|apply lowAlloc)|(with_reducible refine lowCall ?_ (by assumption))|(show (_ : Nat) ≤ _;first|(simp;done)|(simp;omega)|omega))
  intro wm B0 B1 B2 B3 B4 hL
  have C0 := Jc B0
  have C1 := Jc B1
  have C2 := Jc B2
  have C3 := Jc B3
  have C4 := Jc B4
  clear B0 B1 B2 B3 B4
  by_cases q0 : qeq p.b ⟨0, 0, 0, 0⟩ = true
  rotate_left
  · have r0 : qeq p.b ⟨0, 0, 0, 0⟩ = false := by simpa using q0
    clear q0
    go_wp2
    go_ret
    refine ⟨by first | rfl | (simp [*]; done), hL⟩
  by_cases q1 : xeqs p.x ⟨0, 0, 0, 0, 0, 0⟩ = true
  rotate_left
  · have r1 : xeqs p.x ⟨0, 0, 0, 0, 0, 0⟩ = false := by simpa using q1
    clear q1
    go_wp2
    go_ret
    refine ⟨by first | rfl | (simp [*]; done), hL⟩
  by_cases q2 : meqs p.m ⟨0, 0, 0, false, false, false, 0, 0, 0⟩ = true
  rotate_left
  · have r2 : meqs p.m ⟨0, 0, 0, false, false, false, 0, 0, 0⟩ = false := by simpa using q2
    clear q2
    go_wp2
    go_ret
    refine ⟨by first | rfl | (simp [*]; done), hL⟩
  by_cases g0 : p.A = 0
  rotate_left
  · skip
    go_wp2
    go_ret
    refine ⟨by first | rfl | (simp [*]; done), hL⟩
  by_cases g1 : p.B = 0
  rotate_left
  · skip
    go_wp2
    go_ret
    refine ⟨by first | rfl | (simp [*]; done), hL⟩
  go_wp2
  go_ret
  refine ⟨by first | rfl | (simp [*]; done), hL⟩
theorem l7Bare_1 (p : Pt) (w : World) (h : p.k = 1) : Calls Tryz.prog 166 #[p.val] w fun e w' => e = .returned (.bool (peq p p.bare)) ∧ Below w.heap.size w w' := by
  have e : peq p p.bare = [qeq p.h ⟨0, 0, 0, 0⟩, xeqs p.x ⟨0, 0, 0, 0, 0, 0⟩, meqs p.m ⟨0, 0, 0, false, false, false, 0, 0, 0⟩, p.A == 0, p.B == 0].all id := by
    unfold Pt.bare
    simp only [h, if_true, if_false, Int.reduceEq]
    unfold peq
    simp [h, qeq_self, xeqs_self, meqs_self]
    try ac_rfl
  rw [e]
  clear e
  simp only [List.all_cons, List.all_nil, id, Bool.and_true]
  go_enter Tryz.func166, Tryz.ntmps166
  go_upto_region 5 with fail
  refine (fun (k : ∀ wm, Has wm w.heap.size p.arr 49 → Has wm (w.heap.size + 1) #[.int .i64 0, .int .i64 0, .int .i64 0, .int .i64 0] 41 → Has wm (w.heap.size + 1 + 1) #[.int .i64 0, .int .i64 0, .int .i64 0, .int .i64 0] 43 → Has wm (w.heap.size + 1 + 1 + 1) #[.int .i64 0, .int .i64 0, .int .i64 0, .int .i64 0, .int .i64 0, .int .i64 0] 45 → Has wm (w.heap.size + 1 + 1 + 1 + 1) #[.int .i64 0, .int .i64 0, .int .i64 0, .bool false, .bool false, .bool false, .int .i64 0, .int .i64 0, .int .i64 0] 47 → Below w.heap.size w wm → Code.wp _ _ _ _ wm) => k _ ?_ ?_ ?_ ?_ ?_ ?_) ?_
  · (refine Has.as (by repeat' (first|with_reducible (first|assumption|apply J0|apply J1|apply J2|apply J3|apply J4|apply J5|apply J6|apply J7|apply J8|apply J9)|(with_reducible show _ ≠ _;first|omega|(simp;done)))) ?_; first | (with_reducible rfl) | (simp only [List.setIfInBounds_toArray, List.set_cons_zero, List.set_cons_succ]; first | done | rfl) | rfl | (simp; done))
  · (refine Has.as (by repeat' (first|with_reducible (first|assumption|apply J0|apply J1|apply J2|apply J3|apply J4|apply J5|apply J6|apply J7|apply J8|apply J9)|(with_reducible show _ ≠ _;first|omega|(simp;done)))) ?_; first | (with_reducible rfl) | (simp only [List.setIfInBounds_toArray, List.set_cons_zero, List.set_cons_succ]; first | done | rfl) | rfl | (simp; done))
  · (refine Has.as (by repeat' (first|with_reducible (first|assumption|apply J0|apply J1|apply J2|apply J3|apply J4|apply J5|apply J6|apply J7|apply J8|apply J9)|(with_reducible show _ ≠ _;first|omega|(simp;done)))) ?_; first | (with_reducible rfl) | (simp only [List.setIfInBounds_toArray, List.set_cons_zero, List.set_cons_succ]; first | done | rfl) | rfl | (simp; done))
  · (refine Has.as (by repeat' (first|with_reducible (first|assumption|apply J0|apply J1|apply J2|apply J3|apply J4|apply J5|apply J6|apply J7|apply J8|apply J9)|(with_reducible show _ ≠ _;first|omega|(simp;done)))) ?_; first | (with_reducible rfl) | (simp only [List.setIfInBounds_toArray, List.set_cons_zero, List.set_cons_succ]; first | done | rfl) | rfl | (simp; done))
  · (refine Has.as (by repeat' (first|with_reducible (first|assumption|apply J0|apply J1|apply J2|apply J3|apply J4|apply J5|apply J6|apply J7|apply J8|apply J9)|(with_reducible show _ ≠ _;first|omega|(simp;done)))) ?_; first | (with_reducible rfl) | (simp only [List.setIfInBounds_toArray, List.set_cons_zero, List.set_cons_succ]; first | done | rfl) | rfl | (simp; done))
  · repeat' (first|with_reducible (first|exact lowRefl _|apply lowSet|apply lowDrew|apply lowDrewN|apply lowAlloc)|(with_reducible refine lowCall ?_ (by assumption))|(show (_ : Nat) ≤ _;first|(simp;done)|(simp;omega)|omega))
  intro wm B0 B1 B2 B3 B4 hL
  have C0 := Jc B0
  have C1 := Jc B1
  have C2 := Jc B2
  have C3 := Jc B3
  have C4 := Jc B4
  clear B0 B1 B2 B3 B4
  by_cases q0 : qeq p.h ⟨0, 0, 0, 0⟩ = true
  rotate_left
  · have r0 : qeq p.h ⟨0, 0, 0, 0⟩ = false := by simpa using q0
    clear q0
    go_wp2
    go_ret
    refine ⟨by first | rfl | (simp [*]; done), hL⟩
  by_cases q1 : xeqs p.x ⟨0, 0, 0, 0, 0, 0⟩ = true
  rotate_left
  · have r1 : xeqs p.x ⟨0, 0, 0, 0, 0, 0⟩ = false := by simpa using q1
    clear q1
    go_wp2
    go_ret
    refine ⟨by first | rfl | (simp [*]; done), hL⟩
  by_cases q2 : meqs p.m ⟨0, 0, 0, false, false, false, 0, 0, 0⟩ = true
  rotate_left
  · have r2 : meqs p.m ⟨0, 0, 0, false, false, false, 0, 0, 0⟩ = false := by simpa using q2
    clear q2
    go_wp2
    go_ret
    refine ⟨by first | rfl | (simp [*]; done), hL⟩
  by_cases g0 : p.A = 0
  rotate_left
  · skip
    go_wp2
    go_ret
    refine ⟨by first | rfl | (simp [*]; done), hL⟩
  by_cases g1 : p.B = 0
  rotate_left
  · skip
    go_wp2
    go_ret
    refine ⟨by first | rfl | (simp [*]; done), hL⟩
  go_wp2
  go_ret
  refine ⟨by first | rfl | (simp [*]; done), hL⟩
theorem l7Bare_2 (p : Pt) (w : World) (h : p.k = 2) : Calls Tryz.prog 166 #[p.val] w fun e w' => e = .returned (.bool (peq p p.bare)) ∧ Below w.heap.size w w' := by
  have e : peq p p.bare = [qeq p.h ⟨0, 0, 0, 0⟩, qeq p.b ⟨0, 0, 0, 0⟩, meqs p.m ⟨0, 0, 0, false, false, false, 0, 0, 0⟩, p.A == 0, p.B == 0].all id := by
    unfold Pt.bare
    simp only [h, if_true, if_false, Int.reduceEq]
    unfold peq
    simp [h, qeq_self, xeqs_self, meqs_self]
    try ac_rfl
  rw [e]
  clear e
  simp only [List.all_cons, List.all_nil, id, Bool.and_true]
  go_enter Tryz.func166, Tryz.ntmps166
  go_upto_region 5 with fail
  refine (fun (k : ∀ wm, Has wm w.heap.size p.arr 49 → Has wm (w.heap.size + 1) #[.int .i64 0, .int .i64 0, .int .i64 0, .int .i64 0] 41 → Has wm (w.heap.size + 1 + 1) #[.int .i64 0, .int .i64 0, .int .i64 0, .int .i64 0] 43 → Has wm (w.heap.size + 1 + 1 + 1) #[.int .i64 0, .int .i64 0, .int .i64 0, .int .i64 0, .int .i64 0, .int .i64 0] 45 → Has wm (w.heap.size + 1 + 1 + 1 + 1) #[.int .i64 0, .int .i64 0, .int .i64 0, .bool false, .bool false, .bool false, .int .i64 0, .int .i64 0, .int .i64 0] 47 → Below w.heap.size w wm → Code.wp _ _ _ _ wm) => k _ ?_ ?_ ?_ ?_ ?_ ?_) ?_
  · (refine Has.as (by repeat' (first|with_reducible (first|assumption|apply J0|apply J1|apply J2|apply J3|apply J4|apply J5|apply J6|apply J7|apply J8|apply J9)|(with_reducible show _ ≠ _;first|omega|(simp;done)))) ?_; first | (with_reducible rfl) | (simp only [List.setIfInBounds_toArray, List.set_cons_zero, List.set_cons_succ]; first | done | rfl) | rfl | (simp; done))
  · (refine Has.as (by repeat' (first|with_reducible (first|assumption|apply J0|apply J1|apply J2|apply J3|apply J4|apply J5|apply J6|apply J7|apply J8|apply J9)|(with_reducible show _ ≠ _;first|omega|(simp;done)))) ?_; first | (with_reducible rfl) | (simp only [List.setIfInBounds_toArray, List.set_cons_zero, List.set_cons_succ]; first | done | rfl) | rfl | (simp; done))
  · (refine Has.as (by repeat' (first|with_reducible (first|assumption|apply J0|apply J1|apply J2|apply J3|apply J4|apply J5|apply J6|apply J7|apply J8|apply J9)|(with_reducible show _ ≠ _;first|omega|(simp;done)))) ?_; first | (with_reducible rfl) | (simp only [List.setIfInBounds_toArray, List.set_cons_zero, List.set_cons_succ]; first | done | rfl) | rfl | (simp; done))
  · (refine Has.as (by repeat' (first|with_reducible (first|assumption|apply J0|apply J1|apply J2|apply J3|apply J4|apply J5|apply J6|apply J7|apply J8|apply J9)|(with_reducible show _ ≠ _;first|omega|(simp;done)))) ?_; first | (with_reducible rfl) | (simp only [List.setIfInBounds_toArray, List.set_cons_zero, List.set_cons_succ]; first | done | rfl) | rfl | (simp; done))
  · (refine Has.as (by repeat' (first|with_reducible (first|assumption|apply J0|apply J1|apply J2|apply J3|apply J4|apply J5|apply J6|apply J7|apply J8|apply J9)|(with_reducible show _ ≠ _;first|omega|(simp;done)))) ?_; first | (with_reducible rfl) | (simp only [List.setIfInBounds_toArray, List.set_cons_zero, List.set_cons_succ]; first | done | rfl) | rfl | (simp; done))
  · repeat' (first|with_reducible (first|exact lowRefl _|apply lowSet|apply lowDrew|apply lowDrewN|apply lowAlloc)|(with_reducible refine lowCall ?_ (by assumption))|(show (_ : Nat) ≤ _;first|(simp;done)|(simp;omega)|omega))
  intro wm B0 B1 B2 B3 B4 hL
  have C0 := Jc B0
  have C1 := Jc B1
  have C2 := Jc B2
  have C3 := Jc B3
  have C4 := Jc B4
  clear B0 B1 B2 B3 B4
  by_cases q0 : qeq p.h ⟨0, 0, 0, 0⟩ = true
  rotate_left
  · have r0 : qeq p.h ⟨0, 0, 0, 0⟩ = false := by simpa using q0
    clear q0
    go_wp2
    go_ret
    refine ⟨by first | rfl | (simp [*]; done), hL⟩
  by_cases q1 : qeq p.b ⟨0, 0, 0, 0⟩ = true
  rotate_left
  · have r1 : qeq p.b ⟨0, 0, 0, 0⟩ = false := by simpa using q1
    clear q1
    go_wp2
    go_ret
    refine ⟨by first | rfl | (simp [*]; done), hL⟩
  by_cases q2 : meqs p.m ⟨0, 0, 0, false, false, false, 0, 0, 0⟩ = true
  rotate_left
  · have r2 : meqs p.m ⟨0, 0, 0, false, false, false, 0, 0, 0⟩ = false := by simpa using q2
    clear q2
    go_wp2
    go_ret
    refine ⟨by first | rfl | (simp [*]; done), hL⟩
  by_cases g0 : p.A = 0
  rotate_left
  · skip
    go_wp2
    go_ret
    refine ⟨by first | rfl | (simp [*]; done), hL⟩
  by_cases g1 : p.B = 0
  rotate_left
  · skip
    go_wp2
    go_ret
    refine ⟨by first | rfl | (simp [*]; done), hL⟩
  go_wp2
  go_ret
  refine ⟨by first | rfl | (simp [*]; done), hL⟩
theorem l7Bare_6 (p : Pt) (w : World) (h : p.k = 6) : Calls Tryz.prog 166 #[p.val] w fun e w' => e = .returned (.bool (peq p p.bare)) ∧ Below w.heap.size w w' := by
  have e : peq p p.bare = [qeq p.h ⟨0, 0, 0, 0⟩, qeq p.b ⟨0, 0, 0, 0⟩, xeqs p.x ⟨0, 0, 0, 0, 0, 0⟩, p.S == 0, p.B == 0].all id := by
    unfold Pt.bare
    simp only [h, if_true, if_false, Int.reduceEq]
    unfold peq
    simp [h, qeq_self, xeqs_self, meqs_self]
    try ac_rfl
  rw [e]
  clear e
  simp only [List.all_cons, List.all_nil, id, Bool.and_true]
  go_enter Tryz.func166, Tryz.ntmps166
  go_upto_region 5 with fail
  refine (fun (k : ∀ wm, Has wm w.heap.size p.arr 49 → Has wm (w.heap.size + 1) #[.int .i64 0, .int .i64 0, .int .i64 0, .int .i64 0] 41 → Has wm (w.heap.size + 1 + 1) #[.int .i64 0, .int .i64 0, .int .i64 0, .int .i64 0] 43 → Has wm (w.heap.size + 1 + 1 + 1) #[.int .i64 0, .int .i64 0, .int .i64 0, .int .i64 0, .int .i64 0, .int .i64 0] 45 → Has wm (w.heap.size + 1 + 1 + 1 + 1) #[.int .i64 0, .int .i64 0, .int .i64 0, .bool false, .bool false, .bool false, .int .i64 0, .int .i64 0, .int .i64 0] 47 → Below w.heap.size w wm → Code.wp _ _ _ _ wm) => k _ ?_ ?_ ?_ ?_ ?_ ?_) ?_
  · (refine Has.as (by repeat' (first|with_reducible (first|assumption|apply J0|apply J1|apply J2|apply J3|apply J4|apply J5|apply J6|apply J7|apply J8|apply J9)|(with_reducible show _ ≠ _;first|omega|(simp;done)))) ?_; first | (with_reducible rfl) | (simp only [List.setIfInBounds_toArray, List.set_cons_zero, List.set_cons_succ]; first | done | rfl) | rfl | (simp; done))
  · (refine Has.as (by repeat' (first|with_reducible (first|assumption|apply J0|apply J1|apply J2|apply J3|apply J4|apply J5|apply J6|apply J7|apply J8|apply J9)|(with_reducible show _ ≠ _;first|omega|(simp;done)))) ?_; first | (with_reducible rfl) | (simp only [List.setIfInBounds_toArray, List.set_cons_zero, List.set_cons_succ]; first | done | rfl) | rfl | (simp; done))
  · (refine Has.as (by repeat' (first|with_reducible (first|assumption|apply J0|apply J1|apply J2|apply J3|apply J4|apply J5|apply J6|apply J7|apply J8|apply J9)|(with_reducible show _ ≠ _;first|omega|(simp;done)))) ?_; first | (with_reducible rfl) | (simp only [List.setIfInBounds_toArray, List.set_cons_zero, List.set_cons_succ]; first | done | rfl) | rfl | (simp; done))
  · (refine Has.as (by repeat' (first|with_reducible (first|assumption|apply J0|apply J1|apply J2|apply J3|apply J4|apply J5|apply J6|apply J7|apply J8|apply J9)|(with_reducible show _ ≠ _;first|omega|(simp;done)))) ?_; first | (with_reducible rfl) | (simp only [List.setIfInBounds_toArray, List.set_cons_zero, List.set_cons_succ]; first | done | rfl) | rfl | (simp; done))
  · (refine Has.as (by repeat' (first|with_reducible (first|assumption|apply J0|apply J1|apply J2|apply J3|apply J4|apply J5|apply J6|apply J7|apply J8|apply J9)|(with_reducible show _ ≠ _;first|omega|(simp;done)))) ?_; first | (with_reducible rfl) | (simp only [List.setIfInBounds_toArray, List.set_cons_zero, List.set_cons_succ]; first | done | rfl) | rfl | (simp; done))
  · repeat' (first|with_reducible (first|exact lowRefl _|apply lowSet|apply lowDrew|apply lowDrewN|apply lowAlloc)|(with_reducible refine lowCall ?_ (by assumption))|(show (_ : Nat) ≤ _;first|(simp;done)|(simp;omega)|omega))
  intro wm B0 B1 B2 B3 B4 hL
  have C0 := Jc B0
  have C1 := Jc B1
  have C2 := Jc B2
  have C3 := Jc B3
  have C4 := Jc B4
  clear B0 B1 B2 B3 B4
  by_cases q0 : qeq p.h ⟨0, 0, 0, 0⟩ = true
  rotate_left
  · have r0 : qeq p.h ⟨0, 0, 0, 0⟩ = false := by simpa using q0
    clear q0
    go_wp2
    go_ret
    refine ⟨by first | rfl | (simp [*]; done), hL⟩
  by_cases q1 : qeq p.b ⟨0, 0, 0, 0⟩ = true
  rotate_left
  · have r1 : qeq p.b ⟨0, 0, 0, 0⟩ = false := by simpa using q1
    clear q1
    go_wp2
    go_ret
    refine ⟨by first | rfl | (simp [*]; done), hL⟩
  by_cases q2 : xeqs p.x ⟨0, 0, 0, 0, 0, 0⟩ = true
  rotate_left
  · have r2 : xeqs p.x ⟨0, 0, 0, 0, 0, 0⟩ = false := by simpa using q2
    clear q2
    go_wp2
    go_ret
    refine ⟨by first | rfl | (simp [*]; done), hL⟩
  by_cases g0 : p.S = 0
  rotate_left
  · skip
    go_wp2
    go_ret
    refine ⟨by first | rfl | (simp [*]; done), hL⟩
  by_cases g1 : p.B = 0
  rotate_left
  · skip
    go_wp2
    go_ret
    refine ⟨by first | rfl | (simp [*]; done), hL⟩
  go_wp2
  go_ret
  refine ⟨by first | rfl | (simp [*]; done), hL⟩
theorem l7Bare_two (p : Pt) (w : World) (h0 : p.k ≠ 0) (h1 : p.k ≠ 1) (h2 : p.k ≠ 2) (h6 : p.k ≠ 6) (h3 : ¬ p.k ≤ 2) : Calls Tryz.prog 166 #[p.val] w fun e w' => e = .returned (.bool (peq p p.bare)) ∧ Below w.heap.size w w' := by
  have e : peq p p.bare = [qeq p.h ⟨0, 0, 0, 0⟩, qeq p.b ⟨0, 0, 0, 0⟩, xeqs p.x ⟨0, 0, 0, 0, 0, 0⟩, meqs p.m ⟨0, 0, 0, false, false, false, 0, 0, 0⟩, p.S == 0].all id := by
    unfold Pt.bare
    simp only [h0, h1, h2, h6, if_false]
    unfold peq
    simp [qeq_self, xeqs_self, meqs_self]
    try ac_rfl
  rw [e]
  clear e
  simp only [List.all_cons, List.all_nil, id, Bool.and_true]
  go_enter Tryz.func166, Tryz.ntmps166
  go_upto_region 5 with fail
  refine (fun (k : ∀ wm, Has wm w.heap.size p.arr 49 → Has wm (w.heap.size + 1) #[.int .i64 0, .int .i64 0, .int .i64 0, .int .i64 0] 41 → Has wm (w.heap.size + 1 + 1) #[.int .i64 0, .int .i64 0, .int .i64 0, .int .i64 0] 43 → Has wm (w.heap.size + 1 + 1 + 1) #[.int .i64 0, .int .i64 0, .int .i64 0, .int .i64 0, .int .i64 0, .int .i64 0] 45 → Has wm (w.heap.size + 1 + 1 + 1 + 1) #[.int .i64 0, .int .i64 0, .int .i64 0, .bool false, .bool false, .bool false, .int .i64 0, .int .i64 0, .int .i64 0] 47 → Below w.heap.size w wm → Code.wp _ _ _ _ wm) => k _ ?_ ?_ ?_ ?_ ?_ ?_) ?_
  · (refine Has.as (by repeat' (first|with_reducible (first|assumption|apply J0|apply J1|apply J2|apply J3|apply J4|apply J5|apply J6|apply J7|apply J8|apply J9)|(with_reducible show _ ≠ _;first|omega|(simp;done)))) ?_; first | (with_reducible rfl) | (simp only [List.setIfInBounds_toArray, List.set_cons_zero, List.set_cons_succ]; first | done | rfl) | rfl | (simp; done))
  · (refine Has.as (by repeat' (first|with_reducible (first|assumption|apply J0|apply J1|apply J2|apply J3|apply J4|apply J5|apply J6|apply J7|apply J8|apply J9)|(with_reducible show _ ≠ _;first|omega|(simp;done)))) ?_; first | (with_reducible rfl) | (simp only [List.setIfInBounds_toArray, List.set_cons_zero, List.set_cons_succ]; first | done | rfl) | rfl | (simp; done))
  · (refine Has.as (by repeat' (first|with_reducible (first|assumption|apply J0|apply J1|apply J2|apply J3|apply J4|apply J5|apply J6|apply J7|apply J8|apply J9)|(with_reducible show _ ≠ _;first|omega|(simp;done)))) ?_; first | (with_reducible rfl) | (simp only [List.setIfInBounds_toArray, List.set_cons_zero, List.set_cons_succ]; first | done | rfl) | rfl | (simp; done))
  · (refine Has.as (by repeat' (first|with_reducible (first|assumption|apply J0|apply J1|apply J2|apply J3|apply J4|apply J5|apply J6|apply J7|apply J8|apply J9)|(with_reducible show _ ≠ _;first|omega|(simp;done)))) ?_; first | (with_reducible rfl) | (simp only [List.setIfInBounds_toArray, List.set_cons_zero, List.set_cons_succ]; first | done | rfl) | rfl | (simp; done))
  · (refine Has.as (by repeat' (first|with_reducible (first|assumption|apply J0|apply J1|apply J2|apply J3|apply J4|apply J5|apply J6|apply J7|apply J8|apply J9)|(with_reducible show _ ≠ _;first|omega|(simp;done)))) ?_; first | (with_reducible rfl) | (simp only [List.setIfInBounds_toArray, List.set_cons_zero, List.set_cons_succ]; first | done | rfl) | rfl | (simp; done))
  · repeat' (first|with_reducible (first|exact lowRefl _|apply lowSet|apply lowDrew|apply lowDrewN|apply lowAlloc)|(with_reducible refine lowCall ?_ (by assumption))|(show (_ : Nat) ≤ _;first|(simp;done)|(simp;omega)|omega))
  intro wm B0 B1 B2 B3 B4 hL
  have C0 := Jc B0
  have C1 := Jc B1
  have C2 := Jc B2
  have C3 := Jc B3
  have C4 := Jc B4
  clear B0 B1 B2 B3 B4
  by_cases q0 : qeq p.h ⟨0, 0, 0, 0⟩ = true
  rotate_left
  · have r0 : qeq p.h ⟨0, 0, 0, 0⟩ = false := by simpa using q0
    clear q0
    go_wp2
    go_ret
    refine ⟨by first | rfl | (simp [*]; done), hL⟩
  by_cases q1 : qeq p.b ⟨0, 0, 0, 0⟩ = true
  rotate_left
  · have r1 : qeq p.b ⟨0, 0, 0, 0⟩ = false := by simpa using q1
    clear q1
    go_wp2
    go_ret
    refine ⟨by first | rfl | (simp [*]; done), hL⟩
  by_cases q2 : xeqs p.x ⟨0, 0, 0, 0, 0, 0⟩ = true
  rotate_left
  · have r2 : xeqs p.x ⟨0, 0, 0, 0, 0, 0⟩ = false := by simpa using q2
    clear q2
    go_wp2
    go_ret
    refine ⟨by first | rfl | (simp [*]; done), hL⟩
  by_cases q3 : meqs p.m ⟨0, 0, 0, false, false, false, 0, 0, 0⟩ = true
  rotate_left
  · have r3 : meqs p.m ⟨0, 0, 0, false, false, false, 0, 0, 0⟩ = false := by simpa using q3
    clear q3
    go_wp2
    go_ret
    refine ⟨by first | rfl | (simp [*]; done), hL⟩
  by_cases g0 : p.S = 0
  rotate_left
  · skip
    go_wp2
    go_ret
    refine ⟨by first | rfl | (simp [*]; done), hL⟩
  go_wp2
  go_ret
  refine ⟨by first | rfl | (simp [*]; done), hL⟩
end
end Go.Proofs.YtegibpepdndocabGreat
