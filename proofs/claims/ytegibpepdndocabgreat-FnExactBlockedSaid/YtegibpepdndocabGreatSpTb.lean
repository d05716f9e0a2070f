import Derived.Test.YtegibpepdndocabGreatMotLb
import Derived.Test.YtegibpepdndocabGreatRayBb
namespace Go.Proofs.YtegibpepdndocabGreat
open Has renaming new → J0, new1 → J1, new2 → J2, new3 → J3, new4 → J4, drew → J5, drewN → J6, alloc → J7, same → J8, other → J9, cell → Jc, frozen → Jf, below → Jb
open Go.ChangeShapes Go.WideShapes Go.ChangeAt Go.RowKit
set_option linter.unusedSimpArgs false
set_option linter.unusedVariables false
set_option maxHeartbeats 2000000

attribute [local go_sem] VGo_value VGo_skip VGo_enter
attribute [local go_sem] Pt.arr0 Pt.arr1 Pt.arr2 Pt.arr3 Pt.arr4 Pt.arr5 Pt.arr6 Pt.arr7 Pt.arr8 Pt.arr9 Pt.arr10 Pt.arr11 Pt.arr12 Pt.arr13 Pt.arr14 Pt.arr15 Pt.arr16 Pt.arr17 Pt.arr18 Pt.arr19 Pt.arr20 Pt.arr21 Pt.arr22 Pt.arr23 Pt.arr24 Pt.arr25 Pt.arr26
attribute [-go_sem] loadVar storeVar
theorem lvHalfL (a : Addr) (w : World) : (loadVar 25 a).run Tryz.prog w = ((loadCells a 4).run Tryz.prog w).andThen fun cs w2 => .ok (.agg cs) w2 := by
  rw [lvB (Tryz.isAgg25 w), Tryz.sizeOf25 w, Result.andThen_ok]
theorem lvBallL (a : Addr) (w : World) : (loadVar 27 a).run Tryz.prog w = ((loadCells a 4).run Tryz.prog w).andThen fun cs w2 => .ok (.agg cs) w2 := by
  rw [lvB (Tryz.isAgg27 w), Tryz.sizeOf27 w, Result.andThen_ok]
theorem lvBoxL (a : Addr) (w : World) : (loadVar 29 a).run Tryz.prog w = ((loadCells a 6).run Tryz.prog w).andThen fun cs w2 => .ok (.agg cs) w2 := by
  rw [lvB (Tryz.isAgg29 w), Tryz.sizeOf29 w, Result.andThen_ok]
theorem lvMotionL (a : Addr) (w : World) : (loadVar 33 a).run Tryz.prog w = ((loadCells a 9).run Tryz.prog w).andThen fun cs w2 => .ok (.agg cs) w2 := by
  rw [lvB (Tryz.isAgg33 w), Tryz.sizeOf33 w, Result.andThen_ok]
attribute [local go_sem] lvA svA lvVec lvHalf lvBall lvBox lvMot lvHalfL lvBallL lvBoxL lvMotionL
attribute [local go_sem high] ptLoadNew ptStoreNew ptZeroV
/- a struct that lies in the middle of a block is stored -/
theorem stMid {w : World} {b : Nat} {cs : Array Value} {T : TypeId} (h : Has w b cs T) (t : TypeId) (o n : Nat) (vs : Array Value) (ht : (Tryz.prog.info? t).map (·.size) = some n) (hn : vs.size = n) (hin : o + n ≤ cs.size) (h1 : vs.all (·.oneCell') = true) :
    (storeVar t ⟨b, o, none⟩ (.agg vs)).run Tryz.prog w = .ok () (w.setCells b o vs.toList) :=
  run_storeVar_mid (P := Tryz.prog) w b o t vs (fun j hj => ⟨by
    rw [Jc h, Array.getElem?_eq_getElem (by omega)]; rfl, Jf h _⟩) (by rw [ht, hn]) h1
theorem hfSize : (Tryz.prog.info? 41).map (·.size) = some 4 := by kernel_rfl
theorem blSize : (Tryz.prog.info? 43).map (·.size) = some 4 := by kernel_rfl
theorem bxSize : (Tryz.prog.info? 45).map (·.size) = some 6 := by kernel_rfl
theorem setH (q : Pt) (h : Qd) : setL q.arr 1 [.int .i64 h.f, .int .i64 h.t, .int .i64 h.i, .int .i64 h.o] = Pt.arr { q with h := h } := by kernel_rfl
theorem setB (q : Pt) (h : Qd) : setL q.arr 5 [.int .i64 h.f, .int .i64 h.t, .int .i64 h.i, .int .i64 h.o] = Pt.arr { q with b := h } := by kernel_rfl
theorem setX (q : Pt) (s : Sx) : setL q.arr 9 [.int .i64 s.a, .int .i64 s.b, .int .i64 s.c, .int .i64 s.d, .int .i64 s.e, .int .i64 s.f] = Pt.arr { q with x := s } := by kernel_rfl
theorem setM (q : Pt) (m : Mo) : setL q.arr 15 m.cells = Pt.arr { q with m := m } := by kernel_rfl
set_option maxRecDepth 100000 in
theorem toPart_any (p : Pt) (w : World) : Calls Tryz.prog 16 #[p.val] w fun e w' => e = .returned (p.val) ∧ Below w.heap.size w w' := by
  go_enter Tryz.func16, Tryz.ntmps16
  go_upto_region 2 with fail
  refine (fun (k : ∀ wm, Has wm w.heap.size p.arr 35 → Has wm (w.heap.size + 1) Pt.zero.arr 49 → Has wm (w.heap.size + 1 + 1) (Pt.arr Pt.zero) 49 → Below w.heap.size w wm → Code.wp _ _ _ _ wm) => k _ ?_ ?_ ?_ ?_) ?_
  focus ((refine Has.as (by repeat' (first|with_reducible (first|assumption|apply J0|apply J1|apply J2|apply J3|apply J4|apply J5|apply J6|apply J7|apply J8|apply J9)|(with_reducible show _ ≠ _;first|omega|(simp;done)))) ?_; first | (with_reducible rfl) | (simp only [List.setIfInBounds_toArray, List.set_cons_zero, List.set_cons_succ]; first | done | rfl) | rfl | (simp; done)))
  focus ((refine Has.as (by repeat' (first|with_reducible (first|assumption|apply J0|apply J1|apply J2|apply J3|apply J4|apply J5|apply J6|apply J7|apply J8|apply J9)|(with_reducible show _ ≠ _;first|omega|(simp;done)))) ?_; first | (with_reducible rfl) | (simp only [List.setIfInBounds_toArray, List.set_cons_zero, List.set_cons_succ]; first | done | rfl) | rfl | (simp; done)))
  focus ((refine Has.as (by repeat' (first|with_reducible (first|assumption|apply J0|apply J1|apply J2|apply J3|apply J4|apply J5|apply J6|apply J7|apply J8|apply J9)|(with_reducible show _ ≠ _;first|omega|(simp;done)))) ?_; first | (with_reducible rfl) | (simp only [List.setIfInBounds_toArray, List.set_cons_zero, List.set_cons_succ]; first | done | rfl) | rfl | (simp; done)))
  focus (repeat' (first|with_reducible (first|exact lowRefl _|apply lowSet|apply lowDrew|apply lowDrewN|apply lowAlloc)|(with_reducible refine lowCall ?_ (by assumption))|(show (_ : Nat) ≤ _;first|(simp;done)|(simp;omega)|omega)))
  intro wm B0 B1 B2 hL
  have C0 := Jc B0
  have C2 := Jc B2
  have F2 := Jf B2
  go_upto_region 3 with fail
  refine (fun (k : ∀ wm, Has wm w.heap.size p.arr 35 → Has wm (w.heap.size + 1) Pt.zero.arr 49 → Has wm (w.heap.size + 1 + 1) (Pt.arr { Pt.zero with k := p.k }) 49 → Below w.heap.size w wm → Code.wp _ _ _ _ wm) => k _ ?_ ?_ ?_ ?_) ?_
  clear C0 C2 F2
  focus ((refine Has.as (by repeat' (first|with_reducible (first|assumption|apply J0|apply J1|apply J2|apply J3|apply J4|apply J5|apply J6|apply J7|apply J8|apply J9)|(with_reducible show _ ≠ _;first|omega|(simp;done)))) ?_; first | (with_reducible rfl) | (simp only [List.setIfInBounds_toArray, List.set_cons_zero, List.set_cons_succ]; first | done | rfl) | rfl | (simp; done)))
  focus ((refine Has.as (by repeat' (first|with_reducible (first|assumption|apply J0|apply J1|apply J2|apply J3|apply J4|apply J5|apply J6|apply J7|apply J8|apply J9)|(with_reducible show _ ≠ _;first|omega|(simp;done)))) ?_; first | (with_reducible rfl) | (simp only [List.setIfInBounds_toArray, List.set_cons_zero, List.set_cons_succ]; first | done | rfl) | rfl | (simp; done)))
  focus ((refine Has.as (by repeat' (first|with_reducible (first|assumption|apply J0|apply J1|apply J2|apply J3|apply J4|apply J5|apply J6|apply J7|apply J8|apply J9)|(with_reducible show _ ≠ _;first|omega|(simp;done)))) ?_; first | (with_reducible rfl) | (simp only [List.setIfInBounds_toArray, List.set_cons_zero, List.set_cons_succ]; first | done | rfl) | rfl | (simp; done)))
  focus (repeat' (first|with_reducible (first|exact lowRefl _|apply lowSet|apply lowDrew|apply lowDrewN|apply lowAlloc)|(with_reducible refine lowCall ?_ (by assumption))|(show (_ : Nat) ≤ _;first|(simp;done)|(simp;omega)|omega)))
  intro wm B0 B1 B2 hL
  have C0 := Jc B0
  have C2 := Jc B2
  have F2 := Jf B2
  go_upto_region 4 with (go_at_call 74; (with_reducible refine (toHalf_any p.h.f p.h.t p.h.i p.h.o _).mono ?_); rintro e w' ⟨rfl, hbq⟩; have D0 := B0.below hbq; have D1 := B1.below hbq; have D2 := B2.below hbq; have hD := lowCall hL hbq; have S := stMid D2 41 1 4 #[.int .i64 p.h.f, .int .i64 p.h.t, .int .i64 p.h.i, .int .i64 p.h.o] hfSize rfl (by show _ ≤ 27; omega) (by simp [Value.oneCell']))
  refine (fun (k : ∀ wm, Has wm w.heap.size p.arr 35 → Has wm (w.heap.size + 1) Pt.zero.arr 49 → Has wm (w.heap.size + 1 + 1) (Pt.arr { Pt.zero with k := p.k, h := p.h }) 49 → Below w.heap.size w wm → Code.wp _ _ _ _ wm) => k _ ?_ ?_ ?_ ?_) ?_
  focus (exact D0.setCellsO (by omega) _ _ _)
  focus (exact D1.setCellsO (by omega) _ _ _)
  focus (exact Has.as (D2.setCells _ _ _ _) (setH _ p.h))
  focus (exact lowCells (by omega) _ _ _ hD)
  clear D0 D1 D2 S hD hbq B0 B1 B2 C0 C2 F2 hL
  clear wm
  intro wm B0 B1 B2 hL
  have C0 := Jc B0
  have C2 := Jc B2
  have F2 := Jf B2
  go_upto_region 5 with (go_at_call 75; (with_reducible refine (toBall_any p.b.f p.b.t p.b.i p.b.o _).mono ?_); rintro e w' ⟨rfl, hbq⟩; have D0 := B0.below hbq; have D1 := B1.below hbq; have D2 := B2.below hbq; have hD := lowCall hL hbq; have S := stMid D2 43 5 4 #[.int .i64 p.b.f, .int .i64 p.b.t, .int .i64 p.b.i, .int .i64 p.b.o] blSize rfl (by show _ ≤ 27; omega) (by simp [Value.oneCell']))
  refine (fun (k : ∀ wm, Has wm w.heap.size p.arr 35 → Has wm (w.heap.size + 1) Pt.zero.arr 49 → Has wm (w.heap.size + 1 + 1) (Pt.arr { Pt.zero with k := p.k, h := p.h, b := p.b }) 49 → Below w.heap.size w wm → Code.wp _ _ _ _ wm) => k _ ?_ ?_ ?_ ?_) ?_
  focus (exact D0.setCellsO (by omega) _ _ _)
  focus (exact D1.setCellsO (by omega) _ _ _)
  focus (exact Has.as (D2.setCells _ _ _ _) (setB _ p.b))
  focus (exact lowCells (by omega) _ _ _ hD)
  clear D0 D1 D2 S hD hbq B0 B1 B2 C0 C2 F2 hL
  clear wm
  intro wm B0 B1 B2 hL
  have C0 := Jc B0
  have C2 := Jc B2
  have F2 := Jf B2
  go_upto_region 6 with (go_at_call 76; (with_reducible refine (toBox_any p.x.a p.x.b p.x.c p.x.d p.x.e p.x.f _).mono ?_); rintro e w' ⟨rfl, hbq⟩; have D0 := B0.below hbq; have D1 := B1.below hbq; have D2 := B2.below hbq; have hD := lowCall hL hbq; have S := stMid D2 45 9 6 #[.int .i64 p.x.a, .int .i64 p.x.b, .int .i64 p.x.c, .int .i64 p.x.d, .int .i64 p.x.e, .int .i64 p.x.f] bxSize rfl (by show _ ≤ 27; omega) (by simp [Value.oneCell']))
  refine (fun (k : ∀ wm, Has wm w.heap.size p.arr 35 → Has wm (w.heap.size + 1) Pt.zero.arr 49 → Has wm (w.heap.size + 1 + 1) (Pt.arr { Pt.zero with k := p.k, h := p.h, b := p.b, x := p.x }) 49 → Below w.heap.size w wm → Code.wp _ _ _ _ wm) => k _ ?_ ?_ ?_ ?_) ?_
  focus (exact D0.setCellsO (by omega) _ _ _)
  focus (exact D1.setCellsO (by omega) _ _ _)
  focus (exact Has.as (D2.setCells _ _ _ _) (setX _ p.x))
  focus (exact lowCells (by omega) _ _ _ hD)
  clear D0 D1 D2 S hD hbq B0 B1 B2 C0 C2 F2 hL
  clear wm
  intro wm B0 B1 B2 hL
  have C0 := Jc B0
  have C2 := Jc B2
  have F2 := Jf B2
  go_upto_region 7 with (go_at_call 77; (with_reducible refine (toMotion_any p.m.a p.m.b p.m.c p.m.k p.m.l p.m.n p.m.p p.m.q p.m.r _).mono ?_); rintro e w' ⟨rfl, hbq⟩; have D0 := B0.below hbq; have D1 := B1.below hbq; have D2 := B2.below hbq; have hD := lowCall hL hbq; have S := stMid D2 47 15 9 #[.int .i64 p.m.a, .int .i64 p.m.b, .int .i64 p.m.c, .bool p.m.k, .bool p.m.l, .bool p.m.n, .int .i64 p.m.p, .int .i64 p.m.q, .int .i64 p.m.r] moSize rfl (by show _ ≤ 27; omega) (by simp [Value.oneCell']))
  refine (fun (k : ∀ wm, Has wm w.heap.size p.arr 35 → Has wm (w.heap.size + 1) Pt.zero.arr 49 → Has wm (w.heap.size + 1 + 1) (Pt.arr { Pt.zero with k := p.k, h := p.h, b := p.b, x := p.x, m := p.m }) 49 → Below w.heap.size w wm → Code.wp _ _ _ _ wm) => k _ ?_ ?_ ?_ ?_) ?_
  focus (exact D0.setCellsO (by omega) _ _ _)
  focus (exact D1.setCellsO (by omega) _ _ _)
  focus (exact Has.as (D2.setCells _ _ _ _) (setM _ p.m))
  focus (exact lowCells (by omega) _ _ _ hD)
  clear D0 D1 D2 S hD hbq B0 B1 B2 C0 C2 F2 hL
  clear wm
  intro wm B0 B1 B2 hL
  have C0 := Jc B0
  have C2 := Jc B2
  have F2 := Jf B2
  go_upto_region 8 with fail
  refine (fun (k : ∀ wm, Has wm w.heap.size p.arr 35 → Has wm (w.heap.size + 1) Pt.zero.arr 49 → Has wm (w.heap.size + 1 + 1) (Pt.arr { Pt.zero with k := p.k, h := p.h, b := p.b, x := p.x, m := p.m, A := p.A }) 49 → Below w.heap.size w wm → Code.wp _ _ _ _ wm) => k _ ?_ ?_ ?_ ?_) ?_
  clear C0 C2 F2
  focus ((refine Has.as (by repeat' (first|with_reducible (first|assumption|apply J0|apply J1|apply J2|apply J3|apply J4|apply J5|apply J6|apply J7|apply J8|apply J9)|(with_reducible show _ ≠ _;first|omega|(simp;done)))) ?_; first | (with_reducible rfl) | (simp only [List.setIfInBounds_toArray, List.set_cons_zero, List.set_cons_succ]; first | done | rfl) | rfl | (simp; done)))
  focus ((refine Has.as (by repeat' (first|with_reducible (first|assumption|apply J0|apply J1|apply J2|apply J3|apply J4|apply J5|apply J6|apply J7|apply J8|apply J9)|(with_reducible show _ ≠ _;first|omega|(simp;done)))) ?_; first | (with_reducible rfl) | (simp only [List.setIfInBounds_toArray, List.set_cons_zero, List.set_cons_succ]; first | done | rfl) | rfl | (simp; done)))
  focus ((refine Has.as (by repeat' (first|with_reducible (first|assumption|apply J0|apply J1|apply J2|apply J3|apply J4|apply J5|apply J6|apply J7|apply J8|apply J9)|(with_reducible show _ ≠ _;first|omega|(simp;done)))) ?_; first | (with_reducible rfl) | (simp only [List.setIfInBounds_toArray, List.set_cons_zero, List.set_cons_succ]; first | done | rfl) | rfl | (simp; done)))
  focus (repeat' (first|with_reducible (first|exact lowRefl _|apply lowSet|apply lowDrew|apply lowDrewN|apply lowAlloc)|(with_reducible refine lowCall ?_ (by assumption))|(show (_ : Nat) ≤ _;first|(simp;done)|(simp;omega)|omega)))
  intro wm B0 B1 B2 hL
  have C0 := Jc B0
  have C2 := Jc B2
  have F2 := Jf B2
  go_upto_region 9 with fail
  refine (fun (k : ∀ wm, Has wm w.heap.size p.arr 35 → Has wm (w.heap.size + 1) Pt.zero.arr 49 → Has wm (w.heap.size + 1 + 1) (Pt.arr { Pt.zero with k := p.k, h := p.h, b := p.b, x := p.x, m := p.m, A := p.A, B := p.B }) 49 → Below w.heap.size w wm → Code.wp _ _ _ _ wm) => k _ ?_ ?_ ?_ ?_) ?_
  clear C0 C2 F2
  focus ((refine Has.as (by repeat' (first|with_reducible (first|assumption|apply J0|apply J1|apply J2|apply J3|apply J4|apply J5|apply J6|apply J7|apply J8|apply J9)|(with_reducible show _ ≠ _;first|omega|(simp;done)))) ?_; first | (with_reducible rfl) | (simp only [List.setIfInBounds_toArray, List.set_cons_zero, List.set_cons_succ]; first | done | rfl) | rfl | (simp; done)))
  focus ((refine Has.as (by repeat' (first|with_reducible (first|assumption|apply J0|apply J1|apply J2|apply J3|apply J4|apply J5|apply J6|apply J7|apply J8|apply J9)|(with_reducible show _ ≠ _;first|omega|(simp;done)))) ?_; first | (with_reducible rfl) | (simp only [List.setIfInBounds_toArray, List.set_cons_zero, List.set_cons_succ]; first | done | rfl) | rfl | (simp; done)))
  focus ((refine Has.as (by repeat' (first|with_reducible (first|assumption|apply J0|apply J1|apply J2|apply J3|apply J4|apply J5|apply J6|apply J7|apply J8|apply J9)|(with_reducible show _ ≠ _;first|omega|(simp;done)))) ?_; first | (with_reducible rfl) | (simp only [List.setIfInBounds_toArray, List.set_cons_zero, List.set_cons_succ]; first | done | rfl) | rfl | (simp; done)))
  focus (repeat' (first|with_reducible (first|exact lowRefl _|apply lowSet|apply lowDrew|apply lowDrewN|apply lowAlloc)|(with_reducible refine lowCall ?_ (by assumption))|(show (_ : Nat) ≤ _;first|(simp;done)|(simp;omega)|omega)))
  intro wm B0 B1 B2 hL
  have C0 := Jc B0
  have C2 := Jc B2
  have F2 := Jf B2
  go_upto_region 10 with fail
  refine (fun (k : ∀ wm, Has wm w.heap.size p.arr 35 → Has wm (w.heap.size + 1) Pt.zero.arr 49 → Has wm (w.heap.size + 1 + 1) (Pt.arr { Pt.zero with k := p.k, h := p.h, b := p.b, x := p.x, m := p.m, A := p.A, B := p.B, S := p.S }) 49 → Below w.heap.size w wm → Code.wp _ _ _ _ wm) => k _ ?_ ?_ ?_ ?_) ?_
  clear C0 C2 F2
  focus ((refine Has.as (by repeat' (first|with_reducible (first|assumption|apply J0|apply J1|apply J2|apply J3|apply J4|apply J5|apply J6|apply J7|apply J8|apply J9)|(with_reducible show _ ≠ _;first|omega|(simp;done)))) ?_; first | (with_reducible rfl) | (simp only [List.setIfInBounds_toArray, List.set_cons_zero, List.set_cons_succ]; first | done | rfl) | rfl | (simp; done)))
  focus ((refine Has.as (by repeat' (first|with_reducible (first|assumption|apply J0|apply J1|apply J2|apply J3|apply J4|apply J5|apply J6|apply J7|apply J8|apply J9)|(with_reducible show _ ≠ _;first|omega|(simp;done)))) ?_; first | (with_reducible rfl) | (simp only [List.setIfInBounds_toArray, List.set_cons_zero, List.set_cons_succ]; first | done | rfl) | rfl | (simp; done)))
  focus ((refine Has.as (by repeat' (first|with_reducible (first|assumption|apply J0|apply J1|apply J2|apply J3|apply J4|apply J5|apply J6|apply J7|apply J8|apply J9)|(with_reducible show _ ≠ _;first|omega|(simp;done)))) ?_; first | (with_reducible rfl) | (simp only [List.setIfInBounds_toArray, List.set_cons_zero, List.set_cons_succ]; first | done | rfl) | rfl | (simp; done)))
  focus (repeat' (first|with_reducible (first|exact lowRefl _|apply lowSet|apply lowDrew|apply lowDrewN|apply lowAlloc)|(with_reducible refine lowCall ?_ (by assumption))|(show (_ : Nat) ≤ _;first|(simp;done)|(simp;omega)|omega)))
  intro wm B0 B1 B2 hL
  have C0 := Jc B0
  have C2 := Jc B2
  have F2 := Jf B2
  have P1 := ptLoad _ B2
  have S2 := fun p => ptStore p B1 rfl
  go_wp2
  refine bodyPost_has (b := w.heap.size + 1) (T := 49) (B1.setRow _) (fun wE hE => ?hres) rfl ⟨rfl, lowRow hL (by omega) _⟩
  case hres => have pE := ptLoad _ hE; simp [results, Tryz.results16, go_sem, pE]; done
set_option maxRecDepth 100000 in
theorem eqPart_yes (p : Pt) (w : World) : Calls Tryz.prog 86 #[p.val, p.val] w fun e w' => e = .returned (.bool true) ∧ Below w.heap.size w w' := by
  go_enter Tryz.func86, Tryz.ntmps86
  go_upto_region 1 with fail
  refine (fun (k : ∀ wm, Has wm w.heap.size p.arr 49 → Has wm (w.heap.size + 1) p.arr 49 → Below w.heap.size w wm → Code.wp _ _ _ _ wm) => k _ ?_ ?_ ?_) ?_
  focus ((refine Has.as (by repeat' (first|with_reducible (first|assumption|apply J0|apply J1|apply J2|apply J3|apply J4|apply J5|apply J6|apply J7|apply J8|apply J9)|(with_reducible show _ ≠ _;first|omega|(simp;done)))) ?_; first | (with_reducible rfl) | (simp only [List.setIfInBounds_toArray, List.set_cons_zero, List.set_cons_succ]; first | done | rfl) | rfl | (simp; done)))
  focus ((refine Has.as (by repeat' (first|with_reducible (first|assumption|apply J0|apply J1|apply J2|apply J3|apply J4|apply J5|apply J6|apply J7|apply J8|apply J9)|(with_reducible show _ ≠ _;first|omega|(simp;done)))) ?_; first | (with_reducible rfl) | (simp only [List.setIfInBounds_toArray, List.set_cons_zero, List.set_cons_succ]; first | done | rfl) | rfl | (simp; done)))
  focus (repeat' (first|with_reducible (first|exact lowRefl _|apply lowSet|apply lowDrew|apply lowDrewN|apply lowAlloc)|(with_reducible refine lowCall ?_ (by assumption))|(show (_ : Nat) ≤ _;first|(simp;done)|(simp;omega)|omega)))
  intro wm B0 B1 hL
  have C0 := Jc B0
  have C1 := Jc B1
  go_wp2_with (first | (go_at_call 143; (with_reducible refine (eqHalf_yes p.h.f p.h.t p.h.i p.h.o _).mono ?_); rintro e w' ⟨rfl, hbq⟩; have B0 := B0.below hbq; have B1 := B1.below hbq; have hL := lowCall hL hbq; have C0 := Jc B0; have C1 := Jc B1) | (go_at_call 144; (with_reducible refine (eqBall_yes p.b.f p.b.t p.b.i p.b.o _).mono ?_); rintro e w' ⟨rfl, hbq⟩; have B0 := B0.below hbq; have B1 := B1.below hbq; have hL := lowCall hL hbq; have C0 := Jc B0; have C1 := Jc B1) | (go_at_call 145; (with_reducible refine (eqBox_yes p.x.a p.x.b p.x.c p.x.d p.x.e p.x.f _).mono ?_); rintro e w' ⟨rfl, hbq⟩; have B0 := B0.below hbq; have B1 := B1.below hbq; have hL := lowCall hL hbq; have C0 := Jc B0; have C1 := Jc B1) | (go_at_call 146; (with_reducible refine (eqMotion_yes p.m.a p.m.b p.m.c p.m.k p.m.l p.m.n p.m.p p.m.q p.m.r _).mono ?_); rintro e w' ⟨rfl, hbq⟩; have B0 := B0.below hbq; have B1 := B1.below hbq; have hL := lowCall hL hbq; have C0 := Jc B0; have C1 := Jc B1))
  go_ret
  exact ⟨rfl, hL⟩
theorem takeZ (l : List Pt) (j : Nat) (hj : j < l.length) (z : Pt) : (l.take j ++ List.replicate (l.length - j) z).set j l[j] = l.take (j + 1) ++ List.replicate (l.length - (j + 1)) z := by
  rw [List.set_append_right _ _ (by simp; omega)]
  have e : l.length - j = l.length - (j + 1) + 1 := by omega
  rw [e, List.replicate_succ, List.length_take, Nat.min_eq_left (by omega), Nat.sub_self, List.set_cons_zero, List.take_succ_eq_append_getElem hj, List.append_assoc]
  rfl
theorem ptSizeL : (Tryz.prog.info? 35).map (·.size) = some 27 := by kernel_rfl
theorem Pat.loadL {w : World} {b k : Nat} {p : Pt} (h : Pat w b k p) : (Go.loadVar 35 ⟨b, k, none⟩).run Tryz.prog w = .ok p.val w :=
  run_loadVar_mid w b k _ p.cells _ h Tryz.underlying35 rfl ptSizeL
set_option maxRecDepth 100000 in
theorem toPartS_any (l : List Pt) (v : Value) (w : World) (h : PIn w v l) (hl : l.length ≤ 1048576) :
    Calls Tryz.prog 22 #[v] w fun e w' => ∃ v', e = .returned v' ∧ PRow w' w.heap.size v' l ∧ Below w.heap.size w w' := by
  obtain ⟨A, c, rfl, hA⟩ := h
  have HA := Lib.hid hA
  clear hA
  go_enter Tryz.func22, Tryz.ntmps22
  go_wp2_with (refine make_k _ rfl _ _ 59 49 27 200 _ rfl Tryz.underlying59 infoPt _ rfl rfl (by omega) w.heap.size l.length rfl rfl (by omega) (by omega) (Nat.le_refl _) ?_)
  intro w1 hr hg
  have hb := grown_none (lowRefl w) hg
  clear hg
  have hr0 : PRow w1 w.heap.size (.slice (some ⟨w.heap.size, 0, none⟩) l.length l.length) (l.take 0 ++ List.replicate (l.length - 0) Pt.zero) := by unfold PRow; rw [List.take_zero, List.nil_append, Nat.sub_zero, List.map_replicate]; exact hr
  clear hr
  go_wp2
  go_loopw [4] (fun i wr => ∃ j : Nat, j ≤ l.length ∧ i = .int .i64 j ∧ PRow wr w.heap.size (.slice (some ⟨w.heap.size, 0, none⟩) l.length l.length) (l.take j ++ List.replicate (l.length - j) Pt.zero) ∧ Below w.heap.size w wr) (fun i _ => l.length - (intOf i).toNat)
  case atStart => exact ⟨0, by omega, rfl, hr0, hb⟩
  case round =>
    clear hr0 hb
    obtain ⟨j, hj, rfl, hr, hb⟩ := hrel
    by_cases hc : j < l.length
    · obtain ⟨b, off, rfl, hf⟩ := HA.out (by omega)
      have LD := ((hf j hc).below hb).loadL
      have hll : l.length = (l.take j ++ List.replicate (l.length - j) Pt.zero).length := by simp; omega
      have HTZ := Lib.hid (takeZ l j hc Pt.zero)
      have HLL := Lib.hid hll
      clear hf hll
      generalize l[j] = p at LD HTZ
      go_wp2_with (go_at_call 16; (with_reducible refine (toPart_any p _).mono ?_); rintro e w' ⟨rfl, hbq⟩; have hb2 := lowCall hb hbq; obtain ⟨S1, hr3, hg3⟩ := PRow.storeAt (RowK.below hr hbq) HLL.out j (by rw [← HLL.out]; exact hc) p; have HR3 := Lib.hid hr3; have HG3 := Lib.hid hg3; clear hr3 hg3)
      go_roundw
      case rel =>
        have h3 := HR3.out
        rw [HTZ.out] at h3
        exact ⟨j + 1, by omega, by go_num, h3, hb2.grown HG3.out hb2.size (fun k hk => by injection hk with hk; omega)⟩
      case measure => simp [intOf]; omega
    · obtain rfl : j = l.length := by omega
      go_wp2
      go_ret
      exact ⟨_, rfl, by simpa using hr, hb⟩
set_option maxRecDepth 100000 in
theorem eqPartS_yes (l : List Pt) (vA vB : Value) (w : World) (hA : PIn w vA l) (hB : PIn w vB l) (hl : l.length ≤ 9223372036854775807) :
    Calls Tryz.prog 24 #[vA, vB] w fun e w' => e = .returned (.bool true) ∧ Below w.heap.size w w' := by
  obtain ⟨A, c, rfl, fA⟩ := hA
  obtain ⟨B, d, rfl, fB⟩ := hB
  have FA := Lib.hid fA
  have FB := Lib.hid fB
  clear fA fB
  go_enter Tryz.func24, Tryz.ntmps24
  go_wp2
  go_loopw [5] (fun i wr => ∃ j : Nat, j ≤ l.length ∧ i = .int .i64 j ∧ Below w.heap.size w wr) (fun i _ => l.length - (intOf i).toNat)
  case atStart => exact ⟨0, by omega, rfl, lowRefl w⟩
  case round =>
    obtain ⟨j, hj, rfl, hb⟩ := hrel
    by_cases hc : j < l.length
    · obtain ⟨bA, oA, rfl, hA⟩ := FA.out (by omega)
      obtain ⟨bB, oB, rfl, hB⟩ := FB.out (by omega)
      have NA : ∀ w', Below wr.drew.heap.size wr.drew w' → Pat w' bA (oA + j * 27) l[j] := fun w' h => ((hA j hc).below hb).below (undrew h)
      have NB : ∀ w', Below wr.drew.heap.size wr.drew w' → Pat w' bB (oB + j * 27) l[j] := fun w' h => ((hB j hc).below hb).below (undrew h)
      clear hA hB
      generalize l[j] = p at NA NB
      have HNA := Lib.hid NA
      have HNB := Lib.hid NB
      clear NA NB
      go_wp2
      (refine wp_region_held0 (by kernel_rfl) (by kernel_rfl) (fun _ _ _ d _ h => by cases d <;> exact h) ?_; intro Fq hFq)
      repeat (first | (refine wpHeld_skip (by rfl) ?_; ((try simp only [Act.put, List.setIfInBounds_toArray, List.set_cons_zero, List.set_cons_succ]))) | (refine wpHeld_run ?_ rfl ?_ ?_; rotate_left; (focus (intro w' hbq Kq hKq; go_simp; (try (rw [IntWalk.i64_in]; rotate_left; focus (constructor <;> omega))); first | exact hKq _ (Below.refl _ _) | first | (go_at_call 86; ((with_reducible refine (eqPart_yes p _).mono ?_); rintro e w2 ⟨rfl, hbr⟩; refine back ?_; exact hKq _ hbr)) | (have c1 := (HNA.out _ hbq).load; have c2 := (HNB.out _ hbq).load; go_simp; exact hKq _ (Below.refl _ _)))); ((try simp only [Act.put, List.setIfInBounds_toArray, List.set_cons_zero, List.set_cons_succ]))))
      (refine wpHeld_nil (hFq _ ?_); clear hFq; intro w' hbq; ((try (have B0 := Jb (b := w.heap.size) (by repeat' (first|with_reducible (first|assumption|apply J0|apply J1|apply J2|apply J3|apply J4|apply J5|apply J6|apply J7|apply J8|apply J9)|(with_reducible show _ ≠ _;first|omega|(simp;done)))) hbq; have C0 := Jc B0; have F0 := Jf B0)); (try (have B1 := Jb (b := w.heap.size + 1) (by repeat' (first|with_reducible (first|assumption|apply J0|apply J1|apply J2|apply J3|apply J4|apply J5|apply J6|apply J7|apply J8|apply J9)|(with_reducible show _ ≠ _;first|omega|(simp;done)))) hbq; have C1 := Jc B1; have F1 := Jf B1)); (try (have B2 := Jb (b := w.heap.size + 1 + 1) (by repeat' (first|with_reducible (first|assumption|apply J0|apply J1|apply J2|apply J3|apply J4|apply J5|apply J6|apply J7|apply J8|apply J9)|(with_reducible show _ ≠ _;first|omega|(simp;done)))) hbq; have C2 := Jc B2; have F2 := Jf B2))))
      go_wp2
      go_roundw
      case rel => exact ⟨j + 1, by omega, by go_num, lowCall hb (undrew hbq)⟩
      case measure => simp [intOf]; omega
    · obtain rfl : j = l.length := by omega
      go_wp2
      go_ret
      exact ⟨rfl, hb⟩
theorem szPartS_yes (A : Option Addr) (n c : Nat) (k : Int) (w : World) (h : (n : Int) ≤ k) (hk : k ≤ 1048576) : Calls Tryz.prog 20 #[.slice A n c, .int .i64 k] w fun e w' => e = .returned (.int .i64 (k - n)) ∧ w = w' := by
  go_enter Tryz.func20, Tryz.ntmps20
  go_wp2
  go_ret
  exact ⟨rfl, rfl⟩
theorem szPartS_no (A : Option Addr) (n c : Nat) (k : Int) (w : World) (h : k < (n : Int)) (h0 : 0 ≤ k) (hn : n ≤ 9223372036854775807) : Calls Tryz.prog 20 #[.slice A n c, .int .i64 k] w fun e w' => e = .returned (.int .i64 (-1)) ∧ w = w' := by
  go_enter Tryz.func20, Tryz.ntmps20
  go_wp2
  go_ret
  exact ⟨rfl, rfl⟩
end Go.Proofs.YtegibpepdndocabGreat
