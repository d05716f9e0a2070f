import Derived.Test.YtegibpepdndocabGreatBrek
namespace Go.Proofs.YtegibpepdndocabGreat
open Has renaming new → J0, new1 → J1, new2 → J2, new3 → J3, new4 → J4, drew → J5, drewN → J6, alloc → J7, same → J8, other → J9, cell → Jc, frozen → Jf, below → Jb
open Go.ChangeShapes Go.WideShapes Go.ChangeAt Go.RowKit
set_option linter.unusedSimpArgs false
set_option linter.unusedVariables false
set_option maxHeartbeats 1000000

attribute [local go_sem] VGo_value VGo_skip VGo_enter
attribute [local go_sem] Pt.arr0 Pt.arr1 Pt.arr2 Pt.arr3 Pt.arr4 Pt.arr5 Pt.arr6 Pt.arr7 Pt.arr8 Pt.arr9 Pt.arr10 Pt.arr11 Pt.arr12 Pt.arr13 Pt.arr14 Pt.arr15 Pt.arr16 Pt.arr17 Pt.arr18 Pt.arr19 Pt.arr20 Pt.arr21 Pt.arr22 Pt.arr23 Pt.arr24 Pt.arr25 Pt.arr26
attribute [-go_sem] loadVar storeVar
attribute [local go_sem] lvA svA lvVec lvHalf lvBall lvBox lvMot
attribute [local go_sem high] ptLoadNew ptStoreNew ptZeroV
theorem l7Bare_any (p : Pt) (w : World) (h : 0 ≤ p.k ∧ p.k ≤ 6) : Calls Tryz.prog 166 #[p.val] w fun e w' => e = .returned (.bool (peq p p.bare)) ∧ Below w.heap.size w w' := by
  by_cases h0 : p.k = 0
  · exact l7Bare_0 p w h0
  · by_cases h1 : p.k = 1
    · exact l7Bare_1 p w h1
    · by_cases h2 : p.k = 2
      · exact l7Bare_2 p w h2
      · by_cases h6 : p.k = 6
        · exact l7Bare_6 p w h6
        · exact l7Bare_two p w h0 h1 h2 h6 (by omega)
/- a leaf of the model -/
theorem shalfOk_any (a b c d : Int) (w : World) : Calls Tryz.prog 170 #[.agg #[.int .i64 (a), .int .i64 (b), .int .i64 (c), .int .i64 (d)]] w fun e w' => e = .returned (.bool (dec (Hok a b c d))) ∧ Below w.heap.size w w' := by
  by_cases h : Hok a b c d
  · rw [dec_yes h]; exact shalfOk_yes _ _ _ _ w h
  · rw [dec_no h]; exact shalfOk_no _ _ _ _ w h
theorem sballOk_any (a b c d : Int) (w : World) : Calls Tryz.prog 171 #[.agg #[.int .i64 (a), .int .i64 (b), .int .i64 (c), .int .i64 (d)]] w fun e w' => e = .returned (.bool (dec (Bok a b c d))) ∧ Below w.heap.size w w' := by
  by_cases h : Bok a b c d
  · rw [dec_yes h]; exact sballOk_yes _ _ _ _ w h
  · rw [dec_no h]; exact sballOk_no _ _ _ _ w h
theorem svecOk_any (a b c m : Int) (w : World) (h0 : 0 ≤ m) (h1 : m ≤ 4611686018427387904) : Calls Tryz.prog 103 #[.agg #[.int .i64 (a), .int .i64 (b), .int .i64 (c)], .int .i64 m] w fun e w' => e = .returned (.bool (dec (Vok a b c m))) ∧ Below w.heap.size w w' := by
  by_cases h : Vok a b c m
  · rw [dec_yes h]; exact svecOk_yes _ _ _ _ w h0 h1 h
  · rw [dec_no h]; exact svecOk_no _ _ _ _ w h0 h1 h
theorem l7Leaf_half (p : Pt) (w : World) (h : p.k = 0) : Calls Tryz.prog 98 #[p.val] w fun e w' => e = .returned (.bool (dec p.h.hok)) ∧ Below w.heap.size w w' := by
  go_enter Tryz.func98, Tryz.ntmps98
  go_wp2_with ((go_at_call 170; ((with_reducible refine (shalfOk_any _ _ _ _ _).mono ?_); rintro e w' ⟨rfl, hbq⟩); have B0 := Jb (b := w.heap.size) (by repeat' (first|with_reducible (first|assumption|apply J0|apply J1|apply J2|apply J3|apply J4|apply J5|apply J6|apply J7|apply J8|apply J9)|(with_reducible show _ ≠ _;first|omega|(simp;done)))) hbq; have C0 := Jc B0; have F0 := Jf B0; (try have P0 := ptLoad _ B0)))
  go_ret; refine ⟨rfl, ?_⟩; (repeat' (first|with_reducible (first|exact lowRefl _|apply lowSet|apply lowDrew|apply lowDrewN|apply lowAlloc)|(with_reducible refine lowCall ?_ (by assumption))|(show (_ : Nat) ≤ _;first|(simp;done)|(simp;omega)|omega)))
theorem l7Leaf_ball (p : Pt) (w : World) (h : p.k = 1) : Calls Tryz.prog 98 #[p.val] w fun e w' => e = .returned (.bool (dec p.b.bok)) ∧ Below w.heap.size w w' := by
  go_enter Tryz.func98, Tryz.ntmps98
  go_wp2_with ((go_at_call 171; ((with_reducible refine (sballOk_any _ _ _ _ _).mono ?_); rintro e w' ⟨rfl, hbq⟩); have B0 := Jb (b := w.heap.size) (by repeat' (first|with_reducible (first|assumption|apply J0|apply J1|apply J2|apply J3|apply J4|apply J5|apply J6|apply J7|apply J8|apply J9)|(with_reducible show _ ≠ _;first|omega|(simp;done)))) hbq; have C0 := Jc B0; have F0 := Jf B0; (try have P0 := ptLoad _ B0)))
  go_ret; refine ⟨rfl, ?_⟩; (repeat' (first|with_reducible (first|exact lowRefl _|apply lowSet|apply lowDrew|apply lowDrewN|apply lowAlloc)|(with_reducible refine lowCall ?_ (by assumption))|(show (_ : Nat) ≤ _;first|(simp;done)|(simp;omega)|omega)))
theorem l7Leaf_box (p : Pt) (w : World) (h : p.k = 2) (hx : p.x.ok) (h1 : Vok p.x.a p.x.b p.x.c 400) : Calls Tryz.prog 98 #[p.val] w fun e w' => e = .returned (.bool (dec (Vok p.x.d p.x.e p.x.f 400))) ∧ Below w.heap.size w w' := by
  have HX := Lib.hid hx
  have H1 := Lib.hid h1
  clear hx h1
  go_enter Tryz.func98, Tryz.ntmps98
  go_wp2_with (first | (go_at_call 172; ((with_reducible refine (sboxOk_yes _ _ _ _ _ _ _ HX.out).mono ?_); rintro e w' ⟨rfl, hbq⟩); have B0 := Jb (b := w.heap.size) (by repeat' (first|with_reducible (first|assumption|apply J0|apply J1|apply J2|apply J3|apply J4|apply J5|apply J6|apply J7|apply J8|apply J9)|(with_reducible show _ ≠ _;first|omega|(simp;done)))) hbq; have C0 := Jc B0; have F0 := Jf B0; (try have P0 := ptLoad _ B0)) | (go_at_call 103; ((with_reducible refine (svecOk_yes p.x.a p.x.b p.x.c _ _ (by omega) (by omega) H1.out).mono ?_); rintro e w' ⟨rfl, hbq⟩); have B0 := Jb (b := w.heap.size) (by repeat' (first|with_reducible (first|assumption|apply J0|apply J1|apply J2|apply J3|apply J4|apply J5|apply J6|apply J7|apply J8|apply J9)|(with_reducible show _ ≠ _;first|omega|(simp;done)))) hbq; have C0 := Jc B0; have F0 := Jf B0; (try have P0 := ptLoad _ B0)) | (go_at_call 103; ((with_reducible refine (svecOk_any p.x.d p.x.e p.x.f _ _ (by omega) (by omega)).mono ?_); rintro e w' ⟨rfl, hbq⟩); have B0 := Jb (b := w.heap.size) (by repeat' (first|with_reducible (first|assumption|apply J0|apply J1|apply J2|apply J3|apply J4|apply J5|apply J6|apply J7|apply J8|apply J9)|(with_reducible show _ ≠ _;first|omega|(simp;done)))) hbq; have C0 := Jc B0; have F0 := Jf B0; (try have P0 := ptLoad _ B0)))
  go_ret; refine ⟨rfl, ?_⟩; (repeat' (first|with_reducible (first|exact lowRefl _|apply lowSet|apply lowDrew|apply lowDrewN|apply lowAlloc)|(with_reducible refine lowCall ?_ (by assumption))|(show (_ : Nat) ≤ _;first|(simp;done)|(simp;omega)|omega)))
theorem l7Leaf_box1 (p : Pt) (w : World) (h : p.k = 2) (hx : p.x.ok) (h1 : ¬ Vok p.x.a p.x.b p.x.c 400) : Calls Tryz.prog 98 #[p.val] w fun e w' => e = .returned (.bool false) ∧ Below w.heap.size w w' := by
  have HX := Lib.hid hx
  have H1 := Lib.hid h1
  clear hx h1
  go_enter Tryz.func98, Tryz.ntmps98
  go_wp2_with (first | (go_at_call 172; ((with_reducible refine (sboxOk_yes _ _ _ _ _ _ _ HX.out).mono ?_); rintro e w' ⟨rfl, hbq⟩); have B0 := Jb (b := w.heap.size) (by repeat' (first|with_reducible (first|assumption|apply J0|apply J1|apply J2|apply J3|apply J4|apply J5|apply J6|apply J7|apply J8|apply J9)|(with_reducible show _ ≠ _;first|omega|(simp;done)))) hbq; have C0 := Jc B0; have F0 := Jf B0; (try have P0 := ptLoad _ B0)) | (go_at_call 103; ((with_reducible refine (svecOk_no p.x.a p.x.b p.x.c _ _ (by omega) (by omega) H1.out).mono ?_); rintro e w' ⟨rfl, hbq⟩); have B0 := Jb (b := w.heap.size) (by repeat' (first|with_reducible (first|assumption|apply J0|apply J1|apply J2|apply J3|apply J4|apply J5|apply J6|apply J7|apply J8|apply J9)|(with_reducible show _ ≠ _;first|omega|(simp;done)))) hbq; have C0 := Jc B0; have F0 := Jf B0; (try have P0 := ptLoad _ B0)))
  go_ret; refine ⟨rfl, ?_⟩; (repeat' (first|with_reducible (first|exact lowRefl _|apply lowSet|apply lowDrew|apply lowDrewN|apply lowAlloc)|(with_reducible refine lowCall ?_ (by assumption))|(show (_ : Nat) ≤ _;first|(simp;done)|(simp;omega)|omega)))
theorem l7Leaf_box0 (p : Pt) (w : World) (h : p.k = 2) (hx : ¬ p.x.ok) : Calls Tryz.prog 98 #[p.val] w fun e w' => e = .returned (.bool false) ∧ Below w.heap.size w w' := by
  have HX := Lib.hid hx
  clear hx
  go_enter Tryz.func98, Tryz.ntmps98
  go_wp2_with ((go_at_call 172; ((with_reducible refine (sboxOk_no _ _ _ _ _ _ _ HX.out).mono ?_); rintro e w' ⟨rfl, hbq⟩); have B0 := Jb (b := w.heap.size) (by repeat' (first|with_reducible (first|assumption|apply J0|apply J1|apply J2|apply J3|apply J4|apply J5|apply J6|apply J7|apply J8|apply J9)|(with_reducible show _ ≠ _;first|omega|(simp;done)))) hbq; have C0 := Jc B0; have F0 := Jf B0; (try have P0 := ptLoad _ B0)))
  go_ret; refine ⟨rfl, ?_⟩; (repeat' (first|with_reducible (first|exact lowRefl _|apply lowSet|apply lowDrew|apply lowDrewN|apply lowAlloc)|(with_reducible refine lowCall ?_ (by assumption))|(show (_ : Nat) ≤ _;first|(simp;done)|(simp;omega)|omega)))
theorem l7Leaf_any (p : Pt) (w : World) (h : 0 ≤ p.k ∧ p.k ≤ 2) : Calls Tryz.prog 98 #[p.val] w fun e w' => e = .returned (.bool (dec (LeafP p))) ∧ Below w.heap.size w w' := by
  obtain h0 | h1 | h2 : p.k = 0 ∨ p.k = 1 ∨ p.k = 2 := by omega
  · have e : LeafP p = p.h.hok := propext ⟨fun k => k.1 h0, fun k => ⟨fun _ => k, fun _ => by omega, fun _ => by omega⟩⟩
    rw [e]; exact l7Leaf_half p w h0
  · have e : LeafP p = p.b.bok := propext ⟨fun k => k.2.1 h1, fun k => ⟨fun _ => by omega, fun _ => k, fun _ => by omega⟩⟩
    rw [e]; exact l7Leaf_ball p w h1
  · by_cases hx : p.x.ok
    · by_cases hl : Vok p.x.a p.x.b p.x.c 400
      · have e : LeafP p = Vok p.x.d p.x.e p.x.f 400 := propext ⟨fun k => (k.2.2 h2).2.2, fun k => ⟨fun _ => by omega, fun _ => by omega, fun _ => ⟨hx, hl, k⟩⟩⟩
        rw [e]; exact l7Leaf_box p w h2 hx hl
      · rw [dec_no (fun k => hl (k.2.2 h2).2.1)]; exact l7Leaf_box1 p w h2 hx hl
    · rw [dec_no (fun k => hx (k.2.2 h2).1)]; exact l7Leaf_box0 p w h2 hx
theorem l7Rest_any (w : World) : Calls Tryz.prog 168 #[] w fun e w' => e = .returned (.agg #[.int .i64 (0), .int .i64 (1), .int .i64 (2), .bool (false), .bool (false), .bool (false), .int .i64 (0), .int .i64 (0), .int .i64 (0)]) ∧ Below w.heap.size w w' := by
  go_enter Tryz.func168, Tryz.ntmps168
  go_wp2
  refine bodyPost_ret (v := .agg #[.int .i64 (0), .int .i64 (1), .int .i64 (2), .bool (false), .bool (false), .bool (false), .int .i64 (0), .int .i64 (0), .int .i64 (0)]) (by simp [results, Tryz.results168, go_sem]) rfl ⟨rfl, ?_⟩; (repeat' (first|with_reducible (first|exact lowRefl _|apply lowSet|apply lowDrew|apply lowDrewN|apply lowAlloc)|(with_reducible refine lowCall ?_ (by assumption))|(show (_ : Nat) ≤ _;first|(simp;done)|(simp;omega)|omega)))
theorem l7At_half (m : Mo) (p : Pt) (w : World) (hm : m.ok) (h : p.k = 0) (hs : p.h.hok) : Calls Tryz.prog 142 #[m.val, p.val] w fun e w' => e = .returned (Pt.val { p with h := hAt m p.h }) ∧ Below w.heap.size w w' := by
  have HM := Lib.hid hm
  have HS := Lib.hid hs
  have HE := Lib.hid (hmEV m p.h hm hs)
  clear hm hs
  go_enter Tryz.func142, Tryz.ntmps142
  go_upto_region 7 with ((go_at_call 208; ((with_reducible refine (l4HalfMoved_any _ _ _ _ _ _ _ _ _ _ _ _ _ _ _ _ _ _ _ HM.out HS.out HE.out).mono ?_); rintro e w' ⟨rfl, hbq⟩; (try (have B0 := Jb (b := w.heap.size) (by repeat' (first|with_reducible (first|assumption|apply J0|apply J1|apply J2|apply J3|apply J4|apply J5|apply J6|apply J7|apply J8|apply J9)|(with_reducible show _ ≠ _;first|omega|(simp;done)))) hbq; have C0 := Jc B0; have F0 := Jf B0)); (try (have B1 := Jb (b := w.heap.size + 1) (by repeat' (first|with_reducible (first|assumption|apply J0|apply J1|apply J2|apply J3|apply J4|apply J5|apply J6|apply J7|apply J8|apply J9)|(with_reducible show _ ≠ _;first|omega|(simp;done)))) hbq; have C1 := Jc B1; have F1 := Jf B1)); (try (have B2 := Jb (b := w.heap.size + 1 + 1) (by repeat' (first|with_reducible (first|assumption|apply J0|apply J1|apply J2|apply J3|apply J4|apply J5|apply J6|apply J7|apply J8|apply J9)|(with_reducible show _ ≠ _;first|omega|(simp;done)))) hbq; have C2 := Jc B2; have F2 := Jf B2)))))
  (refine (fun (k : ∀ wm, Has wm (w.heap.size + 1) (Pt.arr { p with h := hAt m p.h }) 49 → Has wm (w.heap.size + 1 + 1) Pt.zero.arr 49 → Below w.heap.size w wm → Code.wp _ _ _ _ wm) => k _ ?_ ?_ ?_) ?_; (focus ((refine Has.as (by repeat' (first|with_reducible (first|assumption|apply J0|apply J1|apply J2|apply J3|apply J4|apply J5|apply J6|apply J7|apply J8|apply J9)|(with_reducible show _ ≠ _;first|omega|(simp;done)))) ?_; first | (with_reducible rfl) | (simp only [List.setIfInBounds_toArray, List.set_cons_zero, List.set_cons_succ]; first | done | rfl) | rfl | (simp; done)))); (focus ((refine Has.as (by repeat' (first|with_reducible (first|assumption|apply J0|apply J1|apply J2|apply J3|apply J4|apply J5|apply J6|apply J7|apply J8|apply J9)|(with_reducible show _ ≠ _;first|omega|(simp;done)))) ?_; first | (with_reducible rfl) | (simp only [List.setIfInBounds_toArray, List.set_cons_zero, List.set_cons_succ]; first | done | rfl) | rfl | (simp; done)))); (focus (repeat' (first|with_reducible (first|exact lowRefl _|apply lowSet|apply lowDrew|apply lowDrewN|apply lowAlloc)|(with_reducible refine lowCall ?_ (by assumption))|(show (_ : Nat) ≤ _;first|(simp;done)|(simp;omega)|omega)))); clear hbq B0 B1 B2 C0 C1 C2 F0 F1 F2; intro wm B1 B2 hL; have P1 := ptLoad _ B1; have S2 := fun p => ptStore p B2 rfl; go_wp2; refine bodyPost_has (b := w.heap.size + 1 + 1) (T := 49) (B2.setRow _) (fun wE hE => ?hres) rfl ⟨(by rw [h]), lowRow hL (by omega) _⟩; (case hres => have pE := ptLoad _ hE; simp [results, Tryz.results142, go_sem, pE]; done))
theorem l7At_ball (m : Mo) (p : Pt) (w : World) (hm : m.ok) (h : p.k = 1) (hs : p.b.bok) : Calls Tryz.prog 142 #[m.val, p.val] w fun e w' => e = .returned (Pt.val { p with b := bAt m p.b }) ∧ Below w.heap.size w w' := by
  have HM := Lib.hid hm
  have HV : Hid (Vok p.b.f p.b.t p.b.i 1048576) := Lib.hid (vokUp hs.1 (by omega))
  have HT := Lib.hid (show TuE m.a m.b m.c m.k m.l m.n p.b.f p.b.t p.b.i (tu m.a m.k p.b.f p.b.t p.b.i) (tu m.b m.l p.b.f p.b.t p.b.i) (tu m.c m.n p.b.f p.b.t p.b.i) from ⟨rfl, rfl, rfl⟩)
  clear hm hs
  go_enter Tryz.func142, Tryz.ntmps142
  go_upto_region 7 with ((go_at_call 209; ((with_reducible refine (l3MovedV m.a m.b m.c m.k m.l m.n m.p m.q m.r p.b.f p.b.t p.b.i _ _ _ _ HM.out HV.out HT.out).mono ?_); rintro e w' ⟨rfl, hbq⟩; (try (have B0 := Jb (b := w.heap.size) (by repeat' (first|with_reducible (first|assumption|apply J0|apply J1|apply J2|apply J3|apply J4|apply J5|apply J6|apply J7|apply J8|apply J9)|(with_reducible show _ ≠ _;first|omega|(simp;done)))) hbq; have C0 := Jc B0; have F0 := Jf B0)); (try (have B1 := Jb (b := w.heap.size + 1) (by repeat' (first|with_reducible (first|assumption|apply J0|apply J1|apply J2|apply J3|apply J4|apply J5|apply J6|apply J7|apply J8|apply J9)|(with_reducible show _ ≠ _;first|omega|(simp;done)))) hbq; have C1 := Jc B1; have F1 := Jf B1)); (try (have B2 := Jb (b := w.heap.size + 1 + 1) (by repeat' (first|with_reducible (first|assumption|apply J0|apply J1|apply J2|apply J3|apply J4|apply J5|apply J6|apply J7|apply J8|apply J9)|(with_reducible show _ ≠ _;first|omega|(simp;done)))) hbq; have C2 := Jc B2; have F2 := Jf B2)))))
  (refine (fun (k : ∀ wm, Has wm (w.heap.size + 1) (Pt.arr { p with b := bAt m p.b }) 49 → Has wm (w.heap.size + 1 + 1) Pt.zero.arr 49 → Below w.heap.size w wm → Code.wp _ _ _ _ wm) => k _ ?_ ?_ ?_) ?_; (focus ((refine Has.as (by repeat' (first|with_reducible (first|assumption|apply J0|apply J1|apply J2|apply J3|apply J4|apply J5|apply J6|apply J7|apply J8|apply J9)|(with_reducible show _ ≠ _;first|omega|(simp;done)))) ?_; first | (with_reducible rfl) | (simp only [List.setIfInBounds_toArray, List.set_cons_zero, List.set_cons_succ]; first | done | rfl) | rfl | (simp; done)))); (focus ((refine Has.as (by repeat' (first|with_reducible (first|assumption|apply J0|apply J1|apply J2|apply J3|apply J4|apply J5|apply J6|apply J7|apply J8|apply J9)|(with_reducible show _ ≠ _;first|omega|(simp;done)))) ?_; first | (with_reducible rfl) | (simp only [List.setIfInBounds_toArray, List.set_cons_zero, List.set_cons_succ]; first | done | rfl) | rfl | (simp; done)))); (focus (repeat' (first|with_reducible (first|exact lowRefl _|apply lowSet|apply lowDrew|apply lowDrewN|apply lowAlloc)|(with_reducible refine lowCall ?_ (by assumption))|(show (_ : Nat) ≤ _;first|(simp;done)|(simp;omega)|omega)))); clear hbq B0 B1 B2 C0 C1 C2 F0 F1 F2; intro wm B1 B2 hL; have P1 := ptLoad _ B1; have S2 := fun p => ptStore p B2 rfl; go_wp2; refine bodyPost_has (b := w.heap.size + 1 + 1) (T := 49) (B2.setRow _) (fun wE hE => ?hres) rfl ⟨(by rw [h]), lowRow hL (by omega) _⟩; (case hres => have pE := ptLoad _ hE; simp [results, Tryz.results142, go_sem, pE]; done))
theorem l7At_box (m : Mo) (p : Pt) (w : World) (hm : m.ok) (h : p.k = 2) (hs : p.x.ok) : Calls Tryz.prog 142 #[m.val, p.val] w fun e w' => e = .returned (Pt.val { p with x := xAt m p.x }) ∧ Below w.heap.size w w' := by
  have HC : Hid (∀ w, Calls Tryz.prog 210 #[m.val, p.x.val] w fun e w' => e = .returned ((xAt m p.x).val) ∧ Below w.heap.size w w') := Lib.hid fun w =>
    l6MovedV m.a m.b m.c m.k m.l m.n m.p m.q m.r p.x.a p.x.b p.x.c p.x.d p.x.e p.x.f _ _ _ _ _ _ _ _ _ _ _ _ w hm hs ⟨⟨rfl, rfl, rfl⟩, ⟨rfl, rfl, rfl⟩, ⟨rfl, rfl, rfl⟩, ⟨rfl, rfl, rfl⟩⟩
  clear hm hs
  go_enter Tryz.func142, Tryz.ntmps142
  go_upto_region 7 with ((go_at_call 210; ((with_reducible refine (HC.out _).mono ?_); rintro e w' ⟨rfl, hbq⟩; (try (have B0 := Jb (b := w.heap.size) (by repeat' (first|with_reducible (first|assumption|apply J0|apply J1|apply J2|apply J3|apply J4|apply J5|apply J6|apply J7|apply J8|apply J9)|(with_reducible show _ ≠ _;first|omega|(simp;done)))) hbq; have C0 := Jc B0; have F0 := Jf B0)); (try (have B1 := Jb (b := w.heap.size + 1) (by repeat' (first|with_reducible (first|assumption|apply J0|apply J1|apply J2|apply J3|apply J4|apply J5|apply J6|apply J7|apply J8|apply J9)|(with_reducible show _ ≠ _;first|omega|(simp;done)))) hbq; have C1 := Jc B1; have F1 := Jf B1)); (try (have B2 := Jb (b := w.heap.size + 1 + 1) (by repeat' (first|with_reducible (first|assumption|apply J0|apply J1|apply J2|apply J3|apply J4|apply J5|apply J6|apply J7|apply J8|apply J9)|(with_reducible show _ ≠ _;first|omega|(simp;done)))) hbq; have C2 := Jc B2; have F2 := Jf B2)))))
  (refine (fun (k : ∀ wm, Has wm (w.heap.size + 1) (Pt.arr { p with x := xAt m p.x }) 49 → Has wm (w.heap.size + 1 + 1) Pt.zero.arr 49 → Below w.heap.size w wm → Code.wp _ _ _ _ wm) => k _ ?_ ?_ ?_) ?_; (focus ((refine Has.as (by repeat' (first|with_reducible (first|assumption|apply J0|apply J1|apply J2|apply J3|apply J4|apply J5|apply J6|apply J7|apply J8|apply J9)|(with_reducible show _ ≠ _;first|omega|(simp;done)))) ?_; first | (with_reducible rfl) | (simp only [List.setIfInBounds_toArray, List.set_cons_zero, List.set_cons_succ]; first | done | rfl) | rfl | (simp; done)))); (focus ((refine Has.as (by repeat' (first|with_reducible (first|assumption|apply J0|apply J1|apply J2|apply J3|apply J4|apply J5|apply J6|apply J7|apply J8|apply J9)|(with_reducible show _ ≠ _;first|omega|(simp;done)))) ?_; first | (with_reducible rfl) | (simp only [List.setIfInBounds_toArray, List.set_cons_zero, List.set_cons_succ]; first | done | rfl) | rfl | (simp; done)))); (focus (repeat' (first|with_reducible (first|exact lowRefl _|apply lowSet|apply lowDrew|apply lowDrewN|apply lowAlloc)|(with_reducible refine lowCall ?_ (by assumption))|(show (_ : Nat) ≤ _;first|(simp;done)|(simp;omega)|omega)))); clear hbq B0 B1 B2 C0 C1 C2 F0 F1 F2; intro wm B1 B2 hL; have P1 := ptLoad _ B1; have S2 := fun p => ptStore p B2 rfl; go_wp2; refine bodyPost_has (b := w.heap.size + 1 + 1) (T := 49) (B2.setRow _) (fun wE hE => ?hres) rfl ⟨(by rw [h]), lowRow hL (by omega) _⟩; (case hres => have pE := ptLoad _ hE; simp [results, Tryz.results142, go_sem, pE]; done))
theorem l7At_any (m : Mo) (p : Pt) (w : World) (hm : m.ok) (h : 0 ≤ p.k ∧ p.k ≤ 2) (hl : LeafP p) : Calls Tryz.prog 142 #[m.val, p.val] w fun e w' => e = .returned (Pt.val (leafAt m p)) ∧ Below w.heap.size w w' := by
  unfold leafAt
  obtain h0 | h1 | h2 : p.k = 0 ∨ p.k = 1 ∨ p.k = 2 := by omega
  · rw [if_pos h0]; exact l7At_half m p w hm h0 (hl.1 h0)
  · rw [if_neg (by omega), if_pos h1]; exact l7At_ball m p w hm h1 (hl.2.1 h1)
  · rw [if_neg (by omega), if_neg (by omega), if_pos h2]; exact l7At_box m p w hm h2 (hl.2.2 h2).1
end Go.Proofs.YtegibpepdndocabGreat
