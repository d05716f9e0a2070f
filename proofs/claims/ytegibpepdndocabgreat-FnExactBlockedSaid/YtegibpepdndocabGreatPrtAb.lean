import Derived.Test.YtegibpepdndocabGreatPrtEb
namespace Go.Proofs.YtegibpepdndocabGreat
open Has renaming new → J0, new1 → J1, new2 → J2, new3 → J3, new4 → J4, drew → J5, drewN → J6, alloc → J7, same → J8, other → J9, cell → Jc, frozen → Jf, below → Jb
open Go.ChangeShapes Go.WideShapes Go.ChangeAt Go.RowKit
set_option linter.unusedSimpArgs false
set_option maxHeartbeats 1000000

attribute [local go_sem] VGo_value VGo_skip VGo_enter
attribute [local go_sem] Pt.arr0 Pt.arr1 Pt.arr2 Pt.arr3 Pt.arr4 Pt.arr5 Pt.arr6 Pt.arr7 Pt.arr8 Pt.arr9 Pt.arr10 Pt.arr11 Pt.arr12 Pt.arr13 Pt.arr14 Pt.arr15 Pt.arr16 Pt.arr17 Pt.arr18 Pt.arr19 Pt.arr20 Pt.arr21 Pt.arr22 Pt.arr23 Pt.arr24 Pt.arr25 Pt.arr26
attribute [-go_sem] loadVar storeVar Instr.build run_eql_struct run_neq_struct
attribute [local go_sem] lvA svA lvVec lvHalf lvBall lvBox lvMot bHalf bBall bBox bTwo bMov eqlPart
attribute [local go_sem high] ptLoad ptLoadNew ptStoreNew
theorem hasTwo_yes (p : Pt) (w : World) (h1 : 3 ≤ p.k) (h2 : p.k ≤ 5) : Calls Tryz.prog 183 #[p.val] w fun e w' => e = .returned (.bool true) ∧ Below w.heap.size w w' := by
  go_enter Tryz.func183, Tryz.ntmps183
  go_wp2_with ((go_at_call 79; ((with_reducible refine (within_yes _ _ _ _ (by omega) (by omega)).mono ?_); rintro e w' ⟨rfl, rfl⟩)))
  go_ret; refine ⟨rfl, ?_⟩; (repeat' (first|with_reducible (first|exact lowRefl _|apply lowSet|apply lowDrew|apply lowDrewN|apply lowAlloc)|(with_reducible refine lowCall ?_ (by assumption))|(show (_ : Nat) ≤ _;first|(simp;done)|(simp;omega)|omega)))
theorem hasTwo_no (p : Pt) (w : World) (h : p.k < 3 ∨ 5 < p.k) : Calls Tryz.prog 183 #[p.val] w fun e w' => e = .returned (.bool false) ∧ Below w.heap.size w w' := by
  go_enter Tryz.func183, Tryz.ntmps183
  go_wp2_with ((go_at_call 79; ((with_reducible refine (within_no _ _ _ _ h).mono ?_); rintro e w' ⟨rfl, rfl⟩)))
  go_ret; refine ⟨rfl, ?_⟩; (repeat' (first|with_reducible (first|exact lowRefl _|apply lowSet|apply lowDrew|apply lowDrewN|apply lowAlloc)|(with_reducible refine lowCall ?_ (by assumption))|(show (_ : Nat) ≤ _;first|(simp;done)|(simp;omega)|omega)))
theorem madeOf_two (p : Pt) (w : World) (h1 : 3 ≤ p.k) (h2 : p.k ≤ 5) : Calls Tryz.prog 163 #[p.val] w fun e w' => ∃ g, e = .returned (.slice (some ⟨g, 0, none⟩) 2 2) ∧ Has w' g #[.int .i64 p.A, .int .i64 p.B] 3 ∧ w.heap.size ≤ g ∧ Below w.heap.size w w' := by
  go_enter Tryz.func163, Tryz.ntmps163
  go_wp2_with ((go_at_call 183; ((with_reducible refine (hasTwo_yes p _ h1 h2).mono ?_); rintro e w' ⟨rfl, hbq⟩; (try (have B0 := Jb (b := w.heap.size) (by repeat' (first|with_reducible (first|assumption|apply J0|apply J1|apply J2|apply J3|apply J4|apply J5|apply J6|apply J7|apply J8|apply J9)|(with_reducible show _ ≠ _;first|omega|(simp;done)))) hbq; have C0 := Jc B0; have F0 := Jf B0)); (try (have B1 := Jb (b := w.heap.size + 1) (by repeat' (first|with_reducible (first|assumption|apply J0|apply J1|apply J2|apply J3|apply J4|apply J5|apply J6|apply J7|apply J8|apply J9)|(with_reducible show _ ≠ _;first|omega|(simp;done)))) hbq; have C1 := Jc B1; have F1 := Jf B1)); (try (have B2 := Jb (b := w.heap.size + 1 + 1) (by repeat' (first|with_reducible (first|assumption|apply J0|apply J1|apply J2|apply J3|apply J4|apply J5|apply J6|apply J7|apply J8|apply J9)|(with_reducible show _ ≠ _;first|omega|(simp;done)))) hbq; have C2 := Jc B2; have F2 := Jf B2)))))
  go_ret
  have hL : Below w.heap.size w w' := by repeat' (first|with_reducible (first|exact lowRefl _|apply lowSet|apply lowDrew|apply lowDrewN|apply lowAlloc)|(with_reducible refine lowCall ?_ (by assumption))|(show (_ : Nat) ≤ _;first|(simp;done)|(simp;omega)|omega))
  exact ⟨_, rfl, Has.new _ _ _, hL.size, lowAlloc hL _⟩
theorem madeOf_one (p : Pt) (w : World) (h1 : p.k = 6) : Calls Tryz.prog 163 #[p.val] w fun e w' => ∃ g, e = .returned (.slice (some ⟨g, 0, none⟩) 1 1) ∧ Has w' g #[.int .i64 p.A] 3 ∧ w.heap.size ≤ g ∧ Below w.heap.size w w' := by
  have H := Lib.hid h1
  clear h1
  go_enter Tryz.func163, Tryz.ntmps163
  go_upto_region 3 with ((go_at_call 183; ((with_reducible refine (hasTwo_no p _ (by have := H.out; omega)).mono ?_); rintro e w' ⟨rfl, hbq⟩); have B0 := Jb (b := w.heap.size) (by repeat' (first|with_reducible (first|assumption|apply J0|apply J1|apply J2|apply J3|apply J4|apply J5|apply J6|apply J7|apply J8|apply J9)|(with_reducible show _ ≠ _;first|omega|(simp;done)))) hbq; have C0 := Jc B0; have F0 := Jf B0; (try have P0 := ptLoad _ B0)))
  have hL : Below w.heap.size w w' := by repeat' (first|with_reducible (first|exact lowRefl _|apply lowSet|apply lowDrew|apply lowDrewN|apply lowAlloc)|(with_reducible refine lowCall ?_ (by assumption))|(show (_ : Nat) ≤ _;first|(simp;done)|(simp;omega)|omega))
  clear hbq
  go_upto_region 4 with (go_at_call 120; (with_reducible refine (isMade_yes p _ (by have := H.out; omega) (by have := H.out; omega)).mono ?_); rintro e w2 ⟨rfl, hbq⟩)
  have B2 := B0.below hbq
  have hL2 := lowCall hL hbq
  clear hL hbq B0 C0 F0 P0
  have C0 := Jc B2
  go_wp2
  go_ret
  exact ⟨_, rfl, Has.new _ _ _, hL2.size, lowAlloc hL2 _⟩
theorem madeOf_none (p : Pt) (w : World) (h : p.k < 3 ∨ 6 < p.k) : Calls Tryz.prog 163 #[p.val] w fun e w' => e = .returned (.slice none 0 0) ∧ Below w.heap.size w w' := by
  have H := Lib.hid h
  clear h
  go_enter Tryz.func163, Tryz.ntmps163
  go_wp2_with (first | (go_at_call 183; ((with_reducible refine (hasTwo_no p _ (by have := H.out; omega)).mono ?_); rintro e w' ⟨rfl, hbq⟩); have B0 := Jb (b := w.heap.size) (by repeat' (first|with_reducible (first|assumption|apply J0|apply J1|apply J2|apply J3|apply J4|apply J5|apply J6|apply J7|apply J8|apply J9)|(with_reducible show _ ≠ _;first|omega|(simp;done)))) hbq; have C0 := Jc B0; have F0 := Jf B0; (try have P0 := ptLoad _ B0)) | (go_at_call 120; ((with_reducible refine (isMade_no p _ H.out).mono ?_); rintro e w' ⟨rfl, hbq⟩); have B0 := Jb (b := w.heap.size) (by repeat' (first|with_reducible (first|assumption|apply J0|apply J1|apply J2|apply J3|apply J4|apply J5|apply J6|apply J7|apply J8|apply J9)|(with_reducible show _ ≠ _;first|omega|(simp;done)))) hbq; have C0 := Jc B0; have F0 := Jf B0; (try have P0 := ptLoad _ B0)))
  go_ret; refine ⟨rfl, ?_⟩; (repeat' (first|with_reducible (first|exact lowRefl _|apply lowSet|apply lowDrew|apply lowDrewN|apply lowAlloc)|(with_reducible refine lowCall ?_ (by assumption))|(show (_ : Nat) ≤ _;first|(simp;done)|(simp;omega)|omega)))
/- yes or no -/
noncomputable def dec (p : Prop) : Bool := @decide p (Classical.propDecidable p)
theorem dec_yes {p : Prop} (h : p) : dec p = true := by exact @decide_eq_true p (Classical.propDecidable p) h
theorem dec_no {p : Prop} (h : ¬ p) : dec p = false := by exact @decide_eq_false p (Classical.propDecidable p) h
theorem dec_iff {p : Prop} : dec p = true ↔ p := by exact @decide_eq_true_iff p (Classical.propDecidable p)
theorem ihalfOk_any (a b c d : Int) (w : World) : Calls Tryz.prog 226 #[.agg #[.int .i64 (a), .int .i64 (b), .int .i64 (c), .int .i64 (d)]] w fun e w' => e = .returned (.bool (dec (Hok a b c d))) ∧ Below w.heap.size w w' := by
  by_cases h : Hok a b c d
  · rw [dec_yes h]; exact ihalfOk_yes _ _ _ _ w h
  · rw [dec_no h]; exact ihalfOk_no _ _ _ _ w h
theorem iballOk_any (a b c d : Int) (w : World) : Calls Tryz.prog 227 #[.agg #[.int .i64 (a), .int .i64 (b), .int .i64 (c), .int .i64 (d)]] w fun e w' => e = .returned (.bool (dec (Bok a b c d))) ∧ Below w.heap.size w w' := by
  by_cases h : Bok a b c d
  · rw [dec_yes h]; exact iballOk_yes _ _ _ _ w h
  · rw [dec_no h]; exact iballOk_no _ _ _ _ w h
theorem ibothOk_any (a b c x y z m : Int) (w : World) (h0 : 0 ≤ m) (h1 : m ≤ 4611686018427387904) : Calls Tryz.prog 126 #[.agg #[.int .i64 (a), .int .i64 (b), .int .i64 (c)], .agg #[.int .i64 (x), .int .i64 (y), .int .i64 (z)], .int .i64 m] w fun e w' => e = .returned (.bool (dec (Vok a b c m ∧ Vok x y z m))) ∧ Below w.heap.size w w' := by
  by_cases h : Vok a b c m ∧ Vok x y z m
  · rw [dec_yes h]; exact ibothOk_yes _ _ _ _ _ _ _ w h0 h1 h.1 h.2
  · rw [dec_no h]; exact ibothOk_no _ _ _ _ _ _ _ w h0 h1 h
/- a leaf within the limits of leaves -/
abbrev Qd.hok (s : Qd) : Prop := Hok s.f s.t s.i s.o
abbrev Qd.bok (s : Qd) : Prop := Bok s.f s.t s.i s.o
abbrev Sx.ok (s : Sx) : Prop := Xok s.a s.b s.c s.d s.e s.f
abbrev Sx.near (s : Sx) : Prop := Vok s.a s.b s.c 400 ∧ Vok s.d s.e s.f 400
def LeafP (p : Pt) : Prop := (p.k = 0 → p.h.hok) ∧ (p.k = 1 → p.b.bok) ∧ (p.k = 2 → p.x.ok ∧ p.x.near)
theorem leafOk_stuff (p : Pt) (w : World) (h : p.S < 0 ∨ 7 < p.S) : Calls Tryz.prog 165 #[p.val] w fun e w' => e = .returned (.bool false) ∧ Below w.heap.size w w' := by
  go_enter Tryz.func165, Tryz.ntmps165
  go_wp2_with ((go_at_call 79; ((with_reducible refine (within_no _ _ _ _ h).mono ?_); rintro e w' ⟨rfl, rfl⟩)))
  go_ret; refine ⟨rfl, ?_⟩; (repeat' (first|with_reducible (first|exact lowRefl _|apply lowSet|apply lowDrew|apply lowDrewN|apply lowAlloc)|(with_reducible refine lowCall ?_ (by assumption))|(show (_ : Nat) ≤ _;first|(simp;done)|(simp;omega)|omega)))
theorem leafOk_half (p : Pt) (w : World) (h : p.k = 0) (hs : 0 ≤ p.S ∧ p.S ≤ 7) : Calls Tryz.prog 165 #[p.val] w fun e w' => e = .returned (.bool (dec p.h.hok)) ∧ Below w.heap.size w w' := by
  go_enter Tryz.func165, Tryz.ntmps165
  go_wp2_with (first | (go_at_call 79; ((with_reducible refine (within_yes _ _ _ _ (by omega) (by omega)).mono ?_); rintro e w' ⟨rfl, rfl⟩)) | (go_at_call 226; ((with_reducible refine (ihalfOk_any _ _ _ _ _).mono ?_); rintro e w' ⟨rfl, hbq⟩); have B0 := Jb (b := w.heap.size) (by repeat' (first|with_reducible (first|assumption|apply J0|apply J1|apply J2|apply J3|apply J4|apply J5|apply J6|apply J7|apply J8|apply J9)|(with_reducible show _ ≠ _;first|omega|(simp;done)))) hbq; have C0 := Jc B0; have F0 := Jf B0; (try have P0 := ptLoad _ B0)))
  go_ret; refine ⟨rfl, ?_⟩; (repeat' (first|with_reducible (first|exact lowRefl _|apply lowSet|apply lowDrew|apply lowDrewN|apply lowAlloc)|(with_reducible refine lowCall ?_ (by assumption))|(show (_ : Nat) ≤ _;first|(simp;done)|(simp;omega)|omega)))
theorem leafOk_ball (p : Pt) (w : World) (h : p.k = 1) (hs : 0 ≤ p.S ∧ p.S ≤ 7) : Calls Tryz.prog 165 #[p.val] w fun e w' => e = .returned (.bool (dec p.b.bok)) ∧ Below w.heap.size w w' := by
  go_enter Tryz.func165, Tryz.ntmps165
  go_wp2_with (first | (go_at_call 79; ((with_reducible refine (within_yes _ _ _ _ (by omega) (by omega)).mono ?_); rintro e w' ⟨rfl, rfl⟩)) | (go_at_call 227; ((with_reducible refine (iballOk_any _ _ _ _ _).mono ?_); rintro e w' ⟨rfl, hbq⟩); have B0 := Jb (b := w.heap.size) (by repeat' (first|with_reducible (first|assumption|apply J0|apply J1|apply J2|apply J3|apply J4|apply J5|apply J6|apply J7|apply J8|apply J9)|(with_reducible show _ ≠ _;first|omega|(simp;done)))) hbq; have C0 := Jc B0; have F0 := Jf B0; (try have P0 := ptLoad _ B0)))
  go_ret; refine ⟨rfl, ?_⟩; (repeat' (first|with_reducible (first|exact lowRefl _|apply lowSet|apply lowDrew|apply lowDrewN|apply lowAlloc)|(with_reducible refine lowCall ?_ (by assumption))|(show (_ : Nat) ≤ _;first|(simp;done)|(simp;omega)|omega)))
theorem leafOk_box (p : Pt) (w : World) (h : p.k = 2) (hs : 0 ≤ p.S ∧ p.S ≤ 7) (hx : p.x.ok) : Calls Tryz.prog 165 #[p.val] w fun e w' => e = .returned (.bool (dec p.x.near)) ∧ Below w.heap.size w w' := by
  have HX := Lib.hid hx
  clear hx
  go_enter Tryz.func165, Tryz.ntmps165
  go_wp2_with (first | (go_at_call 79; ((with_reducible refine (within_yes _ _ _ _ (by omega) (by omega)).mono ?_); rintro e w' ⟨rfl, rfl⟩)) | (go_at_call 100; ((with_reducible refine (iboxOk_yes _ _ _ _ _ _ _ HX.out).mono ?_); rintro e w' ⟨rfl, hbq⟩); have B0 := Jb (b := w.heap.size) (by repeat' (first|with_reducible (first|assumption|apply J0|apply J1|apply J2|apply J3|apply J4|apply J5|apply J6|apply J7|apply J8|apply J9)|(with_reducible show _ ≠ _;first|omega|(simp;done)))) hbq; have C0 := Jc B0; have F0 := Jf B0; (try have P0 := ptLoad _ B0)) | (go_at_call 126; ((with_reducible refine (ibothOk_any _ _ _ _ _ _ _ _ (by omega) (by omega)).mono ?_); rintro e w' ⟨rfl, hbq⟩); have B0 := Jb (b := w.heap.size) (by repeat' (first|with_reducible (first|assumption|apply J0|apply J1|apply J2|apply J3|apply J4|apply J5|apply J6|apply J7|apply J8|apply J9)|(with_reducible show _ ≠ _;first|omega|(simp;done)))) hbq; have C0 := Jc B0; have F0 := Jf B0; (try have P0 := ptLoad _ B0)))
  go_ret; refine ⟨rfl, ?_⟩; (repeat' (first|with_reducible (first|exact lowRefl _|apply lowSet|apply lowDrew|apply lowDrewN|apply lowAlloc)|(with_reducible refine lowCall ?_ (by assumption))|(show (_ : Nat) ≤ _;first|(simp;done)|(simp;omega)|omega)))
theorem leafOk_box0 (p : Pt) (w : World) (h : p.k = 2) (hs : 0 ≤ p.S ∧ p.S ≤ 7) (hx : ¬ p.x.ok) : Calls Tryz.prog 165 #[p.val] w fun e w' => e = .returned (.bool false) ∧ Below w.heap.size w w' := by
  have HX := Lib.hid hx
  clear hx
  go_enter Tryz.func165, Tryz.ntmps165
  go_wp2_with (first | (go_at_call 79; ((with_reducible refine (within_yes _ _ _ _ (by omega) (by omega)).mono ?_); rintro e w' ⟨rfl, rfl⟩)) | (go_at_call 100; ((with_reducible refine (iboxOk_no _ _ _ _ _ _ _ HX.out).mono ?_); rintro e w' ⟨rfl, hbq⟩); have B0 := Jb (b := w.heap.size) (by repeat' (first|with_reducible (first|assumption|apply J0|apply J1|apply J2|apply J3|apply J4|apply J5|apply J6|apply J7|apply J8|apply J9)|(with_reducible show _ ≠ _;first|omega|(simp;done)))) hbq; have C0 := Jc B0; have F0 := Jf B0; (try have P0 := ptLoad _ B0)))
  go_ret; refine ⟨rfl, ?_⟩; (repeat' (first|with_reducible (first|exact lowRefl _|apply lowSet|apply lowDrew|apply lowDrewN|apply lowAlloc)|(with_reducible refine lowCall ?_ (by assumption))|(show (_ : Nat) ≤ _;first|(simp;done)|(simp;omega)|omega)))
theorem leafOk_any (p : Pt) (w : World) (h : 0 ≤ p.k ∧ p.k ≤ 2) : Calls Tryz.prog 165 #[p.val] w fun e w' => e = .returned (.bool (dec ((0 ≤ p.S ∧ p.S ≤ 7) ∧ LeafP p))) ∧ Below w.heap.size w w' := by
  by_cases hs : 0 ≤ p.S ∧ p.S ≤ 7
  · obtain h0 | h1 | h2 : p.k = 0 ∨ p.k = 1 ∨ p.k = 2 := by omega
    · have e : ((0 ≤ p.S ∧ p.S ≤ 7) ∧ LeafP p) = p.h.hok := propext ⟨fun k => k.2.1 h0, fun k => ⟨hs, fun _ => k, fun _ => by omega, fun _ => by omega⟩⟩
      rw [e]; exact leafOk_half p w h0 hs
    · have e : ((0 ≤ p.S ∧ p.S ≤ 7) ∧ LeafP p) = p.b.bok := propext ⟨fun k => k.2.2.1 h1, fun k => ⟨hs, fun _ => by omega, fun _ => k, fun _ => by omega⟩⟩
      rw [e]; exact leafOk_ball p w h1 hs
    · by_cases hx : p.x.ok
      · have e : ((0 ≤ p.S ∧ p.S ≤ 7) ∧ LeafP p) = p.x.near := propext ⟨fun k => (k.2.2.2 h2).2, fun k => ⟨hs, fun _ => by omega, fun _ => by omega, fun _ => ⟨hx, k⟩⟩⟩
        rw [e]; exact leafOk_box p w h2 hs hx
      · rw [dec_no (fun k => hx (k.2.2.2 h2).1)]; exact leafOk_box0 p w h2 hs hx
  · rw [dec_no (fun k => hs k.1)]; exact leafOk_stuff p w (by omega)
/- a part that has nothing but what its kind has -/
def Pt.bare (p : Pt) : Pt :=
  if p.k = 0 then ⟨0, p.h, ⟨0, 0, 0, 0⟩, ⟨0, 0, 0, 0, 0, 0⟩, ⟨0, 0, 0, false, false, false, 0, 0, 0⟩, 0, 0, p.S⟩
  else if p.k = 1 then ⟨1, ⟨0, 0, 0, 0⟩, p.b, ⟨0, 0, 0, 0, 0, 0⟩, ⟨0, 0, 0, false, false, false, 0, 0, 0⟩, 0, 0, p.S⟩
  else if p.k = 2 then ⟨2, ⟨0, 0, 0, 0⟩, ⟨0, 0, 0, 0⟩, p.x, ⟨0, 0, 0, false, false, false, 0, 0, 0⟩, 0, 0, p.S⟩
  else if p.k = 6 then ⟨6, ⟨0, 0, 0, 0⟩, ⟨0, 0, 0, 0⟩, ⟨0, 0, 0, 0, 0, 0⟩, p.m, p.A, 0, 0⟩
  else ⟨p.k, ⟨0, 0, 0, 0⟩, ⟨0, 0, 0, 0⟩, ⟨0, 0, 0, 0, 0, 0⟩, ⟨0, 0, 0, false, false, false, 0, 0, 0⟩, p.A, p.B, 0⟩
/- a part that is one of its kind, whatever it is made of and moved by -/
def PtP (p : Pt) : Prop := (0 ≤ p.k ∧ p.k ≤ 6) ∧ (p.k ≤ 2 → (0 ≤ p.S ∧ p.S ≤ 7) ∧ LeafP p) ∧ peq p p.bare = true
theorem partOk_out (p : Pt) (w : World) (h : p.k < 0 ∨ 6 < p.k) : Calls Tryz.prog 220 #[p.val] w fun e w' => e = .returned (.bool false) ∧ Below w.heap.size w w' := by
  go_enter Tryz.func220, Tryz.ntmps220
  go_wp2
  all_goals go_ret; refine ⟨rfl, ?_⟩; (repeat' (first|with_reducible (first|exact lowRefl _|apply lowSet|apply lowDrew|apply lowDrewN|apply lowAlloc)|(with_reducible refine lowCall ?_ (by assumption))|(show (_ : Nat) ≤ _;first|(simp;done)|(simp;omega)|omega)))
theorem partOk_leaf (p : Pt) (w : World) (v : Bool) (h : 0 ≤ p.k ∧ p.k ≤ 2) (hl : (0 ≤ p.S ∧ p.S ≤ 7) ∧ LeafP p) (hb : peq p p.bare = v) : Calls Tryz.prog 220 #[p.val] w fun e w' => e = .returned (.bool v) ∧ Below w.heap.size w w' := by
  have HL := Lib.hid (dec_yes hl)
  have hc : ∀ w, Calls Tryz.prog 165 #[p.val] w fun e w' => e = .returned (.bool true) ∧ Below w.heap.size w w' := fun w => by
    have := leafOk_any p w h; rwa [HL.out] at this
  have HC := Lib.hid hc
  clear hl hc
  unfold Pt.bare at hb
  obtain h0 | h0 | h0 : p.k = 0 ∨ p.k = 1 ∨ p.k = 2 := by omega
  all_goals
    simp only [h0, if_true, if_false, Int.reduceEq] at hb
    clear h
    go_enter Tryz.func220, Tryz.ntmps220
    go_wp2_with ((go_at_call 165; ((with_reducible refine (HC.out _).mono ?_); rintro e w' ⟨rfl, hbq⟩); have B0 := Jb (b := w.heap.size) (by repeat' (first|with_reducible (first|assumption|apply J0|apply J1|apply J2|apply J3|apply J4|apply J5|apply J6|apply J7|apply J8|apply J9)|(with_reducible show _ ≠ _;first|omega|(simp;done)))) hbq; have C0 := Jc B0; have F0 := Jf B0; (try have P0 := ptLoad _ B0)))
    go_ret; refine ⟨rfl, ?_⟩; (repeat' (first|with_reducible (first|exact lowRefl _|apply lowSet|apply lowDrew|apply lowDrewN|apply lowAlloc)|(with_reducible refine lowCall ?_ (by assumption))|(show (_ : Nat) ≤ _;first|(simp;done)|(simp;omega)|omega)))
theorem partOk_leaf0 (p : Pt) (w : World) (h : 0 ≤ p.k ∧ p.k ≤ 2) (hl : ¬ ((0 ≤ p.S ∧ p.S ≤ 7) ∧ LeafP p)) : Calls Tryz.prog 220 #[p.val] w fun e w' => e = .returned (.bool false) ∧ Below w.heap.size w w' := by
  have hc : ∀ w, Calls Tryz.prog 165 #[p.val] w fun e w' => e = .returned (.bool false) ∧ Below w.heap.size w w' := fun w => by
    have := leafOk_any p w h; rwa [dec_no hl] at this
  have HC := Lib.hid hc
  clear hl hc
  obtain h0 | h0 | h0 : p.k = 0 ∨ p.k = 1 ∨ p.k = 2 := by omega
  all_goals
    clear h
    go_enter Tryz.func220, Tryz.ntmps220
    go_wp2_with ((go_at_call 165; ((with_reducible refine (HC.out _).mono ?_); rintro e w' ⟨rfl, hbq⟩); have B0 := Jb (b := w.heap.size) (by repeat' (first|with_reducible (first|assumption|apply J0|apply J1|apply J2|apply J3|apply J4|apply J5|apply J6|apply J7|apply J8|apply J9)|(with_reducible show _ ≠ _;first|omega|(simp;done)))) hbq; have C0 := Jc B0; have F0 := Jf B0; (try have P0 := ptLoad _ B0)))
    go_ret; refine ⟨rfl, ?_⟩; (repeat' (first|with_reducible (first|exact lowRefl _|apply lowSet|apply lowDrew|apply lowDrewN|apply lowAlloc)|(with_reducible refine lowCall ?_ (by assumption))|(show (_ : Nat) ≤ _;first|(simp;done)|(simp;omega)|omega)))
theorem partOk_made (p : Pt) (w : World) (v : Bool) (h : 3 ≤ p.k ∧ p.k ≤ 6) (hb : peq p p.bare = v) : Calls Tryz.prog 220 #[p.val] w fun e w' => e = .returned (.bool v) ∧ Below w.heap.size w w' := by
  unfold Pt.bare at hb
  obtain h0 | h0 | h0 | h0 : p.k = 3 ∨ p.k = 4 ∨ p.k = 5 ∨ p.k = 6 := by omega
  all_goals
    simp only [h0, if_true, if_false, Int.reduceEq] at hb
    clear h
    go_enter Tryz.func220, Tryz.ntmps220
    go_wp2
    go_ret; refine ⟨rfl, ?_⟩; (repeat' (first|with_reducible (first|exact lowRefl _|apply lowSet|apply lowDrew|apply lowDrewN|apply lowAlloc)|(with_reducible refine lowCall ?_ (by assumption))|(show (_ : Nat) ≤ _;first|(simp;done)|(simp;omega)|omega)))
theorem partOk_any (p : Pt) (w : World) : Calls Tryz.prog 220 #[p.val] w fun e w' => e = .returned (.bool (dec (PtP p))) ∧ Below w.heap.size w w' := by
  by_cases hk : 0 ≤ p.k ∧ p.k ≤ 6
  · by_cases h2 : p.k ≤ 2
    · by_cases hl : (0 ≤ p.S ∧ p.S ≤ 7) ∧ LeafP p
      · have e : dec (PtP p) = peq p p.bare := by
          cases hb : peq p p.bare
          · exact dec_no fun k => by have := k.2.2; rw [hb] at this; cases this
          · exact dec_yes ⟨hk, fun _ => hl, hb⟩
        rw [e]; exact partOk_leaf p w _ ⟨hk.1, h2⟩ hl rfl
      · rw [dec_no (fun k => hl (k.2.1 h2))]; exact partOk_leaf0 p w ⟨hk.1, h2⟩ hl
    · have e : dec (PtP p) = peq p p.bare := by
        cases hb : peq p p.bare
        · exact dec_no fun k => by have := k.2.2; rw [hb] at this; cases this
        · exact dec_yes ⟨hk, fun k => by omega, hb⟩
      rw [e]; exact partOk_made p w _ (by omega) rfl
  · rw [dec_no (fun k => hk k.1)]; exact partOk_out p w (by omega)
end Go.Proofs.YtegibpepdndocabGreat
