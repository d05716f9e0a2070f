import Derived.Test.YtegibpepdndocabGreatOutBk
import Derived.Test.YtegibpepdndocabGreatSokk
import Derived.Test.YtegibpepdndocabGreatSpLk
namespace Go.Proofs.YtegibpepdndocabGreat
open Has renaming new → J0, new1 → J1, new2 → J2, new3 → J3, new4 → J4, drew → J5, drewN → J6, alloc → J7, same → J8, other → J9, cell → Jc, frozen → Jf, below → Jb
open Go.ChangeShapes Go.WideShapes Go.ChangeAt Go.RowKit
set_option linter.unusedSimpArgs false
set_option linter.unusedVariables false
set_option maxHeartbeats 4000000

attribute [local go_sem] VGo_value VGo_skip VGo_enter
attribute [local go_sem] Pt.arr0 Pt.arr1 Pt.arr2 Pt.arr3 Pt.arr4 Pt.arr5 Pt.arr6 Pt.arr7 Pt.arr8 Pt.arr9 Pt.arr10 Pt.arr11 Pt.arr12 Pt.arr13 Pt.arr14 Pt.arr15 Pt.arr16 Pt.arr17 Pt.arr18 Pt.arr19 Pt.arr20 Pt.arr21 Pt.arr22 Pt.arr23 Pt.arr24 Pt.arr25 Pt.arr26
attribute [-go_sem] loadVar storeVar
attribute [local go_sem] lvA svA lvVec lvHalf lvBall lvBox lvMot
attribute [local go_sem high] ptLoadNew ptStoreNew
attribute [local go_sem] Pt.arrSize Pt.fill
theorem lvRayO (a : Addr) (w : World) : (loadVar 52 a).run Tryz.prog w = ((loadCells a 6).run Tryz.prog w).andThen fun cs w2 => .ok (.agg cs) w2 := by
  rw [lvB (Tryz.isAgg52 w), Tryz.sizeOf52 w, Result.andThen_ok]
attribute [local go_sem] lvRayO
theorem pinOne {w : World} {b c : Nat} {p : Pt} {T : TypeId} (h : Has w b p.arr T) : PIn w (.slice (some ⟨b, 0, none⟩) 1 c) [p] :=
  ⟨some ⟨b, 0, none⟩, c, rfl, fun _ => ⟨b, 0, rfl, fun i hi j v hj => by
    have hi0 : i = 0 := by simpa using hi
    subst hi0
    rw [Jc h]
    simpa [Pt.arr] using hj⟩⟩
theorem solidOne {p : Pt} (h : SolidP [p]) : (0 ≤ p.k ∧ p.k ≤ 2) ∧ LeafP p := by
  obtain ⟨hp, hl⟩ := h.1.2.1 0 (by simp) (by simp)
  simp only [List.getElem_cons_zero] at hp hl
  have hk : p.k ≤ 2 := by
    apply Classical.byContradiction
    intro hk
    have h6 := hp.1.2
    by_cases h5 : p.k ≤ 5
    · rw [made_two p (by omega) h5] at hl
      have := hl.1
      omega
    · rw [made_one p (by omega)] at hl
      have := hl.1
      omega
  exact ⟨⟨hp.1.1, hk⟩, (hp.2.1 hk).2⟩
def FarP (n : Int) : Prop := -1073741824 ≤ n ∧ n ≤ 1073741824
def OutOk (p : Pt) (x y z u v t n : Int) : Prop := SolidP [p] ∧ Rok x y z u v t ∧ FarP n
/- the direction out of a leaf -/
def OutV (p : Pt) (x y z u v t n X Y Z : Int) : Prop :=
  (p.k = 0 ∧ X = p.h.f ∧ Y = p.h.t ∧ Z = p.h.i) ∨
  (p.k = 1 ∧ (n < -67108864 ∨ 67108864 < n) ∧ X = 0 ∧ Y = 0 ∧ Z = 0) ∨
  (p.k = 1 ∧ (-67108864 ≤ n ∧ n ≤ 67108864) ∧ ∃ m a b c e f g i j k s1 s2 s3, BoE p.b.f p.b.t p.b.i x y z u v t n m a b c e f g i j k s1 s2 s3 X Y Z) ∨
  (p.k = 2 ∧ ∃ X1 Y1 X2 Y2 X3 Y3 r1 r2 r3, SlE p.x.a p.x.d x u X1 Y1 ∧ SlE p.x.b p.x.e y v X2 Y2 ∧ SlE p.x.c p.x.f z t X3 Y3 ∧ FcE u X1 Y1 n r1 ∧ FcE v X2 Y2 n r2 ∧ FcE t X3 Y3 n r3 ∧ OtE r1 r2 r3 X Y Z)
theorem outV (p : Pt) (h : 0 ≤ p.k ∧ p.k ≤ 2) (x y z u v t n : Int) : ∃ X Y Z, OutV p x y z u v t n X Y Z := by
  by_cases h0 : p.k = 0
  · exact ⟨_, _, _, .inl ⟨h0, rfl, rfl, rfl⟩⟩
  by_cases h1 : p.k = 1
  · by_cases hn : -67108864 ≤ n ∧ n ≤ 67108864
    · exact ⟨_, _, _, .inr (.inr (.inl ⟨h1, hn, _, _, _, _, _, _, _, _, _, _, _, _, _, rfl, ⟨rfl, rfl, rfl⟩, ⟨rfl, rfl, rfl⟩, ⟨rfl, rfl, rfl⟩, ⟨rfl, rfl, rfl⟩, rfl, rfl, rfl⟩))⟩
    · exact ⟨_, _, _, .inr (.inl ⟨h1, by omega, rfl, rfl, rfl⟩)⟩
  · obtain ⟨X1, Y1, e1⟩ := slE p.x.a p.x.d x u
    obtain ⟨X2, Y2, e2⟩ := slE p.x.b p.x.e y v
    obtain ⟨X3, Y3, e3⟩ := slE p.x.c p.x.f z t
    obtain ⟨r1, f1⟩ := fcE u X1 Y1 n
    obtain ⟨r2, f2⟩ := fcE v X2 Y2 n
    obtain ⟨r3, f3⟩ := fcE t X3 Y3 n
    obtain ⟨X, Y, Z, o⟩ := otE r1 r2 r3
    exact ⟨X, Y, Z, .inr (.inr (.inr ⟨by omega, X1, Y1, X2, Y2, X3, Y3, r1, r2, r3, e1, e2, e3, f1, f2, f3, o⟩))⟩
set_option maxRecDepth 100000 in
theorem iOutOf_no1 (p : Pt) (x y z u v t n : Int) (w : World) (h : ¬ SolidP [p]) :
    Calls Tryz.prog 18 #[p.val, .agg #[.int .i64 (x), .int .i64 (y), .int .i64 (z), .int .i64 (u), .int .i64 (v), .int .i64 (t)], .int .i64 n] w fun e w' => e = .returned (.agg #[.int .i64 (0), .int .i64 (0), .int .i64 (0)]) ∧ Below w.heap.size w w' := by
  have HS : Hid (∀ v w, PIn w v [p] → Calls Tryz.prog 38 #[v] w fun e w' => e = .returned (.bool false) ∧ Below w.heap.size w w') := Lib.hid fun v w hl => by have := iSolidOk_any [p] v w hl (by simp); rwa [dec_no h] at this
  go_enter Tryz.func18, Tryz.ntmps18
  go_upto_region 1 with fail
  refine (fun (k : ∀ wm, Has wm w.heap.size p.arr 49 → Has wm (w.heap.size + 1) #[.int .i64 (x), .int .i64 (y), .int .i64 (z), .int .i64 (u), .int .i64 (v), .int .i64 (t)] 52 → Has wm (w.heap.size + 1 + 1) #[.int .i64 0, .int .i64 0, .int .i64 0] 38 → Below w.heap.size w wm → Code.wp _ _ _ _ wm) => k _ ?_ ?_ ?_ ?_) ?_
  · (refine Has.as (by repeat' (first|with_reducible (first|assumption|apply J0|apply J1|apply J2|apply J3|apply J4|apply J5|apply J6|apply J7|apply J8|apply J9)|(with_reducible show _ ≠ _;first|omega|(simp;done)))) ?_; first | (with_reducible rfl) | (simp only [List.setIfInBounds_toArray, List.set_cons_zero, List.set_cons_succ]; first | done | rfl) | rfl | (simp; done))
  · (refine Has.as (by repeat' (first|with_reducible (first|assumption|apply J0|apply J1|apply J2|apply J3|apply J4|apply J5|apply J6|apply J7|apply J8|apply J9)|(with_reducible show _ ≠ _;first|omega|(simp;done)))) ?_; first | (with_reducible rfl) | (simp only [List.setIfInBounds_toArray, List.set_cons_zero, List.set_cons_succ]; first | done | rfl) | rfl | (simp; done))
  · (refine Has.as (by repeat' (first|with_reducible (first|assumption|apply J0|apply J1|apply J2|apply J3|apply J4|apply J5|apply J6|apply J7|apply J8|apply J9)|(with_reducible show _ ≠ _;first|omega|(simp;done)))) ?_; first | (with_reducible rfl) | (simp only [List.setIfInBounds_toArray, List.set_cons_zero, List.set_cons_succ]; first | done | rfl) | rfl | (simp; done))
  · repeat' (first|with_reducible (first|exact lowRefl _|apply lowSet|apply lowDrew|apply lowDrewN|apply lowAlloc)|(with_reducible refine lowCall ?_ (by assumption))|(show (_ : Nat) ≤ _;first|(simp;done)|(simp;omega)|omega))
  intro wm B0 B1 B2 hL
  have P0 := ptLoad p B0
  have C0 := Jc B0
  have C1 := Jc B1
  have C2 := Jc B2
  have F2 := Jf B2
  go_wp2_with (go_at_call 38; (with_reducible refine (HS.out _ _ (pinOne (Has.new _ _ _))).mono ?_); rintro e w' ⟨rfl, hbq⟩; (try (have B0 := Jb (b := w.heap.size) (by repeat' (first|with_reducible (first|assumption|apply J0|apply J1|apply J2|apply J3|apply J4|apply J5|apply J6|apply J7|apply J8|apply J9)|(with_reducible show _ ≠ _;first|omega|(simp;done)))) hbq; have C0 := Jc B0; have F0 := Jf B0)); (try (have B1 := Jb (b := w.heap.size + 1) (by repeat' (first|with_reducible (first|assumption|apply J0|apply J1|apply J2|apply J3|apply J4|apply J5|apply J6|apply J7|apply J8|apply J9)|(with_reducible show _ ≠ _;first|omega|(simp;done)))) hbq; have C1 := Jc B1; have F1 := Jf B1)); (try (have B2 := Jb (b := w.heap.size + 1 + 1) (by repeat' (first|with_reducible (first|assumption|apply J0|apply J1|apply J2|apply J3|apply J4|apply J5|apply J6|apply J7|apply J8|apply J9)|(with_reducible show _ ≠ _;first|omega|(simp;done)))) hbq; have C2 := Jc B2; have F2 := Jf B2)); (try have P0 := ptLoad p B0))
  refine bodyPost_has (b := w.heap.size + 1 + 1) (T := 38) ?hB (fun wE hE => ?hres) rfl ⟨rfl, ?hlow⟩; (case hB => (refine Has.as (by repeat' (first|with_reducible (first|assumption|apply J0|apply J1|apply J2|apply J3|apply J4|apply J5|apply J6|apply J7|apply J8|apply J9)|(with_reducible show _ ≠ _;first|omega|(simp;done)))) ?_; first | (with_reducible rfl) | (simp only [List.setIfInBounds_toArray, List.set_cons_zero, List.set_cons_succ]; first | done | rfl) | rfl | (simp; done))); (case hres => have cE := Jc hE; simp only [results, Tryz.results18, go_sem]; simp [go_sem, cE]; done); (case hlow => repeat' (first|with_reducible (first|exact lowRefl _|apply lowSet|apply lowDrew|apply lowDrewN|apply lowAlloc)|(with_reducible refine lowCall ?_ (by assumption))|(show (_ : Nat) ≤ _;first|(simp;done)|(simp;omega)|omega)))
set_option maxRecDepth 100000 in
theorem iOutOf_no2 (p : Pt) (x y z u v t n : Int) (w : World) (h : SolidP [p]) (k : ¬ Rok x y z u v t) :
    Calls Tryz.prog 18 #[p.val, .agg #[.int .i64 (x), .int .i64 (y), .int .i64 (z), .int .i64 (u), .int .i64 (v), .int .i64 (t)], .int .i64 n] w fun e w' => e = .returned (.agg #[.int .i64 (0), .int .i64 (0), .int .i64 (0)]) ∧ Below w.heap.size w w' := by
  have HS : Hid (∀ v w, PIn w v [p] → Calls Tryz.prog 38 #[v] w fun e w' => e = .returned (.bool true) ∧ Below w.heap.size w w') := Lib.hid fun v w hl => by have := iSolidOk_any [p] v w hl (by simp); rwa [dec_yes h] at this
  have HR := Lib.hid k
  clear h k
  go_enter Tryz.func18, Tryz.ntmps18
  go_upto_region 1 with fail
  refine (fun (k : ∀ wm, Has wm w.heap.size p.arr 49 → Has wm (w.heap.size + 1) #[.int .i64 (x), .int .i64 (y), .int .i64 (z), .int .i64 (u), .int .i64 (v), .int .i64 (t)] 52 → Has wm (w.heap.size + 1 + 1) #[.int .i64 0, .int .i64 0, .int .i64 0] 38 → Below w.heap.size w wm → Code.wp _ _ _ _ wm) => k _ ?_ ?_ ?_ ?_) ?_
  · (refine Has.as (by repeat' (first|with_reducible (first|assumption|apply J0|apply J1|apply J2|apply J3|apply J4|apply J5|apply J6|apply J7|apply J8|apply J9)|(with_reducible show _ ≠ _;first|omega|(simp;done)))) ?_; first | (with_reducible rfl) | (simp only [List.setIfInBounds_toArray, List.set_cons_zero, List.set_cons_succ]; first | done | rfl) | rfl | (simp; done))
  · (refine Has.as (by repeat' (first|with_reducible (first|assumption|apply J0|apply J1|apply J2|apply J3|apply J4|apply J5|apply J6|apply J7|apply J8|apply J9)|(with_reducible show _ ≠ _;first|omega|(simp;done)))) ?_; first | (with_reducible rfl) | (simp only [List.setIfInBounds_toArray, List.set_cons_zero, List.set_cons_succ]; first | done | rfl) | rfl | (simp; done))
  · (refine Has.as (by repeat' (first|with_reducible (first|assumption|apply J0|apply J1|apply J2|apply J3|apply J4|apply J5|apply J6|apply J7|apply J8|apply J9)|(with_reducible show _ ≠ _;first|omega|(simp;done)))) ?_; first | (with_reducible rfl) | (simp only [List.setIfInBounds_toArray, List.set_cons_zero, List.set_cons_succ]; first | done | rfl) | rfl | (simp; done))
  · repeat' (first|with_reducible (first|exact lowRefl _|apply lowSet|apply lowDrew|apply lowDrewN|apply lowAlloc)|(with_reducible refine lowCall ?_ (by assumption))|(show (_ : Nat) ≤ _;first|(simp;done)|(simp;omega)|omega))
  intro wm B0 B1 B2 hL
  have P0 := ptLoad p B0
  have C0 := Jc B0
  have C1 := Jc B1
  have C2 := Jc B2
  have F2 := Jf B2
  go_wp2_with (first | (go_at_call 38; (with_reducible refine (HS.out _ _ (pinOne (Has.new _ _ _))).mono ?_); rintro e w' ⟨rfl, hbq⟩; (try (have B0 := Jb (b := w.heap.size) (by repeat' (first|with_reducible (first|assumption|apply J0|apply J1|apply J2|apply J3|apply J4|apply J5|apply J6|apply J7|apply J8|apply J9)|(with_reducible show _ ≠ _;first|omega|(simp;done)))) hbq; have C0 := Jc B0; have F0 := Jf B0)); (try (have B1 := Jb (b := w.heap.size + 1) (by repeat' (first|with_reducible (first|assumption|apply J0|apply J1|apply J2|apply J3|apply J4|apply J5|apply J6|apply J7|apply J8|apply J9)|(with_reducible show _ ≠ _;first|omega|(simp;done)))) hbq; have C1 := Jc B1; have F1 := Jf B1)); (try (have B2 := Jb (b := w.heap.size + 1 + 1) (by repeat' (first|with_reducible (first|assumption|apply J0|apply J1|apply J2|apply J3|apply J4|apply J5|apply J6|apply J7|apply J8|apply J9)|(with_reducible show _ ≠ _;first|omega|(simp;done)))) hbq; have C2 := Jc B2; have F2 := Jf B2)); (try have P0 := ptLoad p B0)) | (go_at_call 40; (with_reducible refine (irayOk_no _ _ _ _ _ _ _ HR.out).mono ?_); rintro e w' ⟨rfl, hbq⟩; (try (have B0 := Jb (b := w.heap.size) (by repeat' (first|with_reducible (first|assumption|apply J0|apply J1|apply J2|apply J3|apply J4|apply J5|apply J6|apply J7|apply J8|apply J9)|(with_reducible show _ ≠ _;first|omega|(simp;done)))) hbq; have C0 := Jc B0; have F0 := Jf B0)); (try (have B1 := Jb (b := w.heap.size + 1) (by repeat' (first|with_reducible (first|assumption|apply J0|apply J1|apply J2|apply J3|apply J4|apply J5|apply J6|apply J7|apply J8|apply J9)|(with_reducible show _ ≠ _;first|omega|(simp;done)))) hbq; have C1 := Jc B1; have F1 := Jf B1)); (try (have B2 := Jb (b := w.heap.size + 1 + 1) (by repeat' (first|with_reducible (first|assumption|apply J0|apply J1|apply J2|apply J3|apply J4|apply J5|apply J6|apply J7|apply J8|apply J9)|(with_reducible show _ ≠ _;first|omega|(simp;done)))) hbq; have C2 := Jc B2; have F2 := Jf B2)); (try have P0 := ptLoad p B0)))
  refine bodyPost_has (b := w.heap.size + 1 + 1) (T := 38) ?hB (fun wE hE => ?hres) rfl ⟨rfl, ?hlow⟩; (case hB => (refine Has.as (by repeat' (first|with_reducible (first|assumption|apply J0|apply J1|apply J2|apply J3|apply J4|apply J5|apply J6|apply J7|apply J8|apply J9)|(with_reducible show _ ≠ _;first|omega|(simp;done)))) ?_; first | (with_reducible rfl) | (simp only [List.setIfInBounds_toArray, List.set_cons_zero, List.set_cons_succ]; first | done | rfl) | rfl | (simp; done))); (case hres => have cE := Jc hE; simp only [results, Tryz.results18, go_sem]; simp [go_sem, cE]; done); (case hlow => repeat' (first|with_reducible (first|exact lowRefl _|apply lowSet|apply lowDrew|apply lowDrewN|apply lowAlloc)|(with_reducible refine lowCall ?_ (by assumption))|(show (_ : Nat) ≤ _;first|(simp;done)|(simp;omega)|omega)))
set_option maxRecDepth 100000 in
theorem iOutOf_no3 (p : Pt) (x y z u v t n : Int) (w : World) (h : SolidP [p]) (k : Rok x y z u v t) (f : ¬ FarP n) :
    Calls Tryz.prog 18 #[p.val, .agg #[.int .i64 (x), .int .i64 (y), .int .i64 (z), .int .i64 (u), .int .i64 (v), .int .i64 (t)], .int .i64 n] w fun e w' => e = .returned (.agg #[.int .i64 (0), .int .i64 (0), .int .i64 (0)]) ∧ Below w.heap.size w w' := by
  have HS : Hid (∀ v w, PIn w v [p] → Calls Tryz.prog 38 #[v] w fun e w' => e = .returned (.bool true) ∧ Below w.heap.size w w') := Lib.hid fun v w hl => by have := iSolidOk_any [p] v w hl (by simp); rwa [dec_yes h] at this
  have HR := Lib.hid k
  have f1 : n < -1073741824 ∨ 1073741824 < n := by unfold FarP at f; omega
  clear h k f
  go_enter Tryz.func18, Tryz.ntmps18
  go_upto_region 1 with fail
  refine (fun (k : ∀ wm, Has wm w.heap.size p.arr 49 → Has wm (w.heap.size + 1) #[.int .i64 (x), .int .i64 (y), .int .i64 (z), .int .i64 (u), .int .i64 (v), .int .i64 (t)] 52 → Has wm (w.heap.size + 1 + 1) #[.int .i64 0, .int .i64 0, .int .i64 0] 38 → Below w.heap.size w wm → Code.wp _ _ _ _ wm) => k _ ?_ ?_ ?_ ?_) ?_
  · (refine Has.as (by repeat' (first|with_reducible (first|assumption|apply J0|apply J1|apply J2|apply J3|apply J4|apply J5|apply J6|apply J7|apply J8|apply J9)|(with_reducible show _ ≠ _;first|omega|(simp;done)))) ?_; first | (with_reducible rfl) | (simp only [List.setIfInBounds_toArray, List.set_cons_zero, List.set_cons_succ]; first | done | rfl) | rfl | (simp; done))
  · (refine Has.as (by repeat' (first|with_reducible (first|assumption|apply J0|apply J1|apply J2|apply J3|apply J4|apply J5|apply J6|apply J7|apply J8|apply J9)|(with_reducible show _ ≠ _;first|omega|(simp;done)))) ?_; first | (with_reducible rfl) | (simp only [List.setIfInBounds_toArray, List.set_cons_zero, List.set_cons_succ]; first | done | rfl) | rfl | (simp; done))
  · (refine Has.as (by repeat' (first|with_reducible (first|assumption|apply J0|apply J1|apply J2|apply J3|apply J4|apply J5|apply J6|apply J7|apply J8|apply J9)|(with_reducible show _ ≠ _;first|omega|(simp;done)))) ?_; first | (with_reducible rfl) | (simp only [List.setIfInBounds_toArray, List.set_cons_zero, List.set_cons_succ]; first | done | rfl) | rfl | (simp; done))
  · repeat' (first|with_reducible (first|exact lowRefl _|apply lowSet|apply lowDrew|apply lowDrewN|apply lowAlloc)|(with_reducible refine lowCall ?_ (by assumption))|(show (_ : Nat) ≤ _;first|(simp;done)|(simp;omega)|omega))
  intro wm B0 B1 B2 hL
  have P0 := ptLoad p B0
  have C0 := Jc B0
  have C1 := Jc B1
  have C2 := Jc B2
  have F2 := Jf B2
  go_wp2_with (first | (go_at_call 38; (with_reducible refine (HS.out _ _ (pinOne (Has.new _ _ _))).mono ?_); rintro e w' ⟨rfl, hbq⟩; (try (have B0 := Jb (b := w.heap.size) (by repeat' (first|with_reducible (first|assumption|apply J0|apply J1|apply J2|apply J3|apply J4|apply J5|apply J6|apply J7|apply J8|apply J9)|(with_reducible show _ ≠ _;first|omega|(simp;done)))) hbq; have C0 := Jc B0; have F0 := Jf B0)); (try (have B1 := Jb (b := w.heap.size + 1) (by repeat' (first|with_reducible (first|assumption|apply J0|apply J1|apply J2|apply J3|apply J4|apply J5|apply J6|apply J7|apply J8|apply J9)|(with_reducible show _ ≠ _;first|omega|(simp;done)))) hbq; have C1 := Jc B1; have F1 := Jf B1)); (try (have B2 := Jb (b := w.heap.size + 1 + 1) (by repeat' (first|with_reducible (first|assumption|apply J0|apply J1|apply J2|apply J3|apply J4|apply J5|apply J6|apply J7|apply J8|apply J9)|(with_reducible show _ ≠ _;first|omega|(simp;done)))) hbq; have C2 := Jc B2; have F2 := Jf B2)); (try have P0 := ptLoad p B0)) | (go_at_call 40; (with_reducible refine (irayOk_yes _ _ _ _ _ _ _ HR.out).mono ?_); rintro e w' ⟨rfl, hbq⟩; (try (have B0 := Jb (b := w.heap.size) (by repeat' (first|with_reducible (first|assumption|apply J0|apply J1|apply J2|apply J3|apply J4|apply J5|apply J6|apply J7|apply J8|apply J9)|(with_reducible show _ ≠ _;first|omega|(simp;done)))) hbq; have C0 := Jc B0; have F0 := Jf B0)); (try (have B1 := Jb (b := w.heap.size + 1) (by repeat' (first|with_reducible (first|assumption|apply J0|apply J1|apply J2|apply J3|apply J4|apply J5|apply J6|apply J7|apply J8|apply J9)|(with_reducible show _ ≠ _;first|omega|(simp;done)))) hbq; have C1 := Jc B1; have F1 := Jf B1)); (try (have B2 := Jb (b := w.heap.size + 1 + 1) (by repeat' (first|with_reducible (first|assumption|apply J0|apply J1|apply J2|apply J3|apply J4|apply J5|apply J6|apply J7|apply J8|apply J9)|(with_reducible show _ ≠ _;first|omega|(simp;done)))) hbq; have C2 := Jc B2; have F2 := Jf B2)); (try have P0 := ptLoad p B0)) | (go_at_call 79; ((with_reducible refine (within_no _ _ _ _ (by omega)).mono ?_); rintro e w' ⟨rfl, rfl⟩)))
  refine bodyPost_has (b := w.heap.size + 1 + 1) (T := 38) ?hB (fun wE hE => ?hres) rfl ⟨rfl, ?hlow⟩; (case hB => (refine Has.as (by repeat' (first|with_reducible (first|assumption|apply J0|apply J1|apply J2|apply J3|apply J4|apply J5|apply J6|apply J7|apply J8|apply J9)|(with_reducible show _ ≠ _;first|omega|(simp;done)))) ?_; first | (with_reducible rfl) | (simp only [List.setIfInBounds_toArray, List.set_cons_zero, List.set_cons_succ]; first | done | rfl) | rfl | (simp; done))); (case hres => have cE := Jc hE; simp only [results, Tryz.results18, go_sem]; simp [go_sem, cE]; done); (case hlow => repeat' (first|with_reducible (first|exact lowRefl _|apply lowSet|apply lowDrew|apply lowDrewN|apply lowAlloc)|(with_reducible refine lowCall ?_ (by assumption))|(show (_ : Nat) ≤ _;first|(simp;done)|(simp;omega)|omega)))
set_option maxRecDepth 100000 in
theorem iOutOf_half (p : Pt) (x y z u v t n : Int) (w : World) (h : SolidP [p]) (k : Rok x y z u v t) (f : FarP n) (hk : p.k = 0) :
    Calls Tryz.prog 18 #[p.val, .agg #[.int .i64 (x), .int .i64 (y), .int .i64 (z), .int .i64 (u), .int .i64 (v), .int .i64 (t)], .int .i64 n] w fun e w' => e = .returned (.agg #[.int .i64 (p.h.f), .int .i64 (p.h.t), .int .i64 (p.h.i)]) ∧ Below w.heap.size w w' := by
  have HS : Hid (∀ v w, PIn w v [p] → Calls Tryz.prog 38 #[v] w fun e w' => e = .returned (.bool true) ∧ Below w.heap.size w w') := Lib.hid fun v w hl => by have := iSolidOk_any [p] v w hl (by simp); rwa [dec_yes h] at this
  have HR := Lib.hid k
  obtain ⟨f1, f2⟩ := f
  clear h k
  go_enter Tryz.func18, Tryz.ntmps18
  go_upto_region 1 with fail
  refine (fun (k : ∀ wm, Has wm w.heap.size p.arr 49 → Has wm (w.heap.size + 1) #[.int .i64 (x), .int .i64 (y), .int .i64 (z), .int .i64 (u), .int .i64 (v), .int .i64 (t)] 52 → Has wm (w.heap.size + 1 + 1) #[.int .i64 0, .int .i64 0, .int .i64 0] 38 → Below w.heap.size w wm → Code.wp _ _ _ _ wm) => k _ ?_ ?_ ?_ ?_) ?_
  · (refine Has.as (by repeat' (first|with_reducible (first|assumption|apply J0|apply J1|apply J2|apply J3|apply J4|apply J5|apply J6|apply J7|apply J8|apply J9)|(with_reducible show _ ≠ _;first|omega|(simp;done)))) ?_; first | (with_reducible rfl) | (simp only [List.setIfInBounds_toArray, List.set_cons_zero, List.set_cons_succ]; first | done | rfl) | rfl | (simp; done))
  · (refine Has.as (by repeat' (first|with_reducible (first|assumption|apply J0|apply J1|apply J2|apply J3|apply J4|apply J5|apply J6|apply J7|apply J8|apply J9)|(with_reducible show _ ≠ _;first|omega|(simp;done)))) ?_; first | (with_reducible rfl) | (simp only [List.setIfInBounds_toArray, List.set_cons_zero, List.set_cons_succ]; first | done | rfl) | rfl | (simp; done))
  · (refine Has.as (by repeat' (first|with_reducible (first|assumption|apply J0|apply J1|apply J2|apply J3|apply J4|apply J5|apply J6|apply J7|apply J8|apply J9)|(with_reducible show _ ≠ _;first|omega|(simp;done)))) ?_; first | (with_reducible rfl) | (simp only [List.setIfInBounds_toArray, List.set_cons_zero, List.set_cons_succ]; first | done | rfl) | rfl | (simp; done))
  · repeat' (first|with_reducible (first|exact lowRefl _|apply lowSet|apply lowDrew|apply lowDrewN|apply lowAlloc)|(with_reducible refine lowCall ?_ (by assumption))|(show (_ : Nat) ≤ _;first|(simp;done)|(simp;omega)|omega))
  intro wm B0 B1 B2 hL
  have P0 := ptLoad p B0
  have C0 := Jc B0
  have C1 := Jc B1
  have C2 := Jc B2
  have F2 := Jf B2
  go_wp2_with (first | (go_at_call 38; (with_reducible refine (HS.out _ _ (pinOne (Has.new _ _ _))).mono ?_); rintro e w' ⟨rfl, hbq⟩; (try (have B0 := Jb (b := w.heap.size) (by repeat' (first|with_reducible (first|assumption|apply J0|apply J1|apply J2|apply J3|apply J4|apply J5|apply J6|apply J7|apply J8|apply J9)|(with_reducible show _ ≠ _;first|omega|(simp;done)))) hbq; have C0 := Jc B0; have F0 := Jf B0)); (try (have B1 := Jb (b := w.heap.size + 1) (by repeat' (first|with_reducible (first|assumption|apply J0|apply J1|apply J2|apply J3|apply J4|apply J5|apply J6|apply J7|apply J8|apply J9)|(with_reducible show _ ≠ _;first|omega|(simp;done)))) hbq; have C1 := Jc B1; have F1 := Jf B1)); (try (have B2 := Jb (b := w.heap.size + 1 + 1) (by repeat' (first|with_reducible (first|assumption|apply J0|apply J1|apply J2|apply J3|apply J4|apply J5|apply J6|apply J7|apply J8|apply J9)|(with_reducible show _ ≠ _;first|omega|(simp;done)))) hbq; have C2 := Jc B2; have F2 := Jf B2)); (try have P0 := ptLoad p B0)) | (go_at_call 40; (with_reducible refine (irayOk_yes _ _ _ _ _ _ _ HR.out).mono ?_); rintro e w' ⟨rfl, hbq⟩; (try (have B0 := Jb (b := w.heap.size) (by repeat' (first|with_reducible (first|assumption|apply J0|apply J1|apply J2|apply J3|apply J4|apply J5|apply J6|apply J7|apply J8|apply J9)|(with_reducible show _ ≠ _;first|omega|(simp;done)))) hbq; have C0 := Jc B0; have F0 := Jf B0)); (try (have B1 := Jb (b := w.heap.size + 1) (by repeat' (first|with_reducible (first|assumption|apply J0|apply J1|apply J2|apply J3|apply J4|apply J5|apply J6|apply J7|apply J8|apply J9)|(with_reducible show _ ≠ _;first|omega|(simp;done)))) hbq; have C1 := Jc B1; have F1 := Jf B1)); (try (have B2 := Jb (b := w.heap.size + 1 + 1) (by repeat' (first|with_reducible (first|assumption|apply J0|apply J1|apply J2|apply J3|apply J4|apply J5|apply J6|apply J7|apply J8|apply J9)|(with_reducible show _ ≠ _;first|omega|(simp;done)))) hbq; have C2 := Jc B2; have F2 := Jf B2)); (try have P0 := ptLoad p B0)) | (go_at_call 79; ((with_reducible refine (within_yes _ _ _ _ (by omega) (by omega)).mono ?_); rintro e w' ⟨rfl, rfl⟩)))
  refine bodyPost_has (b := w.heap.size + 1 + 1) (T := 38) ?hB (fun wE hE => ?hres) rfl ⟨rfl, ?hlow⟩; (case hB => (refine Has.as (by repeat' (first|with_reducible (first|assumption|apply J0|apply J1|apply J2|apply J3|apply J4|apply J5|apply J6|apply J7|apply J8|apply J9)|(with_reducible show _ ≠ _;first|omega|(simp;done)))) ?_; first | (with_reducible rfl) | (simp only [List.setIfInBounds_toArray, List.set_cons_zero, List.set_cons_succ]; first | done | rfl) | rfl | (simp; done))); (case hres => have cE := Jc hE; simp only [results, Tryz.results18, go_sem]; simp [go_sem, cE]; done); (case hlow => repeat' (first|with_reducible (first|exact lowRefl _|apply lowSet|apply lowDrew|apply lowDrewN|apply lowAlloc)|(with_reducible refine lowCall ?_ (by assumption))|(show (_ : Nat) ≤ _;first|(simp;done)|(simp;omega)|omega)))
set_option maxRecDepth 100000 in
theorem iOutOf_ball0 (p : Pt) (x y z u v t n : Int) (w : World) (h : SolidP [p]) (k : Rok x y z u v t) (f : FarP n) (hk : p.k = 1) (hn : n < -67108864 ∨ 67108864 < n) :
    Calls Tryz.prog 18 #[p.val, .agg #[.int .i64 (x), .int .i64 (y), .int .i64 (z), .int .i64 (u), .int .i64 (v), .int .i64 (t)], .int .i64 n] w fun e w' => e = .returned (.agg #[.int .i64 (0), .int .i64 (0), .int .i64 (0)]) ∧ Below w.heap.size w w' := by
  have HS : Hid (∀ v w, PIn w v [p] → Calls Tryz.prog 38 #[v] w fun e w' => e = .returned (.bool true) ∧ Below w.heap.size w w') := Lib.hid fun v w hl => by have := iSolidOk_any [p] v w hl (by simp); rwa [dec_yes h] at this
  have HR := Lib.hid k
  obtain ⟨f1, f2⟩ := f
  have HN := Lib.hid hn
  clear h k hn
  go_enter Tryz.func18, Tryz.ntmps18
  go_upto_region 1 with fail
  refine (fun (k : ∀ wm, Has wm w.heap.size p.arr 49 → Has wm (w.heap.size + 1) #[.int .i64 (x), .int .i64 (y), .int .i64 (z), .int .i64 (u), .int .i64 (v), .int .i64 (t)] 52 → Has wm (w.heap.size + 1 + 1) #[.int .i64 0, .int .i64 0, .int .i64 0] 38 → Below w.heap.size w wm → Code.wp _ _ _ _ wm) => k _ ?_ ?_ ?_ ?_) ?_
  · (refine Has.as (by repeat' (first|with_reducible (first|assumption|apply J0|apply J1|apply J2|apply J3|apply J4|apply J5|apply J6|apply J7|apply J8|apply J9)|(with_reducible show _ ≠ _;first|omega|(simp;done)))) ?_; first | (with_reducible rfl) | (simp only [List.setIfInBounds_toArray, List.set_cons_zero, List.set_cons_succ]; first | done | rfl) | rfl | (simp; done))
  · (refine Has.as (by repeat' (first|with_reducible (first|assumption|apply J0|apply J1|apply J2|apply J3|apply J4|apply J5|apply J6|apply J7|apply J8|apply J9)|(with_reducible show _ ≠ _;first|omega|(simp;done)))) ?_; first | (with_reducible rfl) | (simp only [List.setIfInBounds_toArray, List.set_cons_zero, List.set_cons_succ]; first | done | rfl) | rfl | (simp; done))
  · (refine Has.as (by repeat' (first|with_reducible (first|assumption|apply J0|apply J1|apply J2|apply J3|apply J4|apply J5|apply J6|apply J7|apply J8|apply J9)|(with_reducible show _ ≠ _;first|omega|(simp;done)))) ?_; first | (with_reducible rfl) | (simp only [List.setIfInBounds_toArray, List.set_cons_zero, List.set_cons_succ]; first | done | rfl) | rfl | (simp; done))
  · repeat' (first|with_reducible (first|exact lowRefl _|apply lowSet|apply lowDrew|apply lowDrewN|apply lowAlloc)|(with_reducible refine lowCall ?_ (by assumption))|(show (_ : Nat) ≤ _;first|(simp;done)|(simp;omega)|omega))
  intro wm B0 B1 B2 hL
  have P0 := ptLoad p B0
  have C0 := Jc B0
  have C1 := Jc B1
  have C2 := Jc B2
  have F2 := Jf B2
  go_wp2_with (first | (go_at_call 38; (with_reducible refine (HS.out _ _ (pinOne (Has.new _ _ _))).mono ?_); rintro e w' ⟨rfl, hbq⟩; (try (have B0 := Jb (b := w.heap.size) (by repeat' (first|with_reducible (first|assumption|apply J0|apply J1|apply J2|apply J3|apply J4|apply J5|apply J6|apply J7|apply J8|apply J9)|(with_reducible show _ ≠ _;first|omega|(simp;done)))) hbq; have C0 := Jc B0; have F0 := Jf B0)); (try (have B1 := Jb (b := w.heap.size + 1) (by repeat' (first|with_reducible (first|assumption|apply J0|apply J1|apply J2|apply J3|apply J4|apply J5|apply J6|apply J7|apply J8|apply J9)|(with_reducible show _ ≠ _;first|omega|(simp;done)))) hbq; have C1 := Jc B1; have F1 := Jf B1)); (try (have B2 := Jb (b := w.heap.size + 1 + 1) (by repeat' (first|with_reducible (first|assumption|apply J0|apply J1|apply J2|apply J3|apply J4|apply J5|apply J6|apply J7|apply J8|apply J9)|(with_reducible show _ ≠ _;first|omega|(simp;done)))) hbq; have C2 := Jc B2; have F2 := Jf B2)); (try have P0 := ptLoad p B0)) | (go_at_call 40; (with_reducible refine (irayOk_yes _ _ _ _ _ _ _ HR.out).mono ?_); rintro e w' ⟨rfl, hbq⟩; (try (have B0 := Jb (b := w.heap.size) (by repeat' (first|with_reducible (first|assumption|apply J0|apply J1|apply J2|apply J3|apply J4|apply J5|apply J6|apply J7|apply J8|apply J9)|(with_reducible show _ ≠ _;first|omega|(simp;done)))) hbq; have C0 := Jc B0; have F0 := Jf B0)); (try (have B1 := Jb (b := w.heap.size + 1) (by repeat' (first|with_reducible (first|assumption|apply J0|apply J1|apply J2|apply J3|apply J4|apply J5|apply J6|apply J7|apply J8|apply J9)|(with_reducible show _ ≠ _;first|omega|(simp;done)))) hbq; have C1 := Jc B1; have F1 := Jf B1)); (try (have B2 := Jb (b := w.heap.size + 1 + 1) (by repeat' (first|with_reducible (first|assumption|apply J0|apply J1|apply J2|apply J3|apply J4|apply J5|apply J6|apply J7|apply J8|apply J9)|(with_reducible show _ ≠ _;first|omega|(simp;done)))) hbq; have C2 := Jc B2; have F2 := Jf B2)); (try have P0 := ptLoad p B0)) | (go_at_call 79; ((with_reducible refine (within_yes _ _ _ _ (by omega) (by omega)).mono ?_); rintro e w' ⟨rfl, rfl⟩)) | (go_at_call 80; (with_reducible refine (iballOut_no _ _ _ _ _ _ _ _ _ _ _ _ HN.out).mono ?_); rintro e w' ⟨rfl, hbq⟩; (try (have B0 := Jb (b := w.heap.size) (by repeat' (first|with_reducible (first|assumption|apply J0|apply J1|apply J2|apply J3|apply J4|apply J5|apply J6|apply J7|apply J8|apply J9)|(with_reducible show _ ≠ _;first|omega|(simp;done)))) hbq; have C0 := Jc B0; have F0 := Jf B0)); (try (have B1 := Jb (b := w.heap.size + 1) (by repeat' (first|with_reducible (first|assumption|apply J0|apply J1|apply J2|apply J3|apply J4|apply J5|apply J6|apply J7|apply J8|apply J9)|(with_reducible show _ ≠ _;first|omega|(simp;done)))) hbq; have C1 := Jc B1; have F1 := Jf B1)); (try (have B2 := Jb (b := w.heap.size + 1 + 1) (by repeat' (first|with_reducible (first|assumption|apply J0|apply J1|apply J2|apply J3|apply J4|apply J5|apply J6|apply J7|apply J8|apply J9)|(with_reducible show _ ≠ _;first|omega|(simp;done)))) hbq; have C2 := Jc B2; have F2 := Jf B2)); (try have P0 := ptLoad p B0)))
  refine bodyPost_has (b := w.heap.size + 1 + 1) (T := 38) ?hB (fun wE hE => ?hres) rfl ⟨rfl, ?hlow⟩; (case hB => (refine Has.as (by repeat' (first|with_reducible (first|assumption|apply J0|apply J1|apply J2|apply J3|apply J4|apply J5|apply J6|apply J7|apply J8|apply J9)|(with_reducible show _ ≠ _;first|omega|(simp;done)))) ?_; first | (with_reducible rfl) | (simp only [List.setIfInBounds_toArray, List.set_cons_zero, List.set_cons_succ]; first | done | rfl) | rfl | (simp; done))); (case hres => have cE := Jc hE; simp only [results, Tryz.results18, go_sem]; simp [go_sem, cE]; done); (case hlow => repeat' (first|with_reducible (first|exact lowRefl _|apply lowSet|apply lowDrew|apply lowDrewN|apply lowAlloc)|(with_reducible refine lowCall ?_ (by assumption))|(show (_ : Nat) ≤ _;first|(simp;done)|(simp;omega)|omega)))
set_option maxRecDepth 100000 in
theorem iOutOf_ball (p : Pt) (x y z u v t n m a b c e f' g i j k' s1 s2 s3 X Y Z : Int) (w : World) (h : SolidP [p]) (k : Rok x y z u v t) (f : FarP n) (hk : p.k = 1) (hn : -67108864 ≤ n ∧ n ≤ 67108864) (E : BoE p.b.f p.b.t p.b.i x y z u v t n m a b c e f' g i j k' s1 s2 s3 X Y Z) :
    Calls Tryz.prog 18 #[p.val, .agg #[.int .i64 (x), .int .i64 (y), .int .i64 (z), .int .i64 (u), .int .i64 (v), .int .i64 (t)], .int .i64 n] w fun e w' => e = .returned (.agg #[.int .i64 (X), .int .i64 (Y), .int .i64 (Z)]) ∧ Below w.heap.size w w' := by
  have HS : Hid (∀ v w, PIn w v [p] → Calls Tryz.prog 38 #[v] w fun e w' => e = .returned (.bool true) ∧ Below w.heap.size w w') := Lib.hid fun v w hl => by have := iSolidOk_any [p] v w hl (by simp); rwa [dec_yes h] at this
  have HR := Lib.hid k
  obtain ⟨f1, f2⟩ := f
  have HC := Lib.hid (fun w => iballOut_yes p.b.f p.b.t p.b.i p.b.o x y z u v t n m a b c e f' g i j k' s1 s2 s3 X Y Z w ((solidOne h).2.2.1 hk).1 k.1 k.2.1 hn.1 hn.2 E)
  clear h k hn E
  go_enter Tryz.func18, Tryz.ntmps18
  go_upto_region 1 with fail
  refine (fun (k : ∀ wm, Has wm w.heap.size p.arr 49 → Has wm (w.heap.size + 1) #[.int .i64 (x), .int .i64 (y), .int .i64 (z), .int .i64 (u), .int .i64 (v), .int .i64 (t)] 52 → Has wm (w.heap.size + 1 + 1) #[.int .i64 0, .int .i64 0, .int .i64 0] 38 → Below w.heap.size w wm → Code.wp _ _ _ _ wm) => k _ ?_ ?_ ?_ ?_) ?_
  · (refine Has.as (by repeat' (first|with_reducible (first|assumption|apply J0|apply J1|apply J2|apply J3|apply J4|apply J5|apply J6|apply J7|apply J8|apply J9)|(with_reducible show _ ≠ _;first|omega|(simp;done)))) ?_; first | (with_reducible rfl) | (simp only [List.setIfInBounds_toArray, List.set_cons_zero, List.set_cons_succ]; first | done | rfl) | rfl | (simp; done))
  · (refine Has.as (by repeat' (first|with_reducible (first|assumption|apply J0|apply J1|apply J2|apply J3|apply J4|apply J5|apply J6|apply J7|apply J8|apply J9)|(with_reducible show _ ≠ _;first|omega|(simp;done)))) ?_; first | (with_reducible rfl) | (simp only [List.setIfInBounds_toArray, List.set_cons_zero, List.set_cons_succ]; first | done | rfl) | rfl | (simp; done))
  · (refine Has.as (by repeat' (first|with_reducible (first|assumption|apply J0|apply J1|apply J2|apply J3|apply J4|apply J5|apply J6|apply J7|apply J8|apply J9)|(with_reducible show _ ≠ _;first|omega|(simp;done)))) ?_; first | (with_reducible rfl) | (simp only [List.setIfInBounds_toArray, List.set_cons_zero, List.set_cons_succ]; first | done | rfl) | rfl | (simp; done))
  · repeat' (first|with_reducible (first|exact lowRefl _|apply lowSet|apply lowDrew|apply lowDrewN|apply lowAlloc)|(with_reducible refine lowCall ?_ (by assumption))|(show (_ : Nat) ≤ _;first|(simp;done)|(simp;omega)|omega))
  intro wm B0 B1 B2 hL
  have P0 := ptLoad p B0
  have C0 := Jc B0
  have C1 := Jc B1
  have C2 := Jc B2
  have F2 := Jf B2
  go_wp2_with (first | (go_at_call 38; (with_reducible refine (HS.out _ _ (pinOne (Has.new _ _ _))).mono ?_); rintro e w' ⟨rfl, hbq⟩; (try (have B0 := Jb (b := w.heap.size) (by repeat' (first|with_reducible (first|assumption|apply J0|apply J1|apply J2|apply J3|apply J4|apply J5|apply J6|apply J7|apply J8|apply J9)|(with_reducible show _ ≠ _;first|omega|(simp;done)))) hbq; have C0 := Jc B0; have F0 := Jf B0)); (try (have B1 := Jb (b := w.heap.size + 1) (by repeat' (first|with_reducible (first|assumption|apply J0|apply J1|apply J2|apply J3|apply J4|apply J5|apply J6|apply J7|apply J8|apply J9)|(with_reducible show _ ≠ _;first|omega|(simp;done)))) hbq; have C1 := Jc B1; have F1 := Jf B1)); (try (have B2 := Jb (b := w.heap.size + 1 + 1) (by repeat' (first|with_reducible (first|assumption|apply J0|apply J1|apply J2|apply J3|apply J4|apply J5|apply J6|apply J7|apply J8|apply J9)|(with_reducible show _ ≠ _;first|omega|(simp;done)))) hbq; have C2 := Jc B2; have F2 := Jf B2)); (try have P0 := ptLoad p B0)) | (go_at_call 40; (with_reducible refine (irayOk_yes _ _ _ _ _ _ _ HR.out).mono ?_); rintro e w' ⟨rfl, hbq⟩; (try (have B0 := Jb (b := w.heap.size) (by repeat' (first|with_reducible (first|assumption|apply J0|apply J1|apply J2|apply J3|apply J4|apply J5|apply J6|apply J7|apply J8|apply J9)|(with_reducible show _ ≠ _;first|omega|(simp;done)))) hbq; have C0 := Jc B0; have F0 := Jf B0)); (try (have B1 := Jb (b := w.heap.size + 1) (by repeat' (first|with_reducible (first|assumption|apply J0|apply J1|apply J2|apply J3|apply J4|apply J5|apply J6|apply J7|apply J8|apply J9)|(with_reducible show _ ≠ _;first|omega|(simp;done)))) hbq; have C1 := Jc B1; have F1 := Jf B1)); (try (have B2 := Jb (b := w.heap.size + 1 + 1) (by repeat' (first|with_reducible (first|assumption|apply J0|apply J1|apply J2|apply J3|apply J4|apply J5|apply J6|apply J7|apply J8|apply J9)|(with_reducible show _ ≠ _;first|omega|(simp;done)))) hbq; have C2 := Jc B2; have F2 := Jf B2)); (try have P0 := ptLoad p B0)) | (go_at_call 79; ((with_reducible refine (within_yes _ _ _ _ (by omega) (by omega)).mono ?_); rintro e w' ⟨rfl, rfl⟩)) | (go_at_call 80; (with_reducible refine (HC.out _).mono ?_); rintro e w' ⟨rfl, hbq⟩; (try (have B0 := Jb (b := w.heap.size) (by repeat' (first|with_reducible (first|assumption|apply J0|apply J1|apply J2|apply J3|apply J4|apply J5|apply J6|apply J7|apply J8|apply J9)|(with_reducible show _ ≠ _;first|omega|(simp;done)))) hbq; have C0 := Jc B0; have F0 := Jf B0)); (try (have B1 := Jb (b := w.heap.size + 1) (by repeat' (first|with_reducible (first|assumption|apply J0|apply J1|apply J2|apply J3|apply J4|apply J5|apply J6|apply J7|apply J8|apply J9)|(with_reducible show _ ≠ _;first|omega|(simp;done)))) hbq; have C1 := Jc B1; have F1 := Jf B1)); (try (have B2 := Jb (b := w.heap.size + 1 + 1) (by repeat' (first|with_reducible (first|assumption|apply J0|apply J1|apply J2|apply J3|apply J4|apply J5|apply J6|apply J7|apply J8|apply J9)|(with_reducible show _ ≠ _;first|omega|(simp;done)))) hbq; have C2 := Jc B2; have F2 := Jf B2)); (try have P0 := ptLoad p B0)))
  refine bodyPost_has (b := w.heap.size + 1 + 1) (T := 38) ?hB (fun wE hE => ?hres) rfl ⟨rfl, ?hlow⟩; (case hB => (refine Has.as (by repeat' (first|with_reducible (first|assumption|apply J0|apply J1|apply J2|apply J3|apply J4|apply J5|apply J6|apply J7|apply J8|apply J9)|(with_reducible show _ ≠ _;first|omega|(simp;done)))) ?_; first | (with_reducible rfl) | (simp only [List.setIfInBounds_toArray, List.set_cons_zero, List.set_cons_succ]; first | done | rfl) | rfl | (simp; done))); (case hres => have cE := Jc hE; simp only [results, Tryz.results18, go_sem]; simp [go_sem, cE]; done); (case hlow => repeat' (first|with_reducible (first|exact lowRefl _|apply lowSet|apply lowDrew|apply lowDrewN|apply lowAlloc)|(with_reducible refine lowCall ?_ (by assumption))|(show (_ : Nat) ≤ _;first|(simp;done)|(simp;omega)|omega)))
set_option maxRecDepth 100000 in
theorem iOutOf_box (p : Pt) (x y z u v t n X1 Y1 X2 Y2 X3 Y3 r1 r2 r3 X Y Z : Int) (w : World) (h : SolidP [p]) (k : Rok x y z u v t) (f : FarP n) (hk : p.k = 2) (s1 : SlE p.x.a p.x.d x u X1 Y1) (s2 : SlE p.x.b p.x.e y v X2 Y2) (s3 : SlE p.x.c p.x.f z t X3 Y3) (f1 : FcE u X1 Y1 n r1) (f2 : FcE v X2 Y2 n r2) (f3 : FcE t X3 Y3 n r3) (o : OtE r1 r2 r3 X Y Z) :
    Calls Tryz.prog 18 #[p.val, .agg #[.int .i64 (x), .int .i64 (y), .int .i64 (z), .int .i64 (u), .int .i64 (v), .int .i64 (t)], .int .i64 n] w fun e w' => e = .returned (.agg #[.int .i64 (X), .int .i64 (Y), .int .i64 (Z)]) ∧ Below w.heap.size w w' := by
  have HS : Hid (∀ v w, PIn w v [p] → Calls Tryz.prog 38 #[v] w fun e w' => e = .returned (.bool true) ∧ Below w.heap.size w w') := Lib.hid fun v w hl => by have := iSolidOk_any [p] v w hl (by simp); rwa [dec_yes h] at this
  have HR := Lib.hid k
  have HC := Lib.hid (fun w => iboxOut_any p.x.a p.x.b p.x.c p.x.d p.x.e p.x.f x y z u v t X1 Y1 X2 Y2 X3 Y3 n r1 r2 r3 X Y Z w ((solidOne h).2.2.2 hk).1 k s1 s2 s3 f1 f2 f3 o)
  obtain ⟨g1, g2⟩ := f
  clear h k s1 s2 s3 f1 f2 f3 o
  go_enter Tryz.func18, Tryz.ntmps18
  go_upto_region 1 with fail
  refine (fun (k : ∀ wm, Has wm w.heap.size p.arr 49 → Has wm (w.heap.size + 1) #[.int .i64 (x), .int .i64 (y), .int .i64 (z), .int .i64 (u), .int .i64 (v), .int .i64 (t)] 52 → Has wm (w.heap.size + 1 + 1) #[.int .i64 0, .int .i64 0, .int .i64 0] 38 → Below w.heap.size w wm → Code.wp _ _ _ _ wm) => k _ ?_ ?_ ?_ ?_) ?_
  · (refine Has.as (by repeat' (first|with_reducible (first|assumption|apply J0|apply J1|apply J2|apply J3|apply J4|apply J5|apply J6|apply J7|apply J8|apply J9)|(with_reducible show _ ≠ _;first|omega|(simp;done)))) ?_; first | (with_reducible rfl) | (simp only [List.setIfInBounds_toArray, List.set_cons_zero, List.set_cons_succ]; first | done | rfl) | rfl | (simp; done))
  · (refine Has.as (by repeat' (first|with_reducible (first|assumption|apply J0|apply J1|apply J2|apply J3|apply J4|apply J5|apply J6|apply J7|apply J8|apply J9)|(with_reducible show _ ≠ _;first|omega|(simp;done)))) ?_; first | (with_reducible rfl) | (simp only [List.setIfInBounds_toArray, List.set_cons_zero, List.set_cons_succ]; first | done | rfl) | rfl | (simp; done))
  · (refine Has.as (by repeat' (first|with_reducible (first|assumption|apply J0|apply J1|apply J2|apply J3|apply J4|apply J5|apply J6|apply J7|apply J8|apply J9)|(with_reducible show _ ≠ _;first|omega|(simp;done)))) ?_; first | (with_reducible rfl) | (simp only [List.setIfInBounds_toArray, List.set_cons_zero, List.set_cons_succ]; first | done | rfl) | rfl | (simp; done))
  · repeat' (first|with_reducible (first|exact lowRefl _|apply lowSet|apply lowDrew|apply lowDrewN|apply lowAlloc)|(with_reducible refine lowCall ?_ (by assumption))|(show (_ : Nat) ≤ _;first|(simp;done)|(simp;omega)|omega))
  intro wm B0 B1 B2 hL
  have P0 := ptLoad p B0
  have C0 := Jc B0
  have C1 := Jc B1
  have C2 := Jc B2
  have F2 := Jf B2
  go_wp2_with (first | (go_at_call 38; (with_reducible refine (HS.out _ _ (pinOne (Has.new _ _ _))).mono ?_); rintro e w' ⟨rfl, hbq⟩; (try (have B0 := Jb (b := w.heap.size) (by repeat' (first|with_reducible (first|assumption|apply J0|apply J1|apply J2|apply J3|apply J4|apply J5|apply J6|apply J7|apply J8|apply J9)|(with_reducible show _ ≠ _;first|omega|(simp;done)))) hbq; have C0 := Jc B0; have F0 := Jf B0)); (try (have B1 := Jb (b := w.heap.size + 1) (by repeat' (first|with_reducible (first|assumption|apply J0|apply J1|apply J2|apply J3|apply J4|apply J5|apply J6|apply J7|apply J8|apply J9)|(with_reducible show _ ≠ _;first|omega|(simp;done)))) hbq; have C1 := Jc B1; have F1 := Jf B1)); (try (have B2 := Jb (b := w.heap.size + 1 + 1) (by repeat' (first|with_reducible (first|assumption|apply J0|apply J1|apply J2|apply J3|apply J4|apply J5|apply J6|apply J7|apply J8|apply J9)|(with_reducible show _ ≠ _;first|omega|(simp;done)))) hbq; have C2 := Jc B2; have F2 := Jf B2)); (try have P0 := ptLoad p B0)) | (go_at_call 40; (with_reducible refine (irayOk_yes _ _ _ _ _ _ _ HR.out).mono ?_); rintro e w' ⟨rfl, hbq⟩; (try (have B0 := Jb (b := w.heap.size) (by repeat' (first|with_reducible (first|assumption|apply J0|apply J1|apply J2|apply J3|apply J4|apply J5|apply J6|apply J7|apply J8|apply J9)|(with_reducible show _ ≠ _;first|omega|(simp;done)))) hbq; have C0 := Jc B0; have F0 := Jf B0)); (try (have B1 := Jb (b := w.heap.size + 1) (by repeat' (first|with_reducible (first|assumption|apply J0|apply J1|apply J2|apply J3|apply J4|apply J5|apply J6|apply J7|apply J8|apply J9)|(with_reducible show _ ≠ _;first|omega|(simp;done)))) hbq; have C1 := Jc B1; have F1 := Jf B1)); (try (have B2 := Jb (b := w.heap.size + 1 + 1) (by repeat' (first|with_reducible (first|assumption|apply J0|apply J1|apply J2|apply J3|apply J4|apply J5|apply J6|apply J7|apply J8|apply J9)|(with_reducible show _ ≠ _;first|omega|(simp;done)))) hbq; have C2 := Jc B2; have F2 := Jf B2)); (try have P0 := ptLoad p B0)) | (go_at_call 79; ((with_reducible refine (within_yes _ _ _ _ (by omega) (by omega)).mono ?_); rintro e w' ⟨rfl, rfl⟩)) | (go_at_call 81; (with_reducible refine (HC.out _).mono ?_); rintro e w' ⟨rfl, hbq⟩; (try (have B0 := Jb (b := w.heap.size) (by repeat' (first|with_reducible (first|assumption|apply J0|apply J1|apply J2|apply J3|apply J4|apply J5|apply J6|apply J7|apply J8|apply J9)|(with_reducible show _ ≠ _;first|omega|(simp;done)))) hbq; have C0 := Jc B0; have F0 := Jf B0)); (try (have B1 := Jb (b := w.heap.size + 1) (by repeat' (first|with_reducible (first|assumption|apply J0|apply J1|apply J2|apply J3|apply J4|apply J5|apply J6|apply J7|apply J8|apply J9)|(with_reducible show _ ≠ _;first|omega|(simp;done)))) hbq; have C1 := Jc B1; have F1 := Jf B1)); (try (have B2 := Jb (b := w.heap.size + 1 + 1) (by repeat' (first|with_reducible (first|assumption|apply J0|apply J1|apply J2|apply J3|apply J4|apply J5|apply J6|apply J7|apply J8|apply J9)|(with_reducible show _ ≠ _;first|omega|(simp;done)))) hbq; have C2 := Jc B2; have F2 := Jf B2)); (try have P0 := ptLoad p B0)))
  refine bodyPost_has (b := w.heap.size + 1 + 1) (T := 38) ?hB (fun wE hE => ?hres) rfl ⟨rfl, ?hlow⟩; (case hB => (refine Has.as (by repeat' (first|with_reducible (first|assumption|apply J0|apply J1|apply J2|apply J3|apply J4|apply J5|apply J6|apply J7|apply J8|apply J9)|(with_reducible show _ ≠ _;first|omega|(simp;done)))) ?_; first | (with_reducible rfl) | (simp only [List.setIfInBounds_toArray, List.set_cons_zero, List.set_cons_succ]; first | done | rfl) | rfl | (simp; done))); (case hres => have cE := Jc hE; simp only [results, Tryz.results18, go_sem]; simp [go_sem, cE]; done); (case hlow => repeat' (first|with_reducible (first|exact lowRefl _|apply lowSet|apply lowDrew|apply lowDrewN|apply lowAlloc)|(with_reducible refine lowCall ?_ (by assumption))|(show (_ : Nat) ≤ _;first|(simp;done)|(simp;omega)|omega)))
theorem iOutOf_yes (p : Pt) (x y z u v t n X Y Z : Int) (w : World) (h : OutOk p x y z u v t n) (e : OutV p x y z u v t n X Y Z) :
    Calls Tryz.prog 18 #[p.val, .agg #[.int .i64 (x), .int .i64 (y), .int .i64 (z), .int .i64 (u), .int .i64 (v), .int .i64 (t)], .int .i64 n] w fun e w' => e = .returned (.agg #[.int .i64 (X), .int .i64 (Y), .int .i64 (Z)]) ∧ Below w.heap.size w w' := by
  obtain ⟨h1, h2, h3⟩ := h
  rcases e with ⟨hk, rfl, rfl, rfl⟩ | ⟨hk, hn, rfl, rfl, rfl⟩ | ⟨hk, hn, m, a, b, c, e, f, g, i, j, k, s1, s2, s3, E⟩ | ⟨hk, X1, Y1, X2, Y2, X3, Y3, r1, r2, r3, s1, s2, s3, f1, f2, f3, o⟩
  · exact iOutOf_half _ _ _ _ _ _ _ _ _ h1 h2 h3 hk
  · exact iOutOf_ball0 _ _ _ _ _ _ _ _ _ h1 h2 h3 hk hn
  · exact iOutOf_ball _ _ _ _ _ _ _ _ _ _ _ _ _ _ _ _ _ _ _ _ _ _ _ _ _ h1 h2 h3 hk hn E
  · exact iOutOf_box _ _ _ _ _ _ _ _ _ _ _ _ _ _ _ _ _ _ _ _ _ h1 h2 h3 hk s1 s2 s3 f1 f2 f3 o
theorem iOutOf_no (p : Pt) (x y z u v t n : Int) (w : World) (h : ¬ OutOk p x y z u v t n) :
    Calls Tryz.prog 18 #[p.val, .agg #[.int .i64 (x), .int .i64 (y), .int .i64 (z), .int .i64 (u), .int .i64 (v), .int .i64 (t)], .int .i64 n] w fun e w' => e = .returned (.agg #[.int .i64 (0), .int .i64 (0), .int .i64 (0)]) ∧ Below w.heap.size w w' := by
  by_cases h1 : SolidP [p]
  · by_cases h2 : Rok x y z u v t
    · exact iOutOf_no3 _ _ _ _ _ _ _ _ _ h1 h2 fun h3 => h ⟨h1, h2, h3⟩
    · exact iOutOf_no2 _ _ _ _ _ _ _ _ _ h1 h2
  · exact iOutOf_no1 _ _ _ _ _ _ _ _ _ h1
end Go.Proofs.YtegibpepdndocabGreat
