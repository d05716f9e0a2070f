import Derived.Test.YtegibpepdndocabGreatBox6b
import Derived.Test.YtegibpepdndocabGreatPrtAb
import Derived.Test.YtegibpepdndocabGreatRayNb
import Derived.Test.YtegibpepdndocabGreatRayOb
import Derived.Test.YtegibpepdndocabGreatRootb
section
namespace Go.Proofs.YtegibpepdndocabGreat
open Has renaming new → J0, new1 → J1, new2 → J2, new3 → J3, new4 → J4, drew → J5, drewN → J6, alloc → J7, same → J8, other → J9, cell → Jc, frozen → Jf, below → Jb
open Go.ChangeShapes Go.WideShapes Go.ChangeAt Go.RowKit
set_option linter.unusedSimpArgs false
set_option linter.unusedVariables false
set_option maxHeartbeats 1000000

attribute [local go_sem] VGo_value VGo_skip VGo_enter
attribute [local go_sem] Pt.arr0 Pt.arr1 Pt.arr2 Pt.arr3 Pt.arr4 Pt.arr5 Pt.arr6 Pt.arr7 Pt.arr8 Pt.arr9 Pt.arr10 Pt.arr11 Pt.arr12 Pt.arr13 Pt.arr14 Pt.arr15 Pt.arr16 Pt.arr17 Pt.arr18 Pt.arr19 Pt.arr20 Pt.arr21 Pt.arr22 Pt.arr23 Pt.arr24 Pt.arr25 Pt.arr26
attribute [-go_sem] loadVar storeVar
attribute [local go_sem] lvA svA lvVec lvHalf lvBall lvBox lvMot
attribute [local go_sem high] ptLoadNew ptStoreNew ptZeroV
/- what stands behind a motion, in plain words -/
abbrev Mo.ok (m : Mo) : Prop := Mok m.a m.b m.c m.p m.q m.r
def hAt (m : Mo) (s : Qd) : Qd := ⟨tu m.a m.k s.f s.t s.i, tu m.b m.l s.f s.t s.i, tu m.c m.n s.f s.t s.i, s.o + dot3 (tu m.a m.k s.f s.t s.i) (tu m.b m.l s.f s.t s.i) (tu m.c m.n s.f s.t s.i) m.p m.q m.r⟩
def bAt (m : Mo) (s : Qd) : Qd := ⟨tu m.a m.k s.f s.t s.i + m.p, tu m.b m.l s.f s.t s.i + m.q, tu m.c m.n s.f s.t s.i + m.r, s.o⟩
def xAt (m : Mo) (s : Sx) : Sx :=
  ⟨min (tu m.a m.k s.a s.b s.c + m.p) (tu m.a m.k s.d s.e s.f + m.p), min (tu m.b m.l s.a s.b s.c + m.q) (tu m.b m.l s.d s.e s.f + m.q), min (tu m.c m.n s.a s.b s.c + m.r) (tu m.c m.n s.d s.e s.f + m.r),
   max (tu m.a m.k s.a s.b s.c + m.p) (tu m.a m.k s.d s.e s.f + m.p), max (tu m.b m.l s.a s.b s.c + m.q) (tu m.b m.l s.d s.e s.f + m.q), max (tu m.c m.n s.a s.b s.c + m.r) (tu m.c m.n s.d s.e s.f + m.r)⟩
def leafAt (m : Mo) (p : Pt) : Pt :=
  if p.k = 0 then { p with h := hAt m p.h } else if p.k = 1 then { p with b := bAt m p.b } else if p.k = 2 then { p with x := xAt m p.x } else p
theorem xAt_ok (m : Mo) (s : Sx) (hm : m.ok) (hs : s.near) : (xAt m s).ok := by
  have e1 := tu3_vok (p := m.a) (q := m.b) (r := m.c) (k := m.k) (l := m.l) (n := m.n) hs.1
  have e2 := tu3_vok (p := m.a) (q := m.b) (r := m.c) (k := m.k) (l := m.l) (n := m.n) hs.2
  have e3 := hm.2
  show Xok _ _ _ _ _ _
  unfold xAt
  generalize tu m.a m.k s.a s.b s.c = X1 at *
  generalize tu m.b m.l s.a s.b s.c = X2 at *
  generalize tu m.c m.n s.a s.b s.c = X3 at *
  generalize tu m.a m.k s.d s.e s.f = Y1 at *
  generalize tu m.b m.l s.d s.e s.f = Y2 at *
  generalize tu m.c m.n s.d s.e s.f = Y3 at *
  unfold Xok Le3 Vok at *
  simp only
  omega
theorem iBoxMovedV (m : Mo) (s : Sx) (w : World) (hm : m.ok) (hs : s.ok) (hn : s.near) : Calls Tryz.prog 225 #[m.val, s.val] w fun e w' => e = .returned ((xAt m s).val) ∧ Below w.heap.size w w' :=
  iboxMoved_yes m.a m.b m.c m.k m.l m.n m.p m.q m.r s.a s.b s.c s.d s.e s.f _ _ _ _ _ _ _ _ _ _ _ _ w hm hs ⟨⟨rfl, rfl, rfl⟩, ⟨rfl, rfl, rfl⟩, ⟨rfl, rfl, rfl⟩, ⟨rfl, rfl, rfl⟩⟩ (xAt_ok m s hm hn)
theorem hmEV (m : Mo) (s : Qd) (hm : m.ok) (hs : s.hok) : HmE m.a m.b m.c m.k m.l m.n m.p m.q m.r s.f s.t s.i s.o (hAt m s).f (hAt m s).t (hAt m s).i (dot3 (hAt m s).f (hAt m s).t (hAt m s).i m.p m.q m.r) (hAt m s).o := by
  have e : TuE m.a m.b m.c m.k m.l m.n s.f s.t s.i _ _ _ := ⟨rfl, rfl, rfl⟩
  have := dot3bb _ _ _ _ _ _ 20 400 (tuE_vok e hs.1) hm.2
  exact ⟨e, rfl, rfl, by show -24000 ≤ dot3 (tu _ _ _ _ _) (tu _ _ _ _ _) (tu _ _ _ _ _) _ _ _; omega, by show dot3 (tu _ _ _ _ _) (tu _ _ _ _ _) (tu _ _ _ _ _) _ _ _ ≤ 24000; omega⟩
/- what the program makes of it: nothing where it is beyond the limits -/
noncomputable def hAtI (m : Mo) (s : Qd) : Qd := @ite _ (hAt m s).hok (Classical.propDecidable _) (hAt m s) ⟨0, 0, 0, 0⟩
noncomputable def bAtI (m : Mo) (s : Qd) : Qd := @ite _ (bAt m s).bok (Classical.propDecidable _) (bAt m s) ⟨0, 0, 0, 0⟩
theorem iHalfMovedV (m : Mo) (s : Qd) (w : World) (hm : m.ok) (hs : s.hok) : Calls Tryz.prog 223 #[m.val, s.val] w fun e w' => e = .returned ((hAtI m s).val) ∧ Below w.heap.size w w' := by
  by_cases h : (hAt m s).hok
  · rw [show hAtI m s = hAt m s from if_pos h]
    exact iHalfMoved_yes _ _ _ _ _ _ _ _ _ _ _ _ _ _ _ _ _ _ w hm hs (hmEV m s hm hs) h
  · rw [show hAtI m s = ⟨0, 0, 0, 0⟩ from if_neg h]
    exact iHalfMoved_far _ _ _ _ _ _ _ _ _ _ _ _ _ _ _ _ _ _ w hm hs (hmEV m s hm hs) h
theorem iBallMovedV (m : Mo) (s : Qd) (w : World) (hm : m.ok) (hs : s.bok) : Calls Tryz.prog 224 #[m.val, s.val] w fun e w' => e = .returned ((bAtI m s).val) ∧ Below w.heap.size w w' := by
  by_cases h : (bAt m s).bok
  · rw [show bAtI m s = bAt m s from if_pos h]
    exact iBallMoved_yes _ _ _ _ _ _ _ _ _ _ _ _ _ _ _ _ w hm hs ⟨rfl, rfl, rfl⟩ h
  · rw [show bAtI m s = ⟨0, 0, 0, 0⟩ from if_neg h]
    exact iBallMoved_far _ _ _ _ _ _ _ _ _ _ _ _ _ _ _ _ w hm hs ⟨rfl, rfl, rfl⟩ h
theorem still_any (w : World) : Calls Tryz.prog 160 #[] w fun e w' => e = .returned (.agg #[.int .i64 (0), .int .i64 (1), .int .i64 (2), .bool (false), .bool (false), .bool (false), .int .i64 (0), .int .i64 (0), .int .i64 (0)]) ∧ Below w.heap.size w w' := by
  go_enter Tryz.func160, Tryz.ntmps160
  go_wp2
  refine bodyPost_ret (v := .agg #[.int .i64 (0), .int .i64 (1), .int .i64 (2), .bool (false), .bool (false), .bool (false), .int .i64 (0), .int .i64 (0), .int .i64 (0)]) (by simp [results, Tryz.results160, go_sem]) rfl ⟨rfl, ?_⟩; (repeat' (first|with_reducible (first|exact lowRefl _|apply lowSet|apply lowDrew|apply lowDrewN|apply lowAlloc)|(with_reducible refine lowCall ?_ (by assumption))|(show (_ : Nat) ≤ _;first|(simp;done)|(simp;omega)|omega)))
theorem leafMoved_half (m : Mo) (p : Pt) (w : World) (hm : m.ok) (h : p.k = 0) (hs : p.h.hok) : Calls Tryz.prog 164 #[m.val, p.val] w fun e w' => e = .returned (Pt.val { p with h := hAtI m p.h }) ∧ Below w.heap.size w w' := by
  have HM := Lib.hid hm
  have HS := Lib.hid hs
  clear hm hs
  go_enter Tryz.func164, Tryz.ntmps164
  go_upto_region 8 with ((go_at_call 223; ((with_reducible refine (iHalfMovedV _ _ _ HM.out HS.out).mono ?_); rintro e w' ⟨rfl, hbq⟩; (try (have B0 := Jb (b := w.heap.size) (by repeat' (first|with_reducible (first|assumption|apply J0|apply J1|apply J2|apply J3|apply J4|apply J5|apply J6|apply J7|apply J8|apply J9)|(with_reducible show _ ≠ _;first|omega|(simp;done)))) hbq; have C0 := Jc B0; have F0 := Jf B0)); (try (have B1 := Jb (b := w.heap.size + 1) (by repeat' (first|with_reducible (first|assumption|apply J0|apply J1|apply J2|apply J3|apply J4|apply J5|apply J6|apply J7|apply J8|apply J9)|(with_reducible show _ ≠ _;first|omega|(simp;done)))) hbq; have C1 := Jc B1; have F1 := Jf B1)); (try (have B2 := Jb (b := w.heap.size + 1 + 1) (by repeat' (first|with_reducible (first|assumption|apply J0|apply J1|apply J2|apply J3|apply J4|apply J5|apply J6|apply J7|apply J8|apply J9)|(with_reducible show _ ≠ _;first|omega|(simp;done)))) hbq; have C2 := Jc B2; have F2 := Jf B2)))))
  (refine (fun (k : ∀ wm, Has wm (w.heap.size + 1) (Pt.arr { p with h := hAtI m p.h }) 49 → Has wm (w.heap.size + 1 + 1) Pt.zero.arr 49 → Below w.heap.size w wm → Code.wp _ _ _ _ wm) => k _ ?_ ?_ ?_) ?_; (focus ((refine Has.as (by repeat' (first|with_reducible (first|assumption|apply J0|apply J1|apply J2|apply J3|apply J4|apply J5|apply J6|apply J7|apply J8|apply J9)|(with_reducible show _ ≠ _;first|omega|(simp;done)))) ?_; first | (with_reducible rfl) | (simp only [List.setIfInBounds_toArray, List.set_cons_zero, List.set_cons_succ]; first | done | rfl) | rfl | (simp; done)))); (focus ((refine Has.as (by repeat' (first|with_reducible (first|assumption|apply J0|apply J1|apply J2|apply J3|apply J4|apply J5|apply J6|apply J7|apply J8|apply J9)|(with_reducible show _ ≠ _;first|omega|(simp;done)))) ?_; first | (with_reducible rfl) | (simp only [List.setIfInBounds_toArray, List.set_cons_zero, List.set_cons_succ]; first | done | rfl) | rfl | (simp; done)))); (focus (repeat' (first|with_reducible (first|exact lowRefl _|apply lowSet|apply lowDrew|apply lowDrewN|apply lowAlloc)|(with_reducible refine lowCall ?_ (by assumption))|(show (_ : Nat) ≤ _;first|(simp;done)|(simp;omega)|omega)))); clear hbq B0 B1 B2 C0 C1 C2 F0 F1 F2; intro wm B1 B2 hL; have P1 := ptLoad _ B1; have S2 := fun p => ptStore p B2 rfl; go_wp2; refine bodyPost_has (b := w.heap.size + 1 + 1) (T := 49) (B2.setRow _) (fun wE hE => ?hres) rfl ⟨(by rw [h]), lowRow hL (by omega) _⟩; (case hres => have pE := ptLoad _ hE; simp [results, Tryz.results164, go_sem, pE]; done))
theorem leafMoved_ball (m : Mo) (p : Pt) (w : World) (hm : m.ok) (h : p.k = 1) (hs : p.b.bok) : Calls Tryz.prog 164 #[m.val, p.val] w fun e w' => e = .returned (Pt.val { p with b := bAtI m p.b }) ∧ Below w.heap.size w w' := by
  have HM := Lib.hid hm
  have HS := Lib.hid hs
  clear hm hs
  go_enter Tryz.func164, Tryz.ntmps164
  go_upto_region 8 with ((go_at_call 224; ((with_reducible refine (iBallMovedV _ _ _ HM.out HS.out).mono ?_); rintro e w' ⟨rfl, hbq⟩; (try (have B0 := Jb (b := w.heap.size) (by repeat' (first|with_reducible (first|assumption|apply J0|apply J1|apply J2|apply J3|apply J4|apply J5|apply J6|apply J7|apply J8|apply J9)|(with_reducible show _ ≠ _;first|omega|(simp;done)))) hbq; have C0 := Jc B0; have F0 := Jf B0)); (try (have B1 := Jb (b := w.heap.size + 1) (by repeat' (first|with_reducible (first|assumption|apply J0|apply J1|apply J2|apply J3|apply J4|apply J5|apply J6|apply J7|apply J8|apply J9)|(with_reducible show _ ≠ _;first|omega|(simp;done)))) hbq; have C1 := Jc B1; have F1 := Jf B1)); (try (have B2 := Jb (b := w.heap.size + 1 + 1) (by repeat' (first|with_reducible (first|assumption|apply J0|apply J1|apply J2|apply J3|apply J4|apply J5|apply J6|apply J7|apply J8|apply J9)|(with_reducible show _ ≠ _;first|omega|(simp;done)))) hbq; have C2 := Jc B2; have F2 := Jf B2)))))
  (refine (fun (k : ∀ wm, Has wm (w.heap.size + 1) (Pt.arr { p with b := bAtI m p.b }) 49 → Has wm (w.heap.size + 1 + 1) Pt.zero.arr 49 → Below w.heap.size w wm → Code.wp _ _ _ _ wm) => k _ ?_ ?_ ?_) ?_; (focus ((refine Has.as (by repeat' (first|with_reducible (first|assumption|apply J0|apply J1|apply J2|apply J3|apply J4|apply J5|apply J6|apply J7|apply J8|apply J9)|(with_reducible show _ ≠ _;first|omega|(simp;done)))) ?_; first | (with_reducible rfl) | (simp only [List.setIfInBounds_toArray, List.set_cons_zero, List.set_cons_succ]; first | done | rfl) | rfl | (simp; done)))); (focus ((refine Has.as (by repeat' (first|with_reducible (first|assumption|apply J0|apply J1|apply J2|apply J3|apply J4|apply J5|apply J6|apply J7|apply J8|apply J9)|(with_reducible show _ ≠ _;first|omega|(simp;done)))) ?_; first | (with_reducible rfl) | (simp only [List.setIfInBounds_toArray, List.set_cons_zero, List.set_cons_succ]; first | done | rfl) | rfl | (simp; done)))); (focus (repeat' (first|with_reducible (first|exact lowRefl _|apply lowSet|apply lowDrew|apply lowDrewN|apply lowAlloc)|(with_reducible refine lowCall ?_ (by assumption))|(show (_ : Nat) ≤ _;first|(simp;done)|(simp;omega)|omega)))); clear hbq B0 B1 B2 C0 C1 C2 F0 F1 F2; intro wm B1 B2 hL; have P1 := ptLoad _ B1; have S2 := fun p => ptStore p B2 rfl; go_wp2; refine bodyPost_has (b := w.heap.size + 1 + 1) (T := 49) (B2.setRow _) (fun wE hE => ?hres) rfl ⟨(by rw [h]), lowRow hL (by omega) _⟩; (case hres => have pE := ptLoad _ hE; simp [results, Tryz.results164, go_sem, pE]; done))
theorem leafMoved_box (m : Mo) (p : Pt) (w : World) (hm : m.ok) (h : p.k = 2) (hs : p.x.ok) (hn : p.x.near) : Calls Tryz.prog 164 #[m.val, p.val] w fun e w' => e = .returned (Pt.val { p with x := xAt m p.x }) ∧ Below w.heap.size w w' := by
  have HM := Lib.hid hm
  have HS := Lib.hid hs
  have HN := Lib.hid hn
  clear hm hs hn
  go_enter Tryz.func164, Tryz.ntmps164
  go_upto_region 8 with ((go_at_call 225; ((with_reducible refine (iBoxMovedV _ _ _ HM.out HS.out HN.out).mono ?_); rintro e w' ⟨rfl, hbq⟩; (try (have B0 := Jb (b := w.heap.size) (by repeat' (first|with_reducible (first|assumption|apply J0|apply J1|apply J2|apply J3|apply J4|apply J5|apply J6|apply J7|apply J8|apply J9)|(with_reducible show _ ≠ _;first|omega|(simp;done)))) hbq; have C0 := Jc B0; have F0 := Jf B0)); (try (have B1 := Jb (b := w.heap.size + 1) (by repeat' (first|with_reducible (first|assumption|apply J0|apply J1|apply J2|apply J3|apply J4|apply J5|apply J6|apply J7|apply J8|apply J9)|(with_reducible show _ ≠ _;first|omega|(simp;done)))) hbq; have C1 := Jc B1; have F1 := Jf B1)); (try (have B2 := Jb (b := w.heap.size + 1 + 1) (by repeat' (first|with_reducible (first|assumption|apply J0|apply J1|apply J2|apply J3|apply J4|apply J5|apply J6|apply J7|apply J8|apply J9)|(with_reducible show _ ≠ _;first|omega|(simp;done)))) hbq; have C2 := Jc B2; have F2 := Jf B2)))))
  (refine (fun (k : ∀ wm, Has wm (w.heap.size + 1) (Pt.arr { p with x := xAt m p.x }) 49 → Has wm (w.heap.size + 1 + 1) Pt.zero.arr 49 → Below w.heap.size w wm → Code.wp _ _ _ _ wm) => k _ ?_ ?_ ?_) ?_; (focus ((refine Has.as (by repeat' (first|with_reducible (first|assumption|apply J0|apply J1|apply J2|apply J3|apply J4|apply J5|apply J6|apply J7|apply J8|apply J9)|(with_reducible show _ ≠ _;first|omega|(simp;done)))) ?_; first | (with_reducible rfl) | (simp only [List.setIfInBounds_toArray, List.set_cons_zero, List.set_cons_succ]; first | done | rfl) | rfl | (simp; done)))); (focus ((refine Has.as (by repeat' (first|with_reducible (first|assumption|apply J0|apply J1|apply J2|apply J3|apply J4|apply J5|apply J6|apply J7|apply J8|apply J9)|(with_reducible show _ ≠ _;first|omega|(simp;done)))) ?_; first | (with_reducible rfl) | (simp only [List.setIfInBounds_toArray, List.set_cons_zero, List.set_cons_succ]; first | done | rfl) | rfl | (simp; done)))); (focus (repeat' (first|with_reducible (first|exact lowRefl _|apply lowSet|apply lowDrew|apply lowDrewN|apply lowAlloc)|(with_reducible refine lowCall ?_ (by assumption))|(show (_ : Nat) ≤ _;first|(simp;done)|(simp;omega)|omega)))); clear hbq B0 B1 B2 C0 C1 C2 F0 F1 F2; intro wm B1 B2 hL; have P1 := ptLoad _ B1; have S2 := fun p => ptStore p B2 rfl; go_wp2; refine bodyPost_has (b := w.heap.size + 1 + 1) (T := 49) (B2.setRow _) (fun wE hE => ?hres) rfl ⟨(by rw [h]), lowRow hL (by omega) _⟩; (case hres => have pE := ptLoad _ hE; simp [results, Tryz.results164, go_sem, pE]; done))
/- what the program makes of a leaf behind a motion -/
noncomputable def leafAtI (m : Mo) (p : Pt) : Pt :=
  if p.k = 0 then { p with h := hAtI m p.h } else if p.k = 1 then { p with b := bAtI m p.b } else { p with x := xAt m p.x }
theorem leafMoved_any (m : Mo) (p : Pt) (w : World) (hm : m.ok) (h : 0 ≤ p.k ∧ p.k ≤ 2) (hl : LeafP p) : Calls Tryz.prog 164 #[m.val, p.val] w fun e w' => e = .returned (Pt.val (leafAtI m p)) ∧ Below w.heap.size w w' := by
  unfold leafAtI
  obtain h0 | h1 | h2 : p.k = 0 ∨ p.k = 1 ∨ p.k = 2 := by omega
  · rw [if_pos h0]; exact leafMoved_half m p w hm h0 (hl.1 h0)
  · rw [if_neg (by omega), if_pos h1]; exact leafMoved_ball m p w hm h1 (hl.2.1 h1)
  · rw [if_neg (by omega), if_neg (by omega)]; exact leafMoved_box m p w hm h2 (hl.2.2 h2).1 (hl.2.2 h2).2
theorem zero_hok : ¬ (⟨0, 0, 0, 0⟩ : Qd).hok := by unfold Qd.hok Hok; simp
theorem zero_bok : ¬ (⟨0, 0, 0, 0⟩ : Qd).bok := by unfold Qd.bok Bok; simp
/- it is within the limits just if the leaf behind the motion is, and then it is that -/
theorem leafAtI_ok (m : Mo) (p : Pt) : LeafP (leafAtI m p) ↔ LeafP (leafAt m p) := by
  unfold leafAtI leafAt
  by_cases h0 : p.k = 0
  · rw [if_pos h0, if_pos h0]
    unfold LeafP hAtI
    by_cases h : (hAt m p.h).hok
    · rw [if_pos h]
    · rw [if_neg h]
      exact ⟨fun k => absurd (k.1 h0) zero_hok, fun k => absurd (k.1 h0) h⟩
  · rw [if_neg h0, if_neg h0]
    by_cases h1 : p.k = 1
    · rw [if_pos h1, if_pos h1]
      unfold LeafP bAtI
      by_cases h : (bAt m p.b).bok
      · rw [if_pos h]
      · rw [if_neg h]
        exact ⟨fun k => absurd (k.2.1 h1) zero_bok, fun k => absurd (k.2.1 h1) h⟩
    · rw [if_neg h1, if_neg h1]
      by_cases h2 : p.k = 2
      · rw [if_pos h2]
      · rw [if_neg h2]
        unfold LeafP
        exact ⟨fun k => ⟨fun j => absurd j h0, fun j => absurd j h1, fun j => absurd j h2⟩, fun k => ⟨fun j => absurd j h0, fun j => absurd j h1, fun j => absurd j h2⟩⟩
theorem leafAtI_eq (m : Mo) (p : Pt) (hk : p.k ≤ 2) (h0 : 0 ≤ p.k) (h : LeafP (leafAt m p)) : leafAtI m p = leafAt m p := by
  unfold leafAtI
  unfold leafAt at h ⊢
  by_cases h0 : p.k = 0
  · rw [if_pos h0] at h ⊢
    rw [if_pos h0]
    unfold hAtI
    rw [if_pos (h.1 h0)]
  · rw [if_neg h0] at h ⊢
    rw [if_neg h0]
    by_cases h1 : p.k = 1
    · rw [if_pos h1] at h ⊢
      rw [if_pos h1]
      unfold bAtI
      rw [if_pos (h.2.1 h1)]
    · rw [if_neg h1, if_neg h1, if_pos (by omega)]
end Go.Proofs.YtegibpepdndocabGreat
end
section
namespace Go.Proofs.YtegibpepdndocabGreat
open Go.ChangeShapes Go.WideShapes Go.ChangeAt Go.RowKit
set_option linter.unusedSimpArgs false
set_option linter.unusedVariables false

/- trees of parts, in plain words -/
def made (p : Pt) : List Int := if 3 ≤ p.k ∧ p.k ≤ 5 then [p.A, p.B] else if p.k = 6 then [p.A] else []
theorem made_two (p : Pt) (h1 : 3 ≤ p.k) (h2 : p.k ≤ 5) : made p = [p.A, p.B] := by unfold made; rw [if_pos ⟨h1, h2⟩]
theorem made_one (p : Pt) (h : p.k = 6) : made p = [p.A] := by unfold made; rw [if_neg (by omega), if_pos h]
theorem made_none (p : Pt) (h : p.k < 3 ∨ 6 < p.k) : made p = [] := by unfold made; rw [if_neg (by omega), if_neg (by omega)]
/- what is used so far: a bool for each index -/
def mrk (U : Nat → Bool) (k : Int) : Nat → Bool := fun x => U x || decide ((x : Int) = k)
def mrks (U : Nat → Bool) (ks : List Int) : Nat → Bool := ks.foldl mrk U
/- whether what part i is made of is ahead of it and not used yet -/
def Lks (U : Nat → Bool) (i : Nat) : List Int → Prop
  | [] => True
  | k :: ks => (0 ≤ k ∧ k < i) ∧ U k.toNat = false ∧ Lks (mrk U k) i ks
def usd (l : List Pt) : Nat → Nat → Bool
  | 0 => fun _ => false
  | j + 1 => match l[j]? with
    | some p => mrks (usd l j) (made p)
    | none => usd l j
theorem usd_succ (l : List Pt) (j : Nat) (h : j < l.length) : usd l (j + 1) = mrks (usd l j) (made l[j]) := by
  simp only [usd, List.getElem?_eq_getElem h]
def Good (l : List Pt) (i : Nat) : Prop := ∀ h : i < l.length, PtP l[i] ∧ Lks (usd l i) i (made l[i])
def Form (l : List Pt) : Prop := (1 ≤ l.length ∧ l.length ≤ 24) ∧ (∀ i, i < l.length → Good l i) ∧ ∀ x, x + 1 < l.length → usd l l.length x = true
/- a row of bools -/
def cellsB (n : Nat) (U : Nat → Bool) : Array Value := ((List.range n).map fun x => Value.bool (U x)).toArray
theorem cellsB_get (n : Nat) (U : Nat → Bool) (x : Nat) (h : x < n) : (cellsB n U)[x]? = some (.bool (U x)) := by simp [cellsB, h]
theorem cellsB_set (n : Nat) (U : Nat → Bool) (x : Nat) (k : Int) (hk : (x : Int) = k) : (cellsB n U).setIfInBounds x (.bool true) = cellsB n (mrk U k) := by
  subst hk
  apply Array.ext'
  apply List.ext_getElem?
  intro i
  simp only [cellsB, List.setIfInBounds_toArray, List.getElem?_set, List.length_map, List.length_range, List.getElem?_map, List.getElem?_range]
  by_cases h : x = i
  · subst h
    by_cases hn : x < n <;> simp [hn, mrk]
  · by_cases hn : i < n
    · simp [h, hn, mrk, show ¬ ((i : Int) = x) by omega]
    · simp [h, hn]
/- a row of integers of its own -/
def kints (ks : List Int) : Array Value := (ks.map (Value.int .i64)).toArray
def KIn (w : World) (B : Nat) (v : Value) (ks : List Int) : Prop := ∃ A c, v = .slice A ks.length c ∧ (0 < ks.length → ∃ g, A = some ⟨g, 0, none⟩ ∧ Has w g (kints ks) 3 ∧ B ≤ g)
theorem madeOf_any (p : Pt) (w : World) (h : 0 ≤ p.k ∧ p.k ≤ 6) : Calls Tryz.prog 163 #[p.val] w fun e w' => ∃ v, e = .returned v ∧ KIn w' w.heap.size v (made p) ∧ Below w.heap.size w w' := by
  by_cases h3 : p.k < 3
  · rw [made_none p (.inl h3)]
    exact (madeOf_none p w (.inl h3)).mono fun e w' ⟨he, hb⟩ => ⟨_, he, ⟨none, 0, rfl, fun h => by simp at h⟩, hb⟩
  · by_cases h5 : p.k ≤ 5
    · rw [made_two p (by omega) h5]
      exact (madeOf_two p w (by omega) h5).mono fun e w' ⟨g, he, hB, hg, hb⟩ => ⟨_, he, ⟨_, 2, rfl, fun _ => ⟨g, rfl, hB, hg⟩⟩, hb⟩
    · rw [made_one p (by omega)]
      exact (madeOf_one p w (by omega)).mono fun e w' ⟨g, he, hB, hg, hb⟩ => ⟨_, he, ⟨_, 1, rfl, fun _ => ⟨g, rfl, hB, hg⟩⟩, hb⟩
theorem made_len (p : Pt) : (made p).length ≤ 2 := by unfold made; split; simp; split <;> simp
theorem kints_get (ks : List Int) (t : Nat) (h : t < ks.length) : (kints ks)[t]? = some (.int .i64 ks[t]) := by simp [kints, h]
theorem mrks_take (U : Nat → Bool) (ks : List Int) (t : Nat) (h : t < ks.length) : mrks U (ks.take (t + 1)) = mrk (mrks U (ks.take t)) ks[t] := by
  unfold mrks; rw [List.take_succ_eq_append_getElem h, List.foldl_append]; rfl
end Go.Proofs.YtegibpepdndocabGreat
end
section
namespace Go.Proofs.YtegibpepdndocabGreat
open Go.ChangeShapes Go.WideShapes Go.ChangeAt Go.RowKit

/- an element of a row whose cells are written one after another: M are the values, c of them are written -/
def Mk (w : World) (B : Nat) (T : TypeId) (C : Nat) (v : Value) (L : List (List Value)) (j : Nat) (M : List Value) (c : Nat) : Prop :=
  ∃ cs : List Value, cs.length = C ∧ cs.take c = M.take c ∧ RowK w B T C v (L.set j cs)
theorem Mk.step {w : World} {B C j g n cap c : Nat} {T : TypeId} {L : List (List Value)} {M : List Value} (h : Mk w B T C (.slice (some ⟨g, 0, none⟩) n cap) L j M c) (hn : n = L.length) (hj : j < L.length) (hc : c < C) (u : Value) (hu : M[c]? = some u) :
    Mk (w.setCell ⟨g, j * C + c, none⟩ u) B T C (.slice (some ⟨g, 0, none⟩) n cap) L j M (c + 1) ∧ w.grownBy (w.setCell ⟨g, j * C + c, none⟩ u) (some g) := by
  obtain ⟨cs, hl, ht, hr⟩ := h
  obtain ⟨h1, h2⟩ := hr.store (by simpa using hn) j c (by simpa using hj) hc u
  refine ⟨⟨cs.set c u, by simpa using hl, ?_, ?_⟩, h2⟩
  · have hcl : c < cs.length := by omega
    have hcM : c < M.length := (List.getElem?_eq_some_iff.1 hu).1
    rw [List.take_succ_eq_append_getElem (by simpa using hcl), List.take_succ_eq_append_getElem hcM, List.take_set_of_le (Nat.le_refl _), ht]
    congr 1
    rw [List.getElem_set_self]
    have := (List.getElem?_eq_some_iff.1 hu).2
    rw [this]
  · have e : (L.set j cs).set j (((L.set j cs).getD j []).set c u) = L.set j (cs.set c u) := by
      rw [List.set_set, List.getD_eq_getElem?_getD, List.getElem?_set_self hj, Option.getD_some]
    rw [e] at h1
    exact h1
theorem Mk.cell {w : World} {B C j g n cap c : Nat} {T : TypeId} {L : List (List Value)} {M : List Value} (h : Mk w B T C (.slice (some ⟨g, 0, none⟩) n cap) L j M c) (hn : n = L.length) (hj : j < L.length) (d : Nat) (hd : d < C) :
    ∃ old, w.cell? ⟨g, j * C + d, none⟩ = some old := by
  obtain ⟨cs, hl, ht, hr⟩ := h
  have h1 := hr.cell (by simpa using hn) j d (by simpa using hj) hd
  rw [List.getElem_set_self] at h1
  rw [h1]
  exact ⟨cs[d]'(by omega), List.getElem?_eq_getElem _⟩
/- all cells of an element at once -/
def setAll (w : World) (g off : Nat) : Nat → List Value → World
  | _, [] => w
  | c, v :: vs => setAll (w.setCell ⟨g, off + c, none⟩ v) g off (c + 1) vs
theorem RowK.storeAll {B C g n cap : Nat} {T : TypeId} : ∀ (vs : List Value) (c : Nat) (w : World) (L : List (List Value)) (j : Nat) (cs : List Value), RowK w B T C (.slice (some ⟨g, 0, none⟩) n cap) L → n = L.length → (hj : j < L.length) → L[j] = cs → c + vs.length = C →
    RowK (setAll w g (j * C) c vs) B T C (.slice (some ⟨g, 0, none⟩) n cap) (L.set j (cs.take c ++ vs)) ∧ w.grownBy (setAll w g (j * C) c vs) (some g)
  | [], c, w, L, j, cs, hr, hn, hj, he, hC => by
    have hl := hr.each _ (List.getElem_mem hj)
    rw [he] at hl
    rw [List.append_nil, List.take_of_length_le (by simp at hC; omega), ← he, List.set_getElem_self]
    exact ⟨hr, World.grownBy.refl _ _⟩
  | v :: vs, c, w, L, j, cs, hr, hn, hj, he, hC => by
    simp only [List.length_cons] at hC
    have hl := hr.each _ (List.getElem_mem hj)
    rw [he] at hl
    obtain ⟨h1, g1⟩ := hr.store hn j c hj (by omega) v
    have e : L.set j ((L.getD j []).set c v) = L.set j (cs.set c v) := by rw [List.getD_eq_getElem?_getD, List.getElem?_eq_getElem hj, Option.getD_some, he]
    rw [e] at h1
    obtain ⟨h2, g2⟩ := RowK.storeAll vs (c + 1) _ (L.set j (cs.set c v)) j (cs.set c v) h1 (by simpa using hn) (by simpa using hj) (List.getElem_set_self _) (by omega)
    refine ⟨?_, by_trans g1 g2⟩
    have e2 : (L.set j (cs.set c v)).set j ((cs.set c v).take (c + 1) ++ vs) = L.set j (cs.take c ++ v :: vs) := by
      rw [List.set_set, List.take_succ_eq_append_getElem (by rw [List.length_set]; omega), List.take_set_of_le (Nat.le_refl _), List.getElem_set_self, List.append_assoc]
      rfl
    rw [e2] at h2
    exact h2
end Go.Proofs.YtegibpepdndocabGreat
end
