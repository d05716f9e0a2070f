import Derived.Test.YtegibpepdndocabGreatPrtb
import Derived.Test.YtegibpepdndocabGreatSpnIb
import Derived.Test.YtegibpepdndocabGreatSpnWb
namespace Go.Proofs.YtegibpepdndocabGreat
open Has renaming new → J0, new1 → J1, new2 → J2, new3 → J3, new4 → J4, drew → J5, drewN → J6, alloc → J7, same → J8, other → J9, cell → Jc, frozen → Jf, below → Jb
open Go.ChangeShapes Go.WideShapes Go.ChangeAt Go.RowKit
set_option maxHeartbeats 2000000
set_option maxRecDepth 8000
set_option linter.unusedSimpArgs false
attribute [local go_sem] VGo_value VGo_skip VGo_enter

/- what is put together, if both lists are spans -/
def spPut (op : Nat) (a b : List Sp) : List Sp := if sOk a = true ∧ sOk b = true then putS op a b else []
theorem spPut_no {op : Nat} {a b : List Sp} (h : ¬ (sOk a = true ∧ sOk b = true)) : spPut op a b = [] := by unfold spPut; rw [if_neg h]
theorem spPut_yes {op : Nat} {a b : List Sp} (h : sOk a = true ∧ sOk b = true) : spPut op a b = putS op a b := by unfold spPut; rw [if_pos h]
def pOf (w : World) (g : Nat) : Nat := match w.cell? ⟨g, 1, none⟩ with
  | some v => (intOf v).toNat
  | none => 0
theorem pOf_walk {w : World} {g p : Nat} {v : Value} {io : Bool} (h : Has w g (walkC v p io) 165) : pOf w g = p := by
  unfold pOf; rw [Jc h 1]; simp [walkC, intOf]
theorem told_le {l : List Sp} (h : l.length ≤ 200) : spTold l = l := by unfold spTold; rw [if_neg (by omega)]
theorem told_gt {l : List Sp} (h : 200 < l.length) : spTold l = [] := by unfold spTold; rw [if_pos h]
theorem wantBoth {op : Nat} (hop : op = 0 ∨ op = 2) (x y : Bool) : (x && (y != opOf op)) = spHas op x y := by
  rcases hop with rfl | rfl <;> cases x <;> cases y <;> rfl
theorem wantEither (x y : Bool) : (x || (y != opOf 1)) = spHas 1 x y := by
  cases x <;> cases y <;> rfl
theorem madeBoth_any (op : Nat) (hop : op = 0 ∨ op = 2) (a b : List Sp) (va vb : Value) (w : World) (ha : SIn w va a) (hb : SIn w vb b) (hla : a.length ≤ 9223372036854775807) (hlb : b.length ≤ 9223372036854775807) :
    Calls Tryz.prog 121 #[walkV va 0 false, walkV vb 0 (opOf op), .func (Fn.func 123) #[] #[]] w fun e w' => ∃ v', e = .returned v' ∧ SRow w' w.heap.size v' (spPut op a b) ∧ Below w.heap.size w w' := by
  have HA := Lib.hid ha
  have HB := Lib.hid hb
  clear ha hb
  have hR := Lib.hid (spPut_no (op := op) (a := a) (b := b))
  have hY := Lib.hid (spPut_yes (op := op) (a := a) (b := b))
  generalize hW : spPut op a b = R at *
  cases hka : sOk a
  · have hnil : R = [] := hR.out (by rw [hka]; simp)
    subst hnil
    go_enter Tryz.func121, Tryz.ntmps121
    have hL0 : Below w.heap.size w ((w.alloc (.cells #[va, .int .i64 0, .bool false] 165)).alloc (.cells #[vb, .int .i64 0, .bool (opOf op)] 165)) := by repeat' (first|with_reducible (first|exact lowRefl _|apply lowSet|apply lowDrew|apply lowDrewN|apply lowAlloc)|(with_reducible refine lowCall ?_ (by assumption))|(show (_ : Nat) ≤ _;first|(simp;done)|(simp;omega)|omega))
    go_wp2_with (go_at_call 43; refine (ispansOk_any a va _ (HA.out.below hL0) hla).mono ?_; rintro e w' ⟨rfl, hbq⟩; rw [hka])
    go_ret
    exact ⟨_, rfl, RowK.nil _ _ _ _, by repeat' (first|with_reducible (first|exact lowRefl _|apply lowSet|apply lowDrew|apply lowDrewN|apply lowAlloc)|(with_reducible refine lowCall ?_ (by assumption))|(show (_ : Nat) ≤ _;first|(simp;done)|(simp;omega)|omega))⟩
  cases hkb : sOk b
  · have hnil : R = [] := hR.out (by rw [hkb]; simp)
    subst hnil
    go_enter Tryz.func121, Tryz.ntmps121
    have hL0 : Below w.heap.size w ((w.alloc (.cells #[va, .int .i64 0, .bool false] 165)).alloc (.cells #[vb, .int .i64 0, .bool (opOf op)] 165)) := by repeat' (first|with_reducible (first|exact lowRefl _|apply lowSet|apply lowDrew|apply lowDrewN|apply lowAlloc)|(with_reducible refine lowCall ?_ (by assumption))|(show (_ : Nat) ≤ _;first|(simp;done)|(simp;omega)|omega))
    have B0 : Has ((w.alloc (.cells #[va, .int .i64 0, .bool false] 165)).alloc (.cells #[vb, .int .i64 0, .bool (opOf op)] 165)) (w.heap.size + 1) (walkC vb 0 (opOf op)) 165 := (show Has _ _ #[vb, .int .i64 0, .bool (opOf op)] _ from by (refine Has.as (by repeat' (first|with_reducible (first|assumption|apply J0|apply J1|apply J2|apply J3|apply J4|apply J5|apply J6|apply J7|apply J8|apply J9)|(with_reducible show _ ≠ _;first|omega|(simp;done)))) ?_; first | (with_reducible rfl) | (simp only [List.setIfInBounds_toArray, List.set_cons_zero, List.set_cons_succ]; first | done | rfl) | rfl | (simp; done)))
    go_wp2_with (first | (go_at_call 43; (with_reducible refine (ispansOk_any a va _ (HA.out.below hL0) hla).mono ?_); rintro e w' ⟨rfl, hbq⟩; rw [hka]; have hL1 := Lib.hid (lowCall hL0 hbq); have C0 := Jc (B0.below hbq)) | (go_at_call 43; (with_reducible refine (ispansOk_any b vb _ (HB.out.below hL1.out) hlb).mono ?_); rintro e w2 ⟨rfl, hbr⟩; rw [hkb]))
    go_ret
    exact ⟨_, rfl, RowK.nil _ _ _ _, lowCall hL1.out hbr⟩
  have hput := hY.out ⟨hka, hkb⟩
  clear hR hY hW
  obtain ⟨hal, hga⟩ := (sOk_iff a).1 hka
  obtain ⟨hbl, hgb⟩ := (sOk_iff b).1 hkb
  have HGA := Lib.hid hga
  have HGB := Lib.hid hgb
  have HP := Lib.hid hput
  clear hga hgb hput
  go_enter Tryz.func121, Tryz.ntmps121
  have hL0 : Below w.heap.size w ((w.alloc (.cells #[va, .int .i64 0, .bool false] 165)).alloc (.cells #[vb, .int .i64 0, .bool (opOf op)] 165)) := by repeat' (first|with_reducible (first|exact lowRefl _|apply lowSet|apply lowDrew|apply lowDrewN|apply lowAlloc)|(with_reducible refine lowCall ?_ (by assumption))|(show (_ : Nat) ≤ _;first|(simp;done)|(simp;omega)|omega))
  have B0 : Has ((w.alloc (.cells #[va, .int .i64 0, .bool false] 165)).alloc (.cells #[vb, .int .i64 0, .bool (opOf op)] 165)) w.heap.size (walkC va 0 false) 165 := (show Has _ _ #[va, .int .i64 0, .bool false] _ from by (refine Has.as (by repeat' (first|with_reducible (first|assumption|apply J0|apply J1|apply J2|apply J3|apply J4|apply J5|apply J6|apply J7|apply J8|apply J9)|(with_reducible show _ ≠ _;first|omega|(simp;done)))) ?_; first | (with_reducible rfl) | (simp only [List.setIfInBounds_toArray, List.set_cons_zero, List.set_cons_succ]; first | done | rfl) | rfl | (simp; done)))
  have B1 : Has ((w.alloc (.cells #[va, .int .i64 0, .bool false] 165)).alloc (.cells #[vb, .int .i64 0, .bool (opOf op)] 165)) (w.heap.size + 1) (walkC vb 0 (opOf op)) 165 := (show Has _ _ #[vb, .int .i64 0, .bool (opOf op)] _ from by (refine Has.as (by repeat' (first|with_reducible (first|assumption|apply J0|apply J1|apply J2|apply J3|apply J4|apply J5|apply J6|apply J7|apply J8|apply J9)|(with_reducible show _ ≠ _;first|omega|(simp;done)))) ?_; first | (with_reducible rfl) | (simp only [List.setIfInBounds_toArray, List.set_cons_zero, List.set_cons_succ]; first | done | rfl) | rfl | (simp; done)))
  go_upto_region 4 with (first | (go_at_call 43; (with_reducible refine (ispansOk_any a va _ (HA.out.below hL0) hla).mono ?_); rintro e w1 ⟨rfl, hb1⟩; rw [hka]; have hL1 := Lib.hid (lowCall hL0 hb1); have C1 := Jc (B1.below hb1)) | (go_at_call 43; (with_reducible refine (ispansOk_any b vb _ (HB.out.below hL1.out) hlb).mono ?_); rintro e w2 ⟨rfl, hb2⟩; rw [hkb]))
  have hL2 := lowCall hL1.out hb2
  have B02 := (B0.below hb1).below hb2
  have B12 := (B1.below hb1).below hb2
  clear hL0 hL1 hb1 hb2 B0 B1 C1
  go_upto_region 5 with fail
  have hbZ := B12.lt
  refine (fun (k : ∀ wm, Has wm w.heap.size (walkC va 0 false) 165 → Has wm (w.heap.size + 1) (walkC vb 0 (opOf op)) 165 → Has wm w2.heap.size #[.int .i64 0, .int .i64 0, .int .i64 0, .int .i64 0] 87 → Below w.heap.size w wm → Code.wp _ _ _ _ wm) => k _ ?_ ?_ ?_ ?_) ?_
  · (refine Has.as (by repeat' (first|with_reducible (first|assumption|apply J0|apply J1|apply J2|apply J3|apply J4|apply J5|apply J6|apply J7|apply J8|apply J9)|(with_reducible show _ ≠ _;first|omega|(simp;done)))) ?_; first | (with_reducible rfl) | (simp only [List.setIfInBounds_toArray, List.set_cons_zero, List.set_cons_succ]; first | done | rfl) | rfl | (simp; done))
  · (refine Has.as (by repeat' (first|with_reducible (first|assumption|apply J0|apply J1|apply J2|apply J3|apply J4|apply J5|apply J6|apply J7|apply J8|apply J9)|(with_reducible show _ ≠ _;first|omega|(simp;done)))) ?_; first | (with_reducible rfl) | (simp only [List.setIfInBounds_toArray, List.set_cons_zero, List.set_cons_succ]; first | done | rfl) | rfl | (simp; done))
  · (refine Has.as (by repeat' (first|with_reducible (first|assumption|apply J0|apply J1|apply J2|apply J3|apply J4|apply J5|apply J6|apply J7|apply J8|apply J9)|(with_reducible show _ ≠ _;first|omega|(simp;done)))) ?_; first | (with_reducible rfl) | (simp only [List.setIfInBounds_toArray, List.set_cons_zero, List.set_cons_succ]; first | done | rfl) | rfl | (simp; done))
  · repeat' (first|with_reducible (first|exact lowRefl _|apply lowSet|apply lowDrew|apply lowDrewN|apply lowAlloc)|(with_reducible refine lowCall ?_ (by assumption))|(show (_ : Nat) ≤ _;first|(simp;done)|(simp;omega)|omega))
  clear B02 B12 hL2
  generalize w2.heap.size = bZ at *
  clear w2 w1
  intro w0 BX BY BZ hL
  have hz0 : spHas op (spOdd 0) (spOdd 0) = false := by unfold spHas spOdd; simp
  go_wp2
  go_loopw [7, 9] (fun o ob wr => ∃ (k n p q : Nat) (f s x y : Int) (shut : List Sp) (vo : Value) (ho : Bool), vo = o ∧ ob = .bool ho ∧ ho = spHas op (spOdd p) (spOdd q) ∧ SpHere op a b k n p q f s shut ∧ shut.length ≤ 200 ∧ SRow wr (bZ + 1) vo shut ∧ Has wr w.heap.size (walkC va p false) 165 ∧ Has wr (w.heap.size + 1) (walkC vb q (opOf op)) 165 ∧ Has wr bZ #[.int .i64 f, .int .i64 x, .int .i64 s, .int .i64 y] 87 ∧ Below w.heap.size w wr) (fun _ _ wr => (2 * a.length + 2 * b.length) - (pOf wr w.heap.size + pOf wr (w.heap.size + 1)))
  case atStart => exact ⟨0, _, 0, 0, 0, 0, 0, 0, [], _, false, rfl, rfl, hz0.symm, here_start HGA.out HGB.out, by simp, RowK.nil _ _ _ _, BX, BY, BZ, hL⟩
  case round =>
    clear BX BY BZ hL hz0 w0
    obtain ⟨k, n, p, q, f, s, x, y, shut, vo, ho, rfl, rfl, hho, hh, hsl, hr, BX, BY, BZ, hL⟩ := hrel
    have hle := hh.at2.le
    have HH := Lib.hid hh
    have HO := Lib.hid hho
    have hdi := done_iff HGA.out HGB.out hh.at2
    have hpx := pOf_walk BX
    have hqx := pOf_walk BY
    clear hh hho
    have hgh : w.heap.size ≠ w.heap.size + 1 := by omega
    go_upto_region 7 with (go_at_call 185; refine (nextEnd_any op a b va vb p q _ _ _ (HA.out.below hL) (HB.out.below hL) hal hbl HGA.out HGB.out hle.1 hle.2 hgh BX BY).mono ?_; rintro e w1 ⟨rfl, BX2, BY2, t2⟩; clear BX BY; have BX := BX2; have BY := BY2; clear BX2 BY2)
    have hr1 := t2.row hr (by omega) (by omega)
    have hL1 := t2.low hL (Nat.le_refl _) (by omega)
    have BZ1 := t2.has BZ (by omega) (by omega)
    have HPX := Lib.hid hpx
    have HQX := Lib.hid hqx
    clear t2 BZ hr hL hpx hqx
    have BZ := BZ1
    clear BZ1
    by_cases hd : p = 2 * a.length ∧ q = 2 * b.length
    · have e1 : (atN a b p q == 1073741825) = true := by simpa using hdi.1 hd
      have hov := (HH.out.over hd).1
      have hRs : R = shut := by rw [HP.out, hov]; exact told_le (by rw [← hov]; exact hsl)
      subst hRs
      clear hd hov hdi
      go_wp2
      go_ret
      exact ⟨_, rfl, hr1.mono (by omega), hL1⟩
    · have e1 : (atN a b p q == 1073741825) = false := by
        have := fun e => hd (hdi.2 e)
        simpa using this
      have HST := Lib.hid (HH.out.step HGA.out HGB.out hd)
      have hadv := (step_ne HGA.out HGB.out HH.out.at2 hd).2.2.2.2
      have hle2 := (HH.out.at2.step HGA.out HGB.out hd).le
      generalize pA a b p q = p2 at *
      generalize qB a b p q = q2 at *
      go_upto_region 9 with fail
      have hw := (wantBoth hop (spOdd p2) (spOdd q2))
      cases ho
      · cases hn : spHas op (spOdd p2) (spOdd q2)
        · have HN := Lib.hid hn
          rw [hn] at hw
          clear hn
          (refine wp_region_held0 (by kernel_rfl) (by kernel_rfl) (fun _ _ _ d _ h => by cases d <;> exact h) ?_; intro Fq hFq)
          repeat (first | (refine wpHeld_skip (by rfl) ?_; ((try simp only [Act.put, List.setIfInBounds_toArray, List.set_cons_zero, List.set_cons_succ]))) | (refine wpHeld_run ?_ rfl ?_ ?_; rotate_left; (focus (intro w' hbq Kq hKq; go_simp; (try simp only [hw]); (try (rw [IntWalk.i64_in]; rotate_left; focus (constructor <;> omega))); first | exact hKq _ (Below.refl _ _) | first | (go_at_call 186; ((with_reducible refine (inside_any va p2 false _ (by omega)).mono ?_); rintro e w2 ⟨rfl, hbr⟩; refine back ?_; exact hKq _ hbr)) | (go_at_call 186; ((with_reducible refine (inside_any vb q2 (opOf op) _ (by omega)).mono ?_); rintro e w2 ⟨rfl, hbr⟩; refine back ?_; exact hKq _ hbr)) | (go_at_call 123; ((with_reducible refine (inBoth_any _ _ _).mono ?_); rintro e w2 ⟨rfl, rfl⟩; refine back ?_; exact hKq _ (Below.refl _ _))) | (((first | have CX := Jc (BX.below hbq) | have CX := Jc (BX.below (undrew hbq))); (first | have CY := Jc (BY.below hbq) | have CY := Jc (BY.below (undrew hbq))); go_simp; exact hKq _ (Below.refl _ _))))); ((try simp only [Act.put, List.setIfInBounds_toArray, List.set_cons_zero, List.set_cons_succ]))))
          (refine wpHeld_nil (hFq _ ?_); clear hFq; intro w' hbq; ((try (have B0 := Jb (b := w.heap.size) (by repeat' (first|with_reducible (first|assumption|apply J0|apply J1|apply J2|apply J3|apply J4|apply J5|apply J6|apply J7|apply J8|apply J9)|(with_reducible show _ ≠ _;first|omega|(simp;done)))) hbq; have C0 := Jc B0; have F0 := Jf B0)); (try (have B1 := Jb (b := w.heap.size + 1) (by repeat' (first|with_reducible (first|assumption|apply J0|apply J1|apply J2|apply J3|apply J4|apply J5|apply J6|apply J7|apply J8|apply J9)|(with_reducible show _ ≠ _;first|omega|(simp;done)))) hbq; have C1 := Jc B1; have F1 := Jf B1)); (try (have B2 := Jb (b := w.heap.size + 1 + 1) (by repeat' (first|with_reducible (first|assumption|apply J0|apply J1|apply J2|apply J3|apply J4|apply J5|apply J6|apply J7|apply J8|apply J9)|(with_reducible show _ ≠ _;first|omega|(simp;done)))) hbq; have C2 := Jc B2; have F2 := Jf B2)); (try (have BX := Jb (b := bX) (by repeat' (first|with_reducible (first|assumption|apply J0|apply J1|apply J2|apply J3|apply J4|apply J5|apply J6|apply J7|apply J8|apply J9)|(with_reducible show _ ≠ _;first|omega|(simp;done)))) hbq; have CX := Jc BX; have FX := Jf BX)); (try (have BY := Jb (b := bY) (by repeat' (first|with_reducible (first|assumption|apply J0|apply J1|apply J2|apply J3|apply J4|apply J5|apply J6|apply J7|apply J8|apply J9)|(with_reducible show _ ≠ _;first|omega|(simp;done)))) hbq; have CY := Jc BY; have FY := Jf BY))))
          have hr2 := RowK.below hr1 (undrew hbq)
          have BZ2 := BZ.below (undrew hbq)
          have BX2 := BX.below (undrew hbq)
          have BY2 := BY.below (undrew hbq)
          have hL2 := lowCall hL1 (undrew hbq)
          clear hbq hr1 BX BY BZ hL1
          (try clear CX FX)
          (try clear CY FY)
          have hr := hr2
          have BX := BX2
          have BY := BY2
          have BZ := BZ2
          have hL := hL2
          clear hr2 BX2 BY2 BZ2 hL2
          have HS := Lib.hid (HST.out.1 (by rw [HN.out, HO.out]))
          go_wp2
          go_roundw
          case rel => exact ⟨k + 1, n - 1, p2, q2, f, s, x, y, shut, vo, _, rfl, rfl, HN.out.symm, HS.out, hsl, hr, BX, BY, BZ, hL⟩
          case measure => rw [pOf_walk BX, pOf_walk BY, HPX.out, HQX.out]; omega
        · have HN := Lib.hid hn
          rw [hn] at hw
          clear hn
          (refine wp_region_held0 (by kernel_rfl) (by kernel_rfl) (fun _ _ _ d _ h => by cases d <;> exact h) ?_; intro Fq hFq)
          repeat (first | (refine wpHeld_skip (by rfl) ?_; ((try simp only [Act.put, List.setIfInBounds_toArray, List.set_cons_zero, List.set_cons_succ]))) | (refine wpHeld_run ?_ rfl ?_ ?_; rotate_left; (focus (intro w' hbq Kq hKq; go_simp; (try simp only [hw]); (try (rw [IntWalk.i64_in]; rotate_left; focus (constructor <;> omega))); first | exact hKq _ (Below.refl _ _) | first | (go_at_call 186; ((with_reducible refine (inside_any va p2 false _ (by omega)).mono ?_); rintro e w2 ⟨rfl, hbr⟩; refine back ?_; exact hKq _ hbr)) | (go_at_call 186; ((with_reducible refine (inside_any vb q2 (opOf op) _ (by omega)).mono ?_); rintro e w2 ⟨rfl, hbr⟩; refine back ?_; exact hKq _ hbr)) | (go_at_call 123; ((with_reducible refine (inBoth_any _ _ _).mono ?_); rintro e w2 ⟨rfl, rfl⟩; refine back ?_; exact hKq _ (Below.refl _ _))) | (((first | have CX := Jc (BX.below hbq) | have CX := Jc (BX.below (undrew hbq))); (first | have CY := Jc (BY.below hbq) | have CY := Jc (BY.below (undrew hbq))); go_simp; exact hKq _ (Below.refl _ _))))); ((try simp only [Act.put, List.setIfInBounds_toArray, List.set_cons_zero, List.set_cons_succ]))))
          (refine wpHeld_nil (hFq _ ?_); clear hFq; intro w' hbq; ((try (have B0 := Jb (b := w.heap.size) (by repeat' (first|with_reducible (first|assumption|apply J0|apply J1|apply J2|apply J3|apply J4|apply J5|apply J6|apply J7|apply J8|apply J9)|(with_reducible show _ ≠ _;first|omega|(simp;done)))) hbq; have C0 := Jc B0; have F0 := Jf B0)); (try (have B1 := Jb (b := w.heap.size + 1) (by repeat' (first|with_reducible (first|assumption|apply J0|apply J1|apply J2|apply J3|apply J4|apply J5|apply J6|apply J7|apply J8|apply J9)|(with_reducible show _ ≠ _;first|omega|(simp;done)))) hbq; have C1 := Jc B1; have F1 := Jf B1)); (try (have B2 := Jb (b := w.heap.size + 1 + 1) (by repeat' (first|with_reducible (first|assumption|apply J0|apply J1|apply J2|apply J3|apply J4|apply J5|apply J6|apply J7|apply J8|apply J9)|(with_reducible show _ ≠ _;first|omega|(simp;done)))) hbq; have C2 := Jc B2; have F2 := Jf B2)); (try (have BX := Jb (b := bX) (by repeat' (first|with_reducible (first|assumption|apply J0|apply J1|apply J2|apply J3|apply J4|apply J5|apply J6|apply J7|apply J8|apply J9)|(with_reducible show _ ≠ _;first|omega|(simp;done)))) hbq; have CX := Jc BX; have FX := Jf BX)); (try (have BY := Jb (b := bY) (by repeat' (first|with_reducible (first|assumption|apply J0|apply J1|apply J2|apply J3|apply J4|apply J5|apply J6|apply J7|apply J8|apply J9)|(with_reducible show _ ≠ _;first|omega|(simp;done)))) hbq; have CY := Jc BY; have FY := Jf BY))))
          have hr2 := RowK.below hr1 (undrew hbq)
          have BZ2 := BZ.below (undrew hbq)
          have BX2 := BX.below (undrew hbq)
          have BY2 := BY.below (undrew hbq)
          have hL2 := lowCall hL1 (undrew hbq)
          clear hbq hr1 BX BY BZ hL1
          (try clear CX FX)
          (try clear CY FY)
          have hr := hr2
          have BX := BX2
          have BY := BY2
          have BZ := BZ2
          have hL := hL2
          clear hr2 BX2 BY2 BZ2 hL2
          have HS := Lib.hid (HST.out.2.1 HN.out HO.out.symm)
          have CZ := Jc BZ
          have FZ := Jf BZ
          go_wp2
          generalize hW2 : (World.setCell _ _ _ : World) = w9
          have BX9 : Has w9 w.heap.size (walkC va p2 false) 165 := hW2 ▸ (by repeat' (first|with_reducible (first|assumption|apply J0|apply J1|apply J2|apply J3|apply J4|apply J5|apply J6|apply J7|apply J8|apply J9)|(with_reducible show _ ≠ _;first|omega|(simp;done))))
          have BY9 : Has w9 (w.heap.size + 1) (walkC vb q2 (opOf op)) 165 := hW2 ▸ (by repeat' (first|with_reducible (first|assumption|apply J0|apply J1|apply J2|apply J3|apply J4|apply J5|apply J6|apply J7|apply J8|apply J9)|(with_reducible show _ ≠ _;first|omega|(simp;done))))
          have BZ9 : Has w9 bZ #[.int .i64 (atN a b p q), .int .i64 x, .int .i64 (suN op a b p q), .int .i64 y] 87 := hW2 ▸ (by (refine Has.as (by repeat' (first|with_reducible (first|assumption|apply J0|apply J1|apply J2|apply J3|apply J4|apply J5|apply J6|apply J7|apply J8|apply J9)|(with_reducible show _ ≠ _;first|omega|(simp;done)))) ?_; first | (with_reducible rfl) | (simp only [List.setIfInBounds_toArray, List.set_cons_zero, List.set_cons_succ]; first | done | rfl) | rfl | (simp; done)))
          have hr9 : SRow w9 (bZ + 1) vo shut := hW2 ▸ (by repeat' (first | with_reducible exact hr | (with_reducible refine RowK.set ?_ (own_lo hr.own (by omega)))))
          have hL9 : Below w.heap.size w w9 := hW2 ▸ (by repeat' (first|with_reducible (first|exact lowRefl _|apply lowSet|apply lowDrew|apply lowDrewN|apply lowAlloc)|(with_reducible refine lowCall ?_ (by assumption))|(show (_ : Nat) ≤ _;first|(simp;done)|(simp;omega)|omega)))
          clear hW2 CZ FZ BX BY BZ hr hL
          go_roundw
          case rel => exact ⟨k + 1, n - 1, p2, q2, atN a b p q, suN op a b p q, x, y, shut, vo, _, rfl, rfl, HN.out.symm, HS.out, hsl, hr9, BX9, BY9, BZ9, hL9⟩
          case measure => rw [pOf_walk BX9, pOf_walk BY9, HPX.out, HQX.out]; omega
      · cases hn : spHas op (spOdd p2) (spOdd q2)
        · have HN := Lib.hid hn
          rw [hn] at hw
          clear hn
          (refine wp_region_held0 (by kernel_rfl) (by kernel_rfl) (fun _ _ _ d _ h => by cases d <;> exact h) ?_; intro Fq hFq)
          repeat (first | (refine wpHeld_skip (by rfl) ?_; ((try simp only [Act.put, List.setIfInBounds_toArray, List.set_cons_zero, List.set_cons_succ]))) | (refine wpHeld_run ?_ rfl ?_ ?_; rotate_left; (focus (intro w' hbq Kq hKq; go_simp; (try simp only [hw]); (try (rw [IntWalk.i64_in]; rotate_left; focus (constructor <;> omega))); first | exact hKq _ (Below.refl _ _) | first | (go_at_call 186; ((with_reducible refine (inside_any va p2 false _ (by omega)).mono ?_); rintro e w2 ⟨rfl, hbr⟩; refine back ?_; exact hKq _ hbr)) | (go_at_call 186; ((with_reducible refine (inside_any vb q2 (opOf op) _ (by omega)).mono ?_); rintro e w2 ⟨rfl, hbr⟩; refine back ?_; exact hKq _ hbr)) | (go_at_call 123; ((with_reducible refine (inBoth_any _ _ _).mono ?_); rintro e w2 ⟨rfl, rfl⟩; refine back ?_; exact hKq _ (Below.refl _ _))) | (((first | have CX := Jc (BX.below hbq) | have CX := Jc (BX.below (undrew hbq))); (first | have CY := Jc (BY.below hbq) | have CY := Jc (BY.below (undrew hbq))); go_simp; exact hKq _ (Below.refl _ _))))); ((try simp only [Act.put, List.setIfInBounds_toArray, List.set_cons_zero, List.set_cons_succ]))))
          (refine wpHeld_nil (hFq _ ?_); clear hFq; intro w' hbq; ((try (have B0 := Jb (b := w.heap.size) (by repeat' (first|with_reducible (first|assumption|apply J0|apply J1|apply J2|apply J3|apply J4|apply J5|apply J6|apply J7|apply J8|apply J9)|(with_reducible show _ ≠ _;first|omega|(simp;done)))) hbq; have C0 := Jc B0; have F0 := Jf B0)); (try (have B1 := Jb (b := w.heap.size + 1) (by repeat' (first|with_reducible (first|assumption|apply J0|apply J1|apply J2|apply J3|apply J4|apply J5|apply J6|apply J7|apply J8|apply J9)|(with_reducible show _ ≠ _;first|omega|(simp;done)))) hbq; have C1 := Jc B1; have F1 := Jf B1)); (try (have B2 := Jb (b := w.heap.size + 1 + 1) (by repeat' (first|with_reducible (first|assumption|apply J0|apply J1|apply J2|apply J3|apply J4|apply J5|apply J6|apply J7|apply J8|apply J9)|(with_reducible show _ ≠ _;first|omega|(simp;done)))) hbq; have C2 := Jc B2; have F2 := Jf B2)); (try (have BX := Jb (b := bX) (by repeat' (first|with_reducible (first|assumption|apply J0|apply J1|apply J2|apply J3|apply J4|apply J5|apply J6|apply J7|apply J8|apply J9)|(with_reducible show _ ≠ _;first|omega|(simp;done)))) hbq; have CX := Jc BX; have FX := Jf BX)); (try (have BY := Jb (b := bY) (by repeat' (first|with_reducible (first|assumption|apply J0|apply J1|apply J2|apply J3|apply J4|apply J5|apply J6|apply J7|apply J8|apply J9)|(with_reducible show _ ≠ _;first|omega|(simp;done)))) hbq; have CY := Jc BY; have FY := Jf BY))))
          have hr2 := RowK.below hr1 (undrew hbq)
          have BZ2 := BZ.below (undrew hbq)
          have BX2 := BX.below (undrew hbq)
          have BY2 := BY.below (undrew hbq)
          have hL2 := lowCall hL1 (undrew hbq)
          clear hbq hr1 BX BY BZ hL1
          (try clear CX FX)
          (try clear CY FY)
          have hr := hr2
          have BX := BX2
          have BY := BY2
          have BZ := BZ2
          have hL := hL2
          clear hr2 BX2 BY2 BZ2 hL2
          have HS := Lib.hid (HST.out.2.2 HN.out HO.out.symm)
          have CZ := Jc BZ
          have FZ := Jf BZ
          obtain ⟨A3, c3, hv3, _⟩ := SRow.shape0 hr
          by_cases h200 : shut.length = 200
          · have e2 : ((shut.length : Int) == 200) = true := by simp; omega
            have hRs : R = [] := by rw [HP.out]; exact told_gt (by have := HS.out.2; omega)
            subst hRs
            subst hv3
            clear h200
            go_wp2
            go_ret
            exact ⟨_, rfl, RowK.nil _ _ _ _, hL⟩
          · have e2 : ((shut.length : Int) == 200) = false := by simp; omega
            have hsl2 : shut.length < 200 := by omega
            clear h200
            subst hv3
            go_upto_region 16 with fail
            generalize hW2 : (World.setCell _ _ _ : World) = w9
            have BX9 : Has w9 w.heap.size (walkC va p2 false) 165 := hW2 ▸ (by repeat' (first|with_reducible (first|assumption|apply J0|apply J1|apply J2|apply J3|apply J4|apply J5|apply J6|apply J7|apply J8|apply J9)|(with_reducible show _ ≠ _;first|omega|(simp;done))))
            have BY9 : Has w9 (w.heap.size + 1) (walkC vb q2 (opOf op)) 165 := hW2 ▸ (by repeat' (first|with_reducible (first|assumption|apply J0|apply J1|apply J2|apply J3|apply J4|apply J5|apply J6|apply J7|apply J8|apply J9)|(with_reducible show _ ≠ _;first|omega|(simp;done))))
            have BZ9 : Has w9 bZ #[.int .i64 f, .int .i64 (atN a b p q), .int .i64 s, .int .i64 (suN op a b p q)] 87 := hW2 ▸ (by (refine Has.as (by repeat' (first|with_reducible (first|assumption|apply J0|apply J1|apply J2|apply J3|apply J4|apply J5|apply J6|apply J7|apply J8|apply J9)|(with_reducible show _ ≠ _;first|omega|(simp;done)))) ?_; first | (with_reducible rfl) | (simp only [List.setIfInBounds_toArray, List.set_cons_zero, List.set_cons_succ]; first | done | rfl) | rfl | (simp; done)))
            have hr9 : SRow w9 (bZ + 1) (.slice A3 shut.length c3) shut := hW2 ▸ (by repeat' (first | with_reducible exact hr | (with_reducible refine RowK.set ?_ (own_lo hr.own (by omega)))))
            have hL9 : Below w.heap.size w w9 := hW2 ▸ (by repeat' (first|with_reducible (first|exact lowRefl _|apply lowSet|apply lowDrew|apply lowDrewN|apply lowAlloc)|(with_reducible refine lowCall ?_ (by assumption))|(show (_ : Nat) ≤ _;first|(simp;done)|(simp;omega)|omega)))
            clear hW2 CZ FZ BX BY BZ hr hL
            have CZ := Jc BZ9
            have hle9 : bZ + 1 ≤ w9.heap.size := BZ9.lt
            go_wp2_with (at_builtin; refine append_sp w9 rfl _ _ rfl (bZ + 1) _ _ _ _ _ _ _ hr9 rfl rfl (by omega) hle9 ?_; intro v2 w10 hr10 hg10)
            have hA : ∀ (c : Nat), c < bZ + 1 → some c ≠ (Value.slice A3 shut.length c3).ownBlock := fun c hc => own_lo hr9.own hc
            have hL10 := (lowAlloc hL9 (.cells #[.int .i64 f, .int .i64 (atN a b p q), .int .i64 s, .int .i64 (suN op a b p q)] 87)).grown hg10 (by have := hL9.size; simp; omega) (fun g hg => by have := (World.ownsRow.lt hr9.own g hg).1; omega)
            have BX10 := (BX9.alloc (.cells #[.int .i64 f, .int .i64 (atN a b p q), .int .i64 s, .int .i64 (suN op a b p q)] 87)).grown hg10 (hA _ (by omega))
            have BY10 := (BY9.alloc (.cells #[.int .i64 f, .int .i64 (atN a b p q), .int .i64 s, .int .i64 (suN op a b p q)] 87)).grown hg10 (hA _ (by omega))
            have BZ10 := (BZ9.alloc (.cells #[.int .i64 f, .int .i64 (atN a b p q), .int .i64 s, .int .i64 (suN op a b p q)] 87)).grown hg10 (hA _ (by omega))
            clear BX9 BY9 BZ9 hr9 hL9 CZ hg10 hA
            go_roundw
            case rel => exact ⟨k + 1, n - 1, p2, q2, f, s, _, _, _, v2, _, rfl, rfl, HN.out.symm, HS.out.1, by simp; omega, hr10, BX10, BY10, BZ10, hL10⟩
            case measure => rw [pOf_walk BX10, pOf_walk BY10, HPX.out, HQX.out]; omega
        · have HN := Lib.hid hn
          rw [hn] at hw
          clear hn
          (refine wp_region_held0 (by kernel_rfl) (by kernel_rfl) (fun _ _ _ d _ h => by cases d <;> exact h) ?_; intro Fq hFq)
          repeat (first | (refine wpHeld_skip (by rfl) ?_; ((try simp only [Act.put, List.setIfInBounds_toArray, List.set_cons_zero, List.set_cons_succ]))) | (refine wpHeld_run ?_ rfl ?_ ?_; rotate_left; (focus (intro w' hbq Kq hKq; go_simp; (try simp only [hw]); (try (rw [IntWalk.i64_in]; rotate_left; focus (constructor <;> omega))); first | exact hKq _ (Below.refl _ _) | first | (go_at_call 186; ((with_reducible refine (inside_any va p2 false _ (by omega)).mono ?_); rintro e w2 ⟨rfl, hbr⟩; refine back ?_; exact hKq _ hbr)) | (go_at_call 186; ((with_reducible refine (inside_any vb q2 (opOf op) _ (by omega)).mono ?_); rintro e w2 ⟨rfl, hbr⟩; refine back ?_; exact hKq _ hbr)) | (go_at_call 123; ((with_reducible refine (inBoth_any _ _ _).mono ?_); rintro e w2 ⟨rfl, rfl⟩; refine back ?_; exact hKq _ (Below.refl _ _))) | (((first | have CX := Jc (BX.below hbq) | have CX := Jc (BX.below (undrew hbq))); (first | have CY := Jc (BY.below hbq) | have CY := Jc (BY.below (undrew hbq))); go_simp; exact hKq _ (Below.refl _ _))))); ((try simp only [Act.put, List.setIfInBounds_toArray, List.set_cons_zero, List.set_cons_succ]))))
          (refine wpHeld_nil (hFq _ ?_); clear hFq; intro w' hbq; ((try (have B0 := Jb (b := w.heap.size) (by repeat' (first|with_reducible (first|assumption|apply J0|apply J1|apply J2|apply J3|apply J4|apply J5|apply J6|apply J7|apply J8|apply J9)|(with_reducible show _ ≠ _;first|omega|(simp;done)))) hbq; have C0 := Jc B0; have F0 := Jf B0)); (try (have B1 := Jb (b := w.heap.size + 1) (by repeat' (first|with_reducible (first|assumption|apply J0|apply J1|apply J2|apply J3|apply J4|apply J5|apply J6|apply J7|apply J8|apply J9)|(with_reducible show _ ≠ _;first|omega|(simp;done)))) hbq; have C1 := Jc B1; have F1 := Jf B1)); (try (have B2 := Jb (b := w.heap.size + 1 + 1) (by repeat' (first|with_reducible (first|assumption|apply J0|apply J1|apply J2|apply J3|apply J4|apply J5|apply J6|apply J7|apply J8|apply J9)|(with_reducible show _ ≠ _;first|omega|(simp;done)))) hbq; have C2 := Jc B2; have F2 := Jf B2)); (try (have BX := Jb (b := bX) (by repeat' (first|with_reducible (first|assumption|apply J0|apply J1|apply J2|apply J3|apply J4|apply J5|apply J6|apply J7|apply J8|apply J9)|(with_reducible show _ ≠ _;first|omega|(simp;done)))) hbq; have CX := Jc BX; have FX := Jf BX)); (try (have BY := Jb (b := bY) (by repeat' (first|with_reducible (first|assumption|apply J0|apply J1|apply J2|apply J3|apply J4|apply J5|apply J6|apply J7|apply J8|apply J9)|(with_reducible show _ ≠ _;first|omega|(simp;done)))) hbq; have CY := Jc BY; have FY := Jf BY))))
          have hr2 := RowK.below hr1 (undrew hbq)
          have BZ2 := BZ.below (undrew hbq)
          have BX2 := BX.below (undrew hbq)
          have BY2 := BY.below (undrew hbq)
          have hL2 := lowCall hL1 (undrew hbq)
          clear hbq hr1 BX BY BZ hL1
          (try clear CX FX)
          (try clear CY FY)
          have hr := hr2
          have BX := BX2
          have BY := BY2
          have BZ := BZ2
          have hL := hL2
          clear hr2 BX2 BY2 BZ2 hL2
          have HS := Lib.hid (HST.out.1 (by rw [HN.out, HO.out]))
          go_wp2
          go_roundw
          case rel => exact ⟨k + 1, n - 1, p2, q2, f, s, x, y, shut, vo, _, rfl, rfl, HN.out.symm, HS.out, hsl, hr, BX, BY, BZ, hL⟩
          case measure => rw [pOf_walk BX, pOf_walk BY, HPX.out, HQX.out]; omega
theorem madeEither_any  (a b : List Sp) (va vb : Value) (w : World) (ha : SIn w va a) (hb : SIn w vb b) (hla : a.length ≤ 9223372036854775807) (hlb : b.length ≤ 9223372036854775807) :
    Calls Tryz.prog 121 #[walkV va 0 false, walkV vb 0 (opOf 1), .func (Fn.func 122) #[] #[]] w fun e w' => ∃ v', e = .returned v' ∧ SRow w' w.heap.size v' (spPut 1 a b) ∧ Below w.heap.size w w' := by
  have HA := Lib.hid ha
  have HB := Lib.hid hb
  clear ha hb
  have hR := Lib.hid (spPut_no (op := 1) (a := a) (b := b))
  have hY := Lib.hid (spPut_yes (op := 1) (a := a) (b := b))
  generalize hW : spPut 1 a b = R at *
  cases hka : sOk a
  · have hnil : R = [] := hR.out (by rw [hka]; simp)
    subst hnil
    go_enter Tryz.func121, Tryz.ntmps121
    have hL0 : Below w.heap.size w ((w.alloc (.cells #[va, .int .i64 0, .bool false] 165)).alloc (.cells #[vb, .int .i64 0, .bool (opOf 1)] 165)) := by repeat' (first|with_reducible (first|exact lowRefl _|apply lowSet|apply lowDrew|apply lowDrewN|apply lowAlloc)|(with_reducible refine lowCall ?_ (by assumption))|(show (_ : Nat) ≤ _;first|(simp;done)|(simp;omega)|omega))
    go_wp2_with (go_at_call 43; refine (ispansOk_any a va _ (HA.out.below hL0) hla).mono ?_; rintro e w' ⟨rfl, hbq⟩; rw [hka])
    go_ret
    exact ⟨_, rfl, RowK.nil _ _ _ _, by repeat' (first|with_reducible (first|exact lowRefl _|apply lowSet|apply lowDrew|apply lowDrewN|apply lowAlloc)|(with_reducible refine lowCall ?_ (by assumption))|(show (_ : Nat) ≤ _;first|(simp;done)|(simp;omega)|omega))⟩
  cases hkb : sOk b
  · have hnil : R = [] := hR.out (by rw [hkb]; simp)
    subst hnil
    go_enter Tryz.func121, Tryz.ntmps121
    have hL0 : Below w.heap.size w ((w.alloc (.cells #[va, .int .i64 0, .bool false] 165)).alloc (.cells #[vb, .int .i64 0, .bool (opOf 1)] 165)) := by repeat' (first|with_reducible (first|exact lowRefl _|apply lowSet|apply lowDrew|apply lowDrewN|apply lowAlloc)|(with_reducible refine lowCall ?_ (by assumption))|(show (_ : Nat) ≤ _;first|(simp;done)|(simp;omega)|omega))
    have B0 : Has ((w.alloc (.cells #[va, .int .i64 0, .bool false] 165)).alloc (.cells #[vb, .int .i64 0, .bool (opOf 1)] 165)) (w.heap.size + 1) (walkC vb 0 (opOf 1)) 165 := (show Has _ _ #[vb, .int .i64 0, .bool (opOf 1)] _ from by (refine Has.as (by repeat' (first|with_reducible (first|assumption|apply J0|apply J1|apply J2|apply J3|apply J4|apply J5|apply J6|apply J7|apply J8|apply J9)|(with_reducible show _ ≠ _;first|omega|(simp;done)))) ?_; first | (with_reducible rfl) | (simp only [List.setIfInBounds_toArray, List.set_cons_zero, List.set_cons_succ]; first | done | rfl) | rfl | (simp; done)))
    go_wp2_with (first | (go_at_call 43; (with_reducible refine (ispansOk_any a va _ (HA.out.below hL0) hla).mono ?_); rintro e w' ⟨rfl, hbq⟩; rw [hka]; have hL1 := Lib.hid (lowCall hL0 hbq); have C0 := Jc (B0.below hbq)) | (go_at_call 43; (with_reducible refine (ispansOk_any b vb _ (HB.out.below hL1.out) hlb).mono ?_); rintro e w2 ⟨rfl, hbr⟩; rw [hkb]))
    go_ret
    exact ⟨_, rfl, RowK.nil _ _ _ _, lowCall hL1.out hbr⟩
  have hput := hY.out ⟨hka, hkb⟩
  clear hR hY hW
  obtain ⟨hal, hga⟩ := (sOk_iff a).1 hka
  obtain ⟨hbl, hgb⟩ := (sOk_iff b).1 hkb
  have HGA := Lib.hid hga
  have HGB := Lib.hid hgb
  have HP := Lib.hid hput
  clear hga hgb hput
  go_enter Tryz.func121, Tryz.ntmps121
  have hL0 : Below w.heap.size w ((w.alloc (.cells #[va, .int .i64 0, .bool false] 165)).alloc (.cells #[vb, .int .i64 0, .bool (opOf 1)] 165)) := by repeat' (first|with_reducible (first|exact lowRefl _|apply lowSet|apply lowDrew|apply lowDrewN|apply lowAlloc)|(with_reducible refine lowCall ?_ (by assumption))|(show (_ : Nat) ≤ _;first|(simp;done)|(simp;omega)|omega))
  have B0 : Has ((w.alloc (.cells #[va, .int .i64 0, .bool false] 165)).alloc (.cells #[vb, .int .i64 0, .bool (opOf 1)] 165)) w.heap.size (walkC va 0 false) 165 := (show Has _ _ #[va, .int .i64 0, .bool false] _ from by (refine Has.as (by repeat' (first|with_reducible (first|assumption|apply J0|apply J1|apply J2|apply J3|apply J4|apply J5|apply J6|apply J7|apply J8|apply J9)|(with_reducible show _ ≠ _;first|omega|(simp;done)))) ?_; first | (with_reducible rfl) | (simp only [List.setIfInBounds_toArray, List.set_cons_zero, List.set_cons_succ]; first | done | rfl) | rfl | (simp; done)))
  have B1 : Has ((w.alloc (.cells #[va, .int .i64 0, .bool false] 165)).alloc (.cells #[vb, .int .i64 0, .bool (opOf 1)] 165)) (w.heap.size + 1) (walkC vb 0 (opOf 1)) 165 := (show Has _ _ #[vb, .int .i64 0, .bool (opOf 1)] _ from by (refine Has.as (by repeat' (first|with_reducible (first|assumption|apply J0|apply J1|apply J2|apply J3|apply J4|apply J5|apply J6|apply J7|apply J8|apply J9)|(with_reducible show _ ≠ _;first|omega|(simp;done)))) ?_; first | (with_reducible rfl) | (simp only [List.setIfInBounds_toArray, List.set_cons_zero, List.set_cons_succ]; first | done | rfl) | rfl | (simp; done)))
  go_upto_region 4 with (first | (go_at_call 43; (with_reducible refine (ispansOk_any a va _ (HA.out.below hL0) hla).mono ?_); rintro e w1 ⟨rfl, hb1⟩; rw [hka]; have hL1 := Lib.hid (lowCall hL0 hb1); have C1 := Jc (B1.below hb1)) | (go_at_call 43; (with_reducible refine (ispansOk_any b vb _ (HB.out.below hL1.out) hlb).mono ?_); rintro e w2 ⟨rfl, hb2⟩; rw [hkb]))
  have hL2 := lowCall hL1.out hb2
  have B02 := (B0.below hb1).below hb2
  have B12 := (B1.below hb1).below hb2
  clear hL0 hL1 hb1 hb2 B0 B1 C1
  go_upto_region 5 with fail
  have hbZ := B12.lt
  refine (fun (k : ∀ wm, Has wm w.heap.size (walkC va 0 false) 165 → Has wm (w.heap.size + 1) (walkC vb 0 (opOf 1)) 165 → Has wm w2.heap.size #[.int .i64 0, .int .i64 0, .int .i64 0, .int .i64 0] 87 → Below w.heap.size w wm → Code.wp _ _ _ _ wm) => k _ ?_ ?_ ?_ ?_) ?_
  · (refine Has.as (by repeat' (first|with_reducible (first|assumption|apply J0|apply J1|apply J2|apply J3|apply J4|apply J5|apply J6|apply J7|apply J8|apply J9)|(with_reducible show _ ≠ _;first|omega|(simp;done)))) ?_; first | (with_reducible rfl) | (simp only [List.setIfInBounds_toArray, List.set_cons_zero, List.set_cons_succ]; first | done | rfl) | rfl | (simp; done))
  · (refine Has.as (by repeat' (first|with_reducible (first|assumption|apply J0|apply J1|apply J2|apply J3|apply J4|apply J5|apply J6|apply J7|apply J8|apply J9)|(with_reducible show _ ≠ _;first|omega|(simp;done)))) ?_; first | (with_reducible rfl) | (simp only [List.setIfInBounds_toArray, List.set_cons_zero, List.set_cons_succ]; first | done | rfl) | rfl | (simp; done))
  · (refine Has.as (by repeat' (first|with_reducible (first|assumption|apply J0|apply J1|apply J2|apply J3|apply J4|apply J5|apply J6|apply J7|apply J8|apply J9)|(with_reducible show _ ≠ _;first|omega|(simp;done)))) ?_; first | (with_reducible rfl) | (simp only [List.setIfInBounds_toArray, List.set_cons_zero, List.set_cons_succ]; first | done | rfl) | rfl | (simp; done))
  · repeat' (first|with_reducible (first|exact lowRefl _|apply lowSet|apply lowDrew|apply lowDrewN|apply lowAlloc)|(with_reducible refine lowCall ?_ (by assumption))|(show (_ : Nat) ≤ _;first|(simp;done)|(simp;omega)|omega))
  clear B02 B12 hL2
  generalize w2.heap.size = bZ at *
  clear w2 w1
  intro w0 BX BY BZ hL
  have hz0 : spHas 1 (spOdd 0) (spOdd 0) = false := by unfold spHas spOdd; simp
  go_wp2
  go_loopw [7, 9] (fun o ob wr => ∃ (k n p q : Nat) (f s x y : Int) (shut : List Sp) (vo : Value) (ho : Bool), vo = o ∧ ob = .bool ho ∧ ho = spHas 1 (spOdd p) (spOdd q) ∧ SpHere 1 a b k n p q f s shut ∧ shut.length ≤ 200 ∧ SRow wr (bZ + 1) vo shut ∧ Has wr w.heap.size (walkC va p false) 165 ∧ Has wr (w.heap.size + 1) (walkC vb q (opOf 1)) 165 ∧ Has wr bZ #[.int .i64 f, .int .i64 x, .int .i64 s, .int .i64 y] 87 ∧ Below w.heap.size w wr) (fun _ _ wr => (2 * a.length + 2 * b.length) - (pOf wr w.heap.size + pOf wr (w.heap.size + 1)))
  case atStart => exact ⟨0, _, 0, 0, 0, 0, 0, 0, [], _, false, rfl, rfl, hz0.symm, here_start HGA.out HGB.out, by simp, RowK.nil _ _ _ _, BX, BY, BZ, hL⟩
  case round =>
    clear BX BY BZ hL hz0 w0
    obtain ⟨k, n, p, q, f, s, x, y, shut, vo, ho, rfl, rfl, hho, hh, hsl, hr, BX, BY, BZ, hL⟩ := hrel
    have hle := hh.at2.le
    have HH := Lib.hid hh
    have HO := Lib.hid hho
    have hdi := done_iff HGA.out HGB.out hh.at2
    have hpx := pOf_walk BX
    have hqx := pOf_walk BY
    clear hh hho
    have hgh : w.heap.size ≠ w.heap.size + 1 := by omega
    go_upto_region 7 with (go_at_call 185; refine (nextEnd_any 1 a b va vb p q _ _ _ (HA.out.below hL) (HB.out.below hL) hal hbl HGA.out HGB.out hle.1 hle.2 hgh BX BY).mono ?_; rintro e w1 ⟨rfl, BX2, BY2, t2⟩; clear BX BY; have BX := BX2; have BY := BY2; clear BX2 BY2)
    have hr1 := t2.row hr (by omega) (by omega)
    have hL1 := t2.low hL (Nat.le_refl _) (by omega)
    have BZ1 := t2.has BZ (by omega) (by omega)
    have HPX := Lib.hid hpx
    have HQX := Lib.hid hqx
    clear t2 BZ hr hL hpx hqx
    have BZ := BZ1
    clear BZ1
    by_cases hd : p = 2 * a.length ∧ q = 2 * b.length
    · have e1 : (atN a b p q == 1073741825) = true := by simpa using hdi.1 hd
      have hov := (HH.out.over hd).1
      have hRs : R = shut := by rw [HP.out, hov]; exact told_le (by rw [← hov]; exact hsl)
      subst hRs
      clear hd hov hdi
      go_wp2
      go_ret
      exact ⟨_, rfl, hr1.mono (by omega), hL1⟩
    · have e1 : (atN a b p q == 1073741825) = false := by
        have := fun e => hd (hdi.2 e)
        simpa using this
      have HST := Lib.hid (HH.out.step HGA.out HGB.out hd)
      have hadv := (step_ne HGA.out HGB.out HH.out.at2 hd).2.2.2.2
      have hle2 := (HH.out.at2.step HGA.out HGB.out hd).le
      generalize pA a b p q = p2 at *
      generalize qB a b p q = q2 at *
      go_upto_region 9 with fail
      have hw := (wantEither (spOdd p2) (spOdd q2))
      cases ho
      · cases hn : spHas 1 (spOdd p2) (spOdd q2)
        · have HN := Lib.hid hn
          rw [hn] at hw
          clear hn
          (refine wp_region_held0 (by kernel_rfl) (by kernel_rfl) (fun _ _ _ d _ h => by cases d <;> exact h) ?_; intro Fq hFq)
          repeat (first | (refine wpHeld_skip (by rfl) ?_; ((try simp only [Act.put, List.setIfInBounds_toArray, List.set_cons_zero, List.set_cons_succ]))) | (refine wpHeld_run ?_ rfl ?_ ?_; rotate_left; (focus (intro w' hbq Kq hKq; go_simp; (try simp only [hw]); (try (rw [IntWalk.i64_in]; rotate_left; focus (constructor <;> omega))); first | exact hKq _ (Below.refl _ _) | first | (go_at_call 186; ((with_reducible refine (inside_any va p2 false _ (by omega)).mono ?_); rintro e w2 ⟨rfl, hbr⟩; refine back ?_; exact hKq _ hbr)) | (go_at_call 186; ((with_reducible refine (inside_any vb q2 (opOf 1) _ (by omega)).mono ?_); rintro e w2 ⟨rfl, hbr⟩; refine back ?_; exact hKq _ hbr)) | (go_at_call 122; ((with_reducible refine (inEither_any _ _ _).mono ?_); rintro e w2 ⟨rfl, rfl⟩; refine back ?_; exact hKq _ (Below.refl _ _))) | (((first | have CX := Jc (BX.below hbq) | have CX := Jc (BX.below (undrew hbq))); (first | have CY := Jc (BY.below hbq) | have CY := Jc (BY.below (undrew hbq))); go_simp; exact hKq _ (Below.refl _ _))))); ((try simp only [Act.put, List.setIfInBounds_toArray, List.set_cons_zero, List.set_cons_succ]))))
          (refine wpHeld_nil (hFq _ ?_); clear hFq; intro w' hbq; ((try (have B0 := Jb (b := w.heap.size) (by repeat' (first|with_reducible (first|assumption|apply J0|apply J1|apply J2|apply J3|apply J4|apply J5|apply J6|apply J7|apply J8|apply J9)|(with_reducible show _ ≠ _;first|omega|(simp;done)))) hbq; have C0 := Jc B0; have F0 := Jf B0)); (try (have B1 := Jb (b := w.heap.size + 1) (by repeat' (first|with_reducible (first|assumption|apply J0|apply J1|apply J2|apply J3|apply J4|apply J5|apply J6|apply J7|apply J8|apply J9)|(with_reducible show _ ≠ _;first|omega|(simp;done)))) hbq; have C1 := Jc B1; have F1 := Jf B1)); (try (have B2 := Jb (b := w.heap.size + 1 + 1) (by repeat' (first|with_reducible (first|assumption|apply J0|apply J1|apply J2|apply J3|apply J4|apply J5|apply J6|apply J7|apply J8|apply J9)|(with_reducible show _ ≠ _;first|omega|(simp;done)))) hbq; have C2 := Jc B2; have F2 := Jf B2)); (try (have BX := Jb (b := bX) (by repeat' (first|with_reducible (first|assumption|apply J0|apply J1|apply J2|apply J3|apply J4|apply J5|apply J6|apply J7|apply J8|apply J9)|(with_reducible show _ ≠ _;first|omega|(simp;done)))) hbq; have CX := Jc BX; have FX := Jf BX)); (try (have BY := Jb (b := bY) (by repeat' (first|with_reducible (first|assumption|apply J0|apply J1|apply J2|apply J3|apply J4|apply J5|apply J6|apply J7|apply J8|apply J9)|(with_reducible show _ ≠ _;first|omega|(simp;done)))) hbq; have CY := Jc BY; have FY := Jf BY))))
          have hr2 := RowK.below hr1 (undrew hbq)
          have BZ2 := BZ.below (undrew hbq)
          have BX2 := BX.below (undrew hbq)
          have BY2 := BY.below (undrew hbq)
          have hL2 := lowCall hL1 (undrew hbq)
          clear hbq hr1 BX BY BZ hL1
          (try clear CX FX)
          (try clear CY FY)
          have hr := hr2
          have BX := BX2
          have BY := BY2
          have BZ := BZ2
          have hL := hL2
          clear hr2 BX2 BY2 BZ2 hL2
          have HS := Lib.hid (HST.out.1 (by rw [HN.out, HO.out]))
          go_wp2
          go_roundw
          case rel => exact ⟨k + 1, n - 1, p2, q2, f, s, x, y, shut, vo, _, rfl, rfl, HN.out.symm, HS.out, hsl, hr, BX, BY, BZ, hL⟩
          case measure => rw [pOf_walk BX, pOf_walk BY, HPX.out, HQX.out]; omega
        · have HN := Lib.hid hn
          rw [hn] at hw
          clear hn
          (refine wp_region_held0 (by kernel_rfl) (by kernel_rfl) (fun _ _ _ d _ h => by cases d <;> exact h) ?_; intro Fq hFq)
          repeat (first | (refine wpHeld_skip (by rfl) ?_; ((try simp only [Act.put, List.setIfInBounds_toArray, List.set_cons_zero, List.set_cons_succ]))) | (refine wpHeld_run ?_ rfl ?_ ?_; rotate_left; (focus (intro w' hbq Kq hKq; go_simp; (try simp only [hw]); (try (rw [IntWalk.i64_in]; rotate_left; focus (constructor <;> omega))); first | exact hKq _ (Below.refl _ _) | first | (go_at_call 186; ((with_reducible refine (inside_any va p2 false _ (by omega)).mono ?_); rintro e w2 ⟨rfl, hbr⟩; refine back ?_; exact hKq _ hbr)) | (go_at_call 186; ((with_reducible refine (inside_any vb q2 (opOf 1) _ (by omega)).mono ?_); rintro e w2 ⟨rfl, hbr⟩; refine back ?_; exact hKq _ hbr)) | (go_at_call 122; ((with_reducible refine (inEither_any _ _ _).mono ?_); rintro e w2 ⟨rfl, rfl⟩; refine back ?_; exact hKq _ (Below.refl _ _))) | (((first | have CX := Jc (BX.below hbq) | have CX := Jc (BX.below (undrew hbq))); (first | have CY := Jc (BY.below hbq) | have CY := Jc (BY.below (undrew hbq))); go_simp; exact hKq _ (Below.refl _ _))))); ((try simp only [Act.put, List.setIfInBounds_toArray, List.set_cons_zero, List.set_cons_succ]))))
          (refine wpHeld_nil (hFq _ ?_); clear hFq; intro w' hbq; ((try (have B0 := Jb (b := w.heap.size) (by repeat' (first|with_reducible (first|assumption|apply J0|apply J1|apply J2|apply J3|apply J4|apply J5|apply J6|apply J7|apply J8|apply J9)|(with_reducible show _ ≠ _;first|omega|(simp;done)))) hbq; have C0 := Jc B0; have F0 := Jf B0)); (try (have B1 := Jb (b := w.heap.size + 1) (by repeat' (first|with_reducible (first|assumption|apply J0|apply J1|apply J2|apply J3|apply J4|apply J5|apply J6|apply J7|apply J8|apply J9)|(with_reducible show _ ≠ _;first|omega|(simp;done)))) hbq; have C1 := Jc B1; have F1 := Jf B1)); (try (have B2 := Jb (b := w.heap.size + 1 + 1) (by repeat' (first|with_reducible (first|assumption|apply J0|apply J1|apply J2|apply J3|apply J4|apply J5|apply J6|apply J7|apply J8|apply J9)|(with_reducible show _ ≠ _;first|omega|(simp;done)))) hbq; have C2 := Jc B2; have F2 := Jf B2)); (try (have BX := Jb (b := bX) (by repeat' (first|with_reducible (first|assumption|apply J0|apply J1|apply J2|apply J3|apply J4|apply J5|apply J6|apply J7|apply J8|apply J9)|(with_reducible show _ ≠ _;first|omega|(simp;done)))) hbq; have CX := Jc BX; have FX := Jf BX)); (try (have BY := Jb (b := bY) (by repeat' (first|with_reducible (first|assumption|apply J0|apply J1|apply J2|apply J3|apply J4|apply J5|apply J6|apply J7|apply J8|apply J9)|(with_reducible show _ ≠ _;first|omega|(simp;done)))) hbq; have CY := Jc BY; have FY := Jf BY))))
          have hr2 := RowK.below hr1 (undrew hbq)
          have BZ2 := BZ.below (undrew hbq)
          have BX2 := BX.below (undrew hbq)
          have BY2 := BY.below (undrew hbq)
          have hL2 := lowCall hL1 (undrew hbq)
          clear hbq hr1 BX BY BZ hL1
          (try clear CX FX)
          (try clear CY FY)
          have hr := hr2
          have BX := BX2
          have BY := BY2
          have BZ := BZ2
          have hL := hL2
          clear hr2 BX2 BY2 BZ2 hL2
          have HS := Lib.hid (HST.out.2.1 HN.out HO.out.symm)
          have CZ := Jc BZ
          have FZ := Jf BZ
          go_wp2
          generalize hW2 : (World.setCell _ _ _ : World) = w9
          have BX9 : Has w9 w.heap.size (walkC va p2 false) 165 := hW2 ▸ (by repeat' (first|with_reducible (first|assumption|apply J0|apply J1|apply J2|apply J3|apply J4|apply J5|apply J6|apply J7|apply J8|apply J9)|(with_reducible show _ ≠ _;first|omega|(simp;done))))
          have BY9 : Has w9 (w.heap.size + 1) (walkC vb q2 (opOf 1)) 165 := hW2 ▸ (by repeat' (first|with_reducible (first|assumption|apply J0|apply J1|apply J2|apply J3|apply J4|apply J5|apply J6|apply J7|apply J8|apply J9)|(with_reducible show _ ≠ _;first|omega|(simp;done))))
          have BZ9 : Has w9 bZ #[.int .i64 (atN a b p q), .int .i64 x, .int .i64 (suN 1 a b p q), .int .i64 y] 87 := hW2 ▸ (by (refine Has.as (by repeat' (first|with_reducible (first|assumption|apply J0|apply J1|apply J2|apply J3|apply J4|apply J5|apply J6|apply J7|apply J8|apply J9)|(with_reducible show _ ≠ _;first|omega|(simp;done)))) ?_; first | (with_reducible rfl) | (simp only [List.setIfInBounds_toArray, List.set_cons_zero, List.set_cons_succ]; first | done | rfl) | rfl | (simp; done)))
          have hr9 : SRow w9 (bZ + 1) vo shut := hW2 ▸ (by repeat' (first | with_reducible exact hr | (with_reducible refine RowK.set ?_ (own_lo hr.own (by omega)))))
          have hL9 : Below w.heap.size w w9 := hW2 ▸ (by repeat' (first|with_reducible (first|exact lowRefl _|apply lowSet|apply lowDrew|apply lowDrewN|apply lowAlloc)|(with_reducible refine lowCall ?_ (by assumption))|(show (_ : Nat) ≤ _;first|(simp;done)|(simp;omega)|omega)))
          clear hW2 CZ FZ BX BY BZ hr hL
          go_roundw
          case rel => exact ⟨k + 1, n - 1, p2, q2, atN a b p q, suN 1 a b p q, x, y, shut, vo, _, rfl, rfl, HN.out.symm, HS.out, hsl, hr9, BX9, BY9, BZ9, hL9⟩
          case measure => rw [pOf_walk BX9, pOf_walk BY9, HPX.out, HQX.out]; omega
      · cases hn : spHas 1 (spOdd p2) (spOdd q2)
        · have HN := Lib.hid hn
          rw [hn] at hw
          clear hn
          (refine wp_region_held0 (by kernel_rfl) (by kernel_rfl) (fun _ _ _ d _ h => by cases d <;> exact h) ?_; intro Fq hFq)
          repeat (first | (refine wpHeld_skip (by rfl) ?_; ((try simp only [Act.put, List.setIfInBounds_toArray, List.set_cons_zero, List.set_cons_succ]))) | (refine wpHeld_run ?_ rfl ?_ ?_; rotate_left; (focus (intro w' hbq Kq hKq; go_simp; (try simp only [hw]); (try (rw [IntWalk.i64_in]; rotate_left; focus (constructor <;> omega))); first | exact hKq _ (Below.refl _ _) | first | (go_at_call 186; ((with_reducible refine (inside_any va p2 false _ (by omega)).mono ?_); rintro e w2 ⟨rfl, hbr⟩; refine back ?_; exact hKq _ hbr)) | (go_at_call 186; ((with_reducible refine (inside_any vb q2 (opOf 1) _ (by omega)).mono ?_); rintro e w2 ⟨rfl, hbr⟩; refine back ?_; exact hKq _ hbr)) | (go_at_call 122; ((with_reducible refine (inEither_any _ _ _).mono ?_); rintro e w2 ⟨rfl, rfl⟩; refine back ?_; exact hKq _ (Below.refl _ _))) | (((first | have CX := Jc (BX.below hbq) | have CX := Jc (BX.below (undrew hbq))); (first | have CY := Jc (BY.below hbq) | have CY := Jc (BY.below (undrew hbq))); go_simp; exact hKq _ (Below.refl _ _))))); ((try simp only [Act.put, List.setIfInBounds_toArray, List.set_cons_zero, List.set_cons_succ]))))
          (refine wpHeld_nil (hFq _ ?_); clear hFq; intro w' hbq; ((try (have B0 := Jb (b := w.heap.size) (by repeat' (first|with_reducible (first|assumption|apply J0|apply J1|apply J2|apply J3|apply J4|apply J5|apply J6|apply J7|apply J8|apply J9)|(with_reducible show _ ≠ _;first|omega|(simp;done)))) hbq; have C0 := Jc B0; have F0 := Jf B0)); (try (have B1 := Jb (b := w.heap.size + 1) (by repeat' (first|with_reducible (first|assumption|apply J0|apply J1|apply J2|apply J3|apply J4|apply J5|apply J6|apply J7|apply J8|apply J9)|(with_reducible show _ ≠ _;first|omega|(simp;done)))) hbq; have C1 := Jc B1; have F1 := Jf B1)); (try (have B2 := Jb (b := w.heap.size + 1 + 1) (by repeat' (first|with_reducible (first|assumption|apply J0|apply J1|apply J2|apply J3|apply J4|apply J5|apply J6|apply J7|apply J8|apply J9)|(with_reducible show _ ≠ _;first|omega|(simp;done)))) hbq; have C2 := Jc B2; have F2 := Jf B2)); (try (have BX := Jb (b := bX) (by repeat' (first|with_reducible (first|assumption|apply J0|apply J1|apply J2|apply J3|apply J4|apply J5|apply J6|apply J7|apply J8|apply J9)|(with_reducible show _ ≠ _;first|omega|(simp;done)))) hbq; have CX := Jc BX; have FX := Jf BX)); (try (have BY := Jb (b := bY) (by repeat' (first|with_reducible (first|assumption|apply J0|apply J1|apply J2|apply J3|apply J4|apply J5|apply J6|apply J7|apply J8|apply J9)|(with_reducible show _ ≠ _;first|omega|(simp;done)))) hbq; have CY := Jc BY; have FY := Jf BY))))
          have hr2 := RowK.below hr1 (undrew hbq)
          have BZ2 := BZ.below (undrew hbq)
          have BX2 := BX.below (undrew hbq)
          have BY2 := BY.below (undrew hbq)
          have hL2 := lowCall hL1 (undrew hbq)
          clear hbq hr1 BX BY BZ hL1
          (try clear CX FX)
          (try clear CY FY)
          have hr := hr2
          have BX := BX2
          have BY := BY2
          have BZ := BZ2
          have hL := hL2
          clear hr2 BX2 BY2 BZ2 hL2
          have HS := Lib.hid (HST.out.2.2 HN.out HO.out.symm)
          have CZ := Jc BZ
          have FZ := Jf BZ
          obtain ⟨A3, c3, hv3, _⟩ := SRow.shape0 hr
          by_cases h200 : shut.length = 200
          · have e2 : ((shut.length : Int) == 200) = true := by simp; omega
            have hRs : R = [] := by rw [HP.out]; exact told_gt (by have := HS.out.2; omega)
            subst hRs
            subst hv3
            clear h200
            go_wp2
            go_ret
            exact ⟨_, rfl, RowK.nil _ _ _ _, hL⟩
          · have e2 : ((shut.length : Int) == 200) = false := by simp; omega
            have hsl2 : shut.length < 200 := by omega
            clear h200
            subst hv3
            go_upto_region 16 with fail
            generalize hW2 : (World.setCell _ _ _ : World) = w9
            have BX9 : Has w9 w.heap.size (walkC va p2 false) 165 := hW2 ▸ (by repeat' (first|with_reducible (first|assumption|apply J0|apply J1|apply J2|apply J3|apply J4|apply J5|apply J6|apply J7|apply J8|apply J9)|(with_reducible show _ ≠ _;first|omega|(simp;done))))
            have BY9 : Has w9 (w.heap.size + 1) (walkC vb q2 (opOf 1)) 165 := hW2 ▸ (by repeat' (first|with_reducible (first|assumption|apply J0|apply J1|apply J2|apply J3|apply J4|apply J5|apply J6|apply J7|apply J8|apply J9)|(with_reducible show _ ≠ _;first|omega|(simp;done))))
            have BZ9 : Has w9 bZ #[.int .i64 f, .int .i64 (atN a b p q), .int .i64 s, .int .i64 (suN 1 a b p q)] 87 := hW2 ▸ (by (refine Has.as (by repeat' (first|with_reducible (first|assumption|apply J0|apply J1|apply J2|apply J3|apply J4|apply J5|apply J6|apply J7|apply J8|apply J9)|(with_reducible show _ ≠ _;first|omega|(simp;done)))) ?_; first | (with_reducible rfl) | (simp only [List.setIfInBounds_toArray, List.set_cons_zero, List.set_cons_succ]; first | done | rfl) | rfl | (simp; done)))
            have hr9 : SRow w9 (bZ + 1) (.slice A3 shut.length c3) shut := hW2 ▸ (by repeat' (first | with_reducible exact hr | (with_reducible refine RowK.set ?_ (own_lo hr.own (by omega)))))
            have hL9 : Below w.heap.size w w9 := hW2 ▸ (by repeat' (first|with_reducible (first|exact lowRefl _|apply lowSet|apply lowDrew|apply lowDrewN|apply lowAlloc)|(with_reducible refine lowCall ?_ (by assumption))|(show (_ : Nat) ≤ _;first|(simp;done)|(simp;omega)|omega)))
            clear hW2 CZ FZ BX BY BZ hr hL
            have CZ := Jc BZ9
            have hle9 : bZ + 1 ≤ w9.heap.size := BZ9.lt
            go_wp2_with (at_builtin; refine append_sp w9 rfl _ _ rfl (bZ + 1) _ _ _ _ _ _ _ hr9 rfl rfl (by omega) hle9 ?_; intro v2 w10 hr10 hg10)
            have hA : ∀ (c : Nat), c < bZ + 1 → some c ≠ (Value.slice A3 shut.length c3).ownBlock := fun c hc => own_lo hr9.own hc
            have hL10 := (lowAlloc hL9 (.cells #[.int .i64 f, .int .i64 (atN a b p q), .int .i64 s, .int .i64 (suN 1 a b p q)] 87)).grown hg10 (by have := hL9.size; simp; omega) (fun g hg => by have := (World.ownsRow.lt hr9.own g hg).1; omega)
            have BX10 := (BX9.alloc (.cells #[.int .i64 f, .int .i64 (atN a b p q), .int .i64 s, .int .i64 (suN 1 a b p q)] 87)).grown hg10 (hA _ (by omega))
            have BY10 := (BY9.alloc (.cells #[.int .i64 f, .int .i64 (atN a b p q), .int .i64 s, .int .i64 (suN 1 a b p q)] 87)).grown hg10 (hA _ (by omega))
            have BZ10 := (BZ9.alloc (.cells #[.int .i64 f, .int .i64 (atN a b p q), .int .i64 s, .int .i64 (suN 1 a b p q)] 87)).grown hg10 (hA _ (by omega))
            clear BX9 BY9 BZ9 hr9 hL9 CZ hg10 hA
            go_roundw
            case rel => exact ⟨k + 1, n - 1, p2, q2, f, s, _, _, _, v2, _, rfl, rfl, HN.out.symm, HS.out.1, by simp; omega, hr10, BX10, BY10, BZ10, hL10⟩
            case measure => rw [pOf_walk BX10, pOf_walk BY10, HPX.out, HQX.out]; omega
        · have HN := Lib.hid hn
          rw [hn] at hw
          clear hn
          (refine wp_region_held0 (by kernel_rfl) (by kernel_rfl) (fun _ _ _ d _ h => by cases d <;> exact h) ?_; intro Fq hFq)
          repeat (first | (refine wpHeld_skip (by rfl) ?_; ((try simp only [Act.put, List.setIfInBounds_toArray, List.set_cons_zero, List.set_cons_succ]))) | (refine wpHeld_run ?_ rfl ?_ ?_; rotate_left; (focus (intro w' hbq Kq hKq; go_simp; (try simp only [hw]); (try (rw [IntWalk.i64_in]; rotate_left; focus (constructor <;> omega))); first | exact hKq _ (Below.refl _ _) | first | (go_at_call 186; ((with_reducible refine (inside_any va p2 false _ (by omega)).mono ?_); rintro e w2 ⟨rfl, hbr⟩; refine back ?_; exact hKq _ hbr)) | (go_at_call 186; ((with_reducible refine (inside_any vb q2 (opOf 1) _ (by omega)).mono ?_); rintro e w2 ⟨rfl, hbr⟩; refine back ?_; exact hKq _ hbr)) | (go_at_call 122; ((with_reducible refine (inEither_any _ _ _).mono ?_); rintro e w2 ⟨rfl, rfl⟩; refine back ?_; exact hKq _ (Below.refl _ _))) | (((first | have CX := Jc (BX.below hbq) | have CX := Jc (BX.below (undrew hbq))); (first | have CY := Jc (BY.below hbq) | have CY := Jc (BY.below (undrew hbq))); go_simp; exact hKq _ (Below.refl _ _))))); ((try simp only [Act.put, List.setIfInBounds_toArray, List.set_cons_zero, List.set_cons_succ]))))
          (refine wpHeld_nil (hFq _ ?_); clear hFq; intro w' hbq; ((try (have B0 := Jb (b := w.heap.size) (by repeat' (first|with_reducible (first|assumption|apply J0|apply J1|apply J2|apply J3|apply J4|apply J5|apply J6|apply J7|apply J8|apply J9)|(with_reducible show _ ≠ _;first|omega|(simp;done)))) hbq; have C0 := Jc B0; have F0 := Jf B0)); (try (have B1 := Jb (b := w.heap.size + 1) (by repeat' (first|with_reducible (first|assumption|apply J0|apply J1|apply J2|apply J3|apply J4|apply J5|apply J6|apply J7|apply J8|apply J9)|(with_reducible show _ ≠ _;first|omega|(simp;done)))) hbq; have C1 := Jc B1; have F1 := Jf B1)); (try (have B2 := Jb (b := w.heap.size + 1 + 1) (by repeat' (first|with_reducible (first|assumption|apply J0|apply J1|apply J2|apply J3|apply J4|apply J5|apply J6|apply J7|apply J8|apply J9)|(with_reducible show _ ≠ _;first|omega|(simp;done)))) hbq; have C2 := Jc B2; have F2 := Jf B2)); (try (have BX := Jb (b := bX) (by repeat' (first|with_reducible (first|assumption|apply J0|apply J1|apply J2|apply J3|apply J4|apply J5|apply J6|apply J7|apply J8|apply J9)|(with_reducible show _ ≠ _;first|omega|(simp;done)))) hbq; have CX := Jc BX; have FX := Jf BX)); (try (have BY := Jb (b := bY) (by repeat' (first|with_reducible (first|assumption|apply J0|apply J1|apply J2|apply J3|apply J4|apply J5|apply J6|apply J7|apply J8|apply J9)|(with_reducible show _ ≠ _;first|omega|(simp;done)))) hbq; have CY := Jc BY; have FY := Jf BY))))
          have hr2 := RowK.below hr1 (undrew hbq)
          have BZ2 := BZ.below (undrew hbq)
          have BX2 := BX.below (undrew hbq)
          have BY2 := BY.below (undrew hbq)
          have hL2 := lowCall hL1 (undrew hbq)
          clear hbq hr1 BX BY BZ hL1
          (try clear CX FX)
          (try clear CY FY)
          have hr := hr2
          have BX := BX2
          have BY := BY2
          have BZ := BZ2
          have hL := hL2
          clear hr2 BX2 BY2 BZ2 hL2
          have HS := Lib.hid (HST.out.1 (by rw [HN.out, HO.out]))
          go_wp2
          go_roundw
          case rel => exact ⟨k + 1, n - 1, p2, q2, f, s, x, y, shut, vo, _, rfl, rfl, HN.out.symm, HS.out, hsl, hr, BX, BY, BZ, hL⟩
          case measure => rw [pOf_walk BX, pOf_walk BY, HPX.out, HQX.out]; omega
end Go.Proofs.YtegibpepdndocabGreat
