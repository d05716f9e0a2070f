import Derived.Deep.Cut
import Derived.Test.YtegibpepdndocabGreatPrtb
import Derived.Test.YtegibpepdndocabGreatSheb
import Derived.Test.YtegibpepdndocabGreatSpnGb
import Derived.Test.YtegibpepdndocabGreatSpnJb
import Derived.Test.YtegibpepdndocabGreatSpnOb
import Derived.Test.YtegibpepdndocabGreatSpnWb
section
namespace Go.Proofs.YtegibpepdndocabGreat
open Go.ChangeShapes Go.WideShapes Go.ChangeAt Go.RowKit
set_option maxHeartbeats 2000000
set_option maxRecDepth 8000
set_option linter.unusedSimpArgs false
attribute [local go_sem] VGo_value VGo_skip VGo_enter

/- what is open yet -/
def openS (o : Bool) (f s : Int) : List Sp := if o then [⟨f, 0, s, 0⟩] else []
theorem Evs_here {op : Nat} {a b : List Sp} {k n p q : Nat} {f s : Int} {l : List Sp} (h : SpHere op a b k n p q f s l) (hk : k < (Evs a b).length) : ¬ (p = 2 * a.length ∧ q = 2 * b.length) ∧ (Evs a b).getD k 0 = atN a b p q := by
  have hd : ¬ (p = 2 * a.length ∧ q = 2 * b.length) := fun hd => by have := (h.over hd).2.2; omega
  obtain ⟨m, _, hg, _⟩ := h.not_over hd
  refine ⟨hd, ?_⟩
  simp [List.getD, hg]
theorem SRow.shut {w : World} {B g n c : Nat} {l : List Sp} {f s t o : Int} (h : SRow w B (.slice (some ⟨g, 0, none⟩) n c) (l ++ [⟨f, 0, s, 0⟩])) (hn : n = l.length + 1) :
    SRow ((w.setCell ⟨g, l.length * 4 + 1, none⟩ (.int .i64 t)).setCell ⟨g, l.length * 4 + 3, none⟩ (.int .i64 o)) B (.slice (some ⟨g, 0, none⟩) n c) (l ++ [⟨f, t, s, o⟩]) := by
  obtain ⟨h1, _⟩ := h.store (by simpa using hn) l.length 1 (by simp) (by omega) (.int .i64 t)
  obtain ⟨h2, _⟩ := h1.store (by simpa using hn) l.length 3 (by simp) (by omega) (.int .i64 o)
  have e : (l ++ [⟨f, t, s, o⟩] : List Sp).map Sp.cells = ((l ++ [⟨f, 0, s, 0⟩] : List Sp).map Sp.cells).set l.length (Sp.cells ⟨f, t, s, o⟩) := by
    rw [List.map_append, List.map_append, List.set_append_right _ _ (by simp)]
    simp
  rw [SRow, e]
  simp [Sp.cells] at h2
  simpa [Sp.cells] using h2
theorem l5Put_any (op : Nat) (hop : op ≤ 2) (a b : List Sp) (va vb : Value) (w : World) (ha : SIn w va a) (hb : SIn w vb b) (hal : a.length ≤ 200) (hbl : b.length ≤ 200) (hga : SpsGood a) (hgb : SpsGood b) :
    Calls Tryz.prog 141 #[.int .i64 op, va, vb] w fun e w' => ∃ v', e = .returned v' ∧ SRow w' w.heap.size v' (spTotal op a b) ∧ Below w.heap.size w w' := by
  have HA := Lib.hid ha
  have HB := Lib.hid hb
  have HGA := Lib.hid hga
  have HGB := Lib.hid hgb
  clear ha hb hga hgb
  have hop5 : (op : Int) ≤ 2 := by omega
  go_enter Tryz.func141, Tryz.ntmps141
  go_upto_region 2 with (first | (go_at_call 204; (with_reducible refine (l5Ends_any a va _ HA.out (by omega)).mono ?_); rintro e w1 ⟨v1, rfl, hr1, hb1⟩) | (go_at_call 204; (with_reducible refine (l5Ends_any b vb _ (HB.out.below hb1) (by omega)).mono ?_); rintro e w2 ⟨v2, rfl, hr2, hb2⟩) | (go_at_call 203; (with_reducible refine (l5Merged_any a b v1 v2 _ HGA.out HGB.out hal hbl (ZRow.seen (hr1.below hb2)) (ZRow.seen hr2)).mono ?_); rintro e w3 ⟨v3, rfl, hr3, hb3⟩))
  have hL := lowCall (lowCall hb1 hb2) hb3
  have HA3 := Lib.hid (HA.out.below hL)
  have HB3 := Lib.hid (HB.out.below hL)
  have hz := ZRow.seen hr3
  clear hr1 hr2 hr3 hb1 hb2 hb3 HA HB
  obtain ⟨E, ce, rfl, hE⟩ := hz
  have HE : Hid (0 < (Evs a b).length → ∃ b' off, E = some ⟨b', off, none⟩ ∧ ∀ i, i < (Evs a b).length → w3.cell? ⟨b', off + i, none⟩ = some (.int .i64 ((Evs a b).getD i 0))) := Lib.hid fun h => by
    obtain ⟨b', off, hA, hf⟩ := hE h
    exact ⟨b', off, hA, fun i hi => by rw [hf i hi]; simp [List.getD, hi]⟩
  clear hE
  go_upto_region 3 with fail
  have hr0 : SRow (w3.alloc (.cells #[] 87)) w3.heap.size (.slice (some ⟨w3.heap.size, 0, none⟩) 0 0) [] := RowK.empty w3 _ _ _ (Nat.le_refl _)
  have hb0 : Below w3.heap.size w3 (w3.alloc (.cells #[] 87)) := by repeat' (first|with_reducible (first|exact lowRefl _|apply lowSet|apply lowDrew|apply lowDrewN|apply lowAlloc)|(with_reducible refine lowCall ?_ (by assumption))|(show (_ : Nat) ≤ _;first|(simp;done)|(simp;omega)|omega))
  generalize w3.alloc (.cells #[] 87) = w4 at *
  have hz0 : spHas op (spOdd 0) (spOdd 0) = false := by unfold spHas spOdd; simp
  go_wp2
  go_loopw [8, 9, 10] (fun o ob i wr => ∃ (k n p q : Nat) (f s : Int) (shut : List Sp) (vo : Value) (ho : Bool), vo = o ∧ ob = .bool ho ∧ i = .int .i64 k ∧ ho = spHas op (spOdd p) (spOdd q) ∧ SpHere op a b k n p q f s shut ∧ k ≤ (Evs a b).length ∧ SRow wr w3.heap.size vo (shut ++ openS ho f s) ∧ Below w3.heap.size w3 wr) (fun _ _ i _ => (Evs a b).length - (intOf i).toNat)
  case atStart => exact ⟨0, _, 0, 0, 0, 0, [], _, false, rfl, rfl, rfl, hz0.symm, here_start HGA.out HGB.out, by omega, hr0, hb0⟩
  case round =>
    clear hr0 hb0 hz0 w4
    obtain ⟨k, n, p, q, f, s, shut, vo, ho, rfl, rfl, rfl, hho, hh, hkl, hr, hb⟩ := hrel
    have HH := Lib.hid hh
    have HO := Lib.hid hho
    have hsl := shut_le hh
    have htl := total_le op a b
    have hEl := Evs_len a b
    clear hh hho
    by_cases hk : k < (Evs a b).length
    · obtain ⟨gE, oE, rfl, hf⟩ := HE.out (by omega)
      have cE := hf k hk
      obtain ⟨hd, hat⟩ := Evs_here HH.out hk
      rw [hat] at cE
      have hlE := block_lt_of_cell cE
      have hHA := hasAt_step (op := op) HGA.out HGB.out HH.out.at2 hd
      have hSU := surf_step hop HGA.out HGB.out HH.out.at2 hd
      have HST := Lib.hid (HH.out.step HGA.out HGB.out hd)
      have HSU := Lib.hid hSU
      clear hf hat hSU
      generalize pA a b p q = p2 at *
      generalize qB a b p q = q2 at *
      generalize atN a b p q = t at *
      generalize suN op a b p q = u at *
      have c1 := cell_lift cE (hb.block _ hlE)
      have HA4 := Lib.hid (HA3.out.below hb)
      have HB4 := Lib.hid (HB3.out.below hb)
      generalize (Evs a b).length = ne at *
      go_upto_region 8 with (go_at_call 205; refine (l5Has_any op hop a b va vb t _ HA4.out HB4.out (by omega) (by omega)).mono ?_; rintro e w' ⟨rfl, rfl⟩; rw [hHA])
      have hx : hasAt op a b t = spHas op (spOdd p2) (spOdd q2) := hHA
      clear hHA hx
      cases ho
      · cases hn : spHas op (spOdd p2) (spOdd q2)
        · have HN := Lib.hid hn
          clear hn
          have HS := Lib.hid (HST.out.1 (by rw [HN.out, HO.out]))
          go_wp2
          go_roundw
          case rel => exact ⟨k + 1, n - 1, p2, q2, f, s, shut, vo, _, rfl, rfl, by go_num, HN.out.symm, HS.out, by omega, hr, hb⟩
          case measure => simp [intOf]; omega
        · have HN := Lib.hid hn
          clear hn
          have HS := Lib.hid (HST.out.2.1 HN.out HO.out.symm)
          have hbe := HSU.out.1 HO.out.symm HN.out
          go_upto_region 9 with fail
          have hown : ∀ c, c < w3.heap.size → some c ≠ vo.ownBlock := fun c hc => own_lo hr.own hc
          have NE : ∀ w', wr.drew.grownBy w' vo.ownBlock → w'.cell? ⟨gE, oE + k, none⟩ = some (.int .i64 t) := fun w' hg => cell_lift c1 (hg.block _ (Nat.lt_of_lt_of_le hlE hb.size) (hown _ hlE))
          have NA : ∀ w', wr.drew.grownBy w' vo.ownBlock → SIn w' va a := fun w' hg => HA3.out.lift fun c _ hlt => (hg.block c (Nat.lt_of_lt_of_le hlt hb.size) (hown c hlt)).trans (hb.block c hlt)
          have NB : ∀ w', wr.drew.grownBy w' vo.ownBlock → SIn w' vb b := fun w' hg => HB3.out.lift fun c _ hlt => (hg.block c (Nat.lt_of_lt_of_le hlt hb.size) (hown c hlt)).trans (hb.block c hlt)
          refine wp_region_heldA 14 (by kernel_rfl) (by kernel_rfl) rfl rfl rfl (fun _ _ _ d _ h => by cases d <;> exact h) (fun w' => wr.drew.grownBy w' vo.ownBlock) (fun w' => SRow w' w3.heap.size vo (shut ++ openS false f s)) wr.heap.size grown_stab (fun w' h => h.size) (fun w1 w2 h k => h.below k) (World.grownBy.refl _ _) hr.drew ?_
          intro Fq hFq
          simp only [List.take_succ_cons, List.take_zero]
          repeat (first | (refine wpHeld_skip (by rfl) ?_; ((try simp only [Act.put, List.setIfInBounds_toArray, List.set_cons_zero, List.set_cons_succ]))) | (refine wpHeld_run ?_ rfl ?_ ?_; rotate_left; (focus (intro w' hbq Kq hKq; go_simp; (try (rw [IntWalk.i64_in]; rotate_left; focus (constructor <;> omega))); first | exact hKq _ (Below.refl _ _) | first | (go_at_call 206; (with_reducible refine (l5Begin_any op hop a b va vb t _ (NA _ hbq) (NB _ hbq) (by omega) (by omega) HGB.out).mono ?_); rintro e w2 ⟨rfl, rfl⟩; rw [hbe]; refine back ?_; exact hKq _ (Below.refl _ _)) | (have c2 := NE _ hbq; go_simp; exact hKq _ (Below.refl _ _)))); ((try simp only [Act.put, List.setIfInBounds_toArray, List.set_cons_zero, List.set_cons_succ]))))
          refine wpHeld_nil (hFq _ ⟨1, .cells #[.int .i64 t, .int .i64 0, .int .i64 u, .int .i64 0] 87, fun v' w' => SRow w' w3.heap.size v' (shut ++ openS true t u), fun v' w1 w2 h k => h.below k, rfl, ?_, fun _ => rfl, ?_, ?_⟩)
          · intro w' _ _ K hK
            go_simp
            exact hK
          · intro b0 w1 hS1 hF1 hN hB K hK
            refine append_wp w1 _ _ 77 87 4 32 _ rfl Tryz.underlying77 infoSp rfl (by omega) w3.heap.size vo _ [Sp.cells ⟨t, 0, u, 0⟩] hF1 rfl b0 1 rfl _ _ hB rfl rfl (by simp [Sp.cells]) (fun x hx => sp_one x (by simpa using hx)) (by simp [openS]; omega) (by omega) (by have := hb.size; have := hS1.size; simp at this; omega) ?_
            intro v' w' h1 h2
            exact hK _ _ (by_trans hS1 h2) (show SRow _ _ _ (shut ++ [⟨t, 0, u, 0⟩]) from SRow.snoc (by simpa [openS] using h1))
          · intro b0 v' w1 hS1 hN hG1
            have hb2 : Below w3.heap.size w3 w1 := (lowDrew hb).grown hS1 (by simpa using hb.size) (fun g hg => (World.ownsRow.lt hr.own g hg).1)
            clear NA NB NE hr hFq hb c1 HA4 HB4 hown
            go_wp2
            go_roundw
            case rel => exact ⟨k + 1, n - 1, p2, q2, t, u, shut, v', _, rfl, rfl, by go_num, HN.out.symm, HS.out, by omega, hG1, hb2⟩
            case measure => simp [intOf]; omega
      · cases hn : spHas op (spOdd p2) (spOdd q2)
        · have HN := Lib.hid hn
          clear hn
          have HS := Lib.hid (HST.out.2.2 HN.out HO.out.symm)
          have hen := HSU.out.2 HO.out.symm HN.out
          have hr1 : SRow wr w3.heap.size vo (shut ++ [⟨f, 0, s, 0⟩]) := hr
          obtain ⟨A3, c3, hv3, hA3⟩ := SRow.shape0 hr1
          obtain ⟨g, rfl, hg1, hg2⟩ := hA3 (by simp)
          have hsl1 : (shut ++ [⟨f, 0, s, 0⟩] : List Sp).length = shut.length + 1 := by simp
          rw [hsl1] at hv3
          subst hv3
          obtain ⟨s0, d0, d1, d2, d3⟩ : ∃ s0, Four wr g (shut.length * 4) s0 := ⟨_, SRow.four hr1 hsl1.symm shut.length (by omega)⟩
          have hfz := RowK.frozen hr1 (by simp)
          have hne : gE ≠ g := by omega
          have hne2 : g ≠ gE := by omega
          have HSH := Lib.hid (SRow.shut hr1 rfl (t := t) (o := u))
          have hlow : ∀ (i : Nat) (x : Value), Below w3.heap.size w3 (wr.setCell ⟨g, i, none⟩ x) := fun i x => lowSet hb hg1 x
          have HLW := Lib.hid hlow
          clear hr hr1 hlow hsl1 hA3
          go_wp2_with (go_at_call 207; refine (l5End_any op hop a b va vb t _ (HA3.out.below (HLW.out _ _)) (HB3.out.below (HLW.out _ _)) (by omega) (by omega) HGB.out).mono ?_; rintro e w2 ⟨rfl, rfl⟩; rw [hen])
          go_roundw
          case rel => exact ⟨k + 1, n - 1, p2, q2, f, s, _, _, _, rfl, rfl, by go_num, HN.out.symm, HS.out.1, by omega, by simpa [openS] using HSH.out, lowSet (HLW.out _ _) hg1 _⟩
          case measure => simp [intOf]; omega
        · have HN := Lib.hid hn
          clear hn
          have HS := Lib.hid (HST.out.1 (by rw [HN.out, HO.out]))
          go_wp2
          go_roundw
          case rel => exact ⟨k + 1, n - 1, p2, q2, f, s, shut, vo, _, rfl, rfl, by go_num, HN.out.symm, HS.out, by omega, hr, hb⟩
          case measure => simp [intOf]; omega
    · have hd := HH.out.done_of (by omega)
      obtain ⟨ht, hf0, _⟩ := HH.out.over hd
      have hf1 : ho = false := by rw [HO.out]; exact hf0
      subst hf1
      have hr1 : SRow wr w3.heap.size vo (spTotal op a b) := by rw [← ht]; simpa [openS] using hr
      clear ht hf0 hd hr
      go_wp2
      go_ret
      exact ⟨_, rfl, hr1.mono hL.size, lowCall hL hb⟩
end Go.Proofs.YtegibpepdndocabGreat
end
section
namespace Go.Proofs.YtegibpepdndocabGreat
open Go.ChangeShapes Go.WideShapes Go.ChangeAt Go.RowKit
set_option maxHeartbeats 2000000
set_option maxRecDepth 8000
set_option linter.unusedSimpArgs false

def PutPost (op : Nat) (a b : List Sp) (w : World) (e : Ending) (w' : World) : Prop := ∃ v', e = .returned v' ∧ SRow w' w.heap.size v' (spPut op a b) ∧ Below w.heap.size w w'
theorem madeB (op : Nat) (hop : op = 0 ∨ op = 2) (io : Bool) (hio : opOf op = io) (a b : List Sp) (va vb : Value) (w : World) (ha : SIn w va a) (hb : SIn w vb b) (hla : a.length ≤ 9223372036854775807) (hlb : b.length ≤ 9223372036854775807) :
    Calls Tryz.prog 121 #[.agg #[va, .int .i64 0, .bool false], .agg #[vb, .int .i64 0, .bool io], .func (Fn.func 123) #[] #[]] w (PutPost op a b w) := by
  subst hio
  exact madeBoth_any op hop a b va vb w ha hb hla hlb
theorem madeE (a b : List Sp) (va vb : Value) (w : World) (ha : SIn w va a) (hb : SIn w vb b) (hla : a.length ≤ 9223372036854775807) (hlb : b.length ≤ 9223372036854775807) :
    Calls Tryz.prog 121 #[.agg #[va, .int .i64 0, .bool false], .agg #[vb, .int .i64 0, .bool false], .func (Fn.func 122) #[] #[]] w (PutPost 1 a b w) := by
  have h := madeEither_any a b va vb w ha hb hla hlb
  have e : opOf 1 = false := rfl
  rw [e] at h
  exact h
theorem ispansBoth_any (a b : List Sp) (va vb : Value) (w : World) (ha : SIn w va a) (hb : SIn w vb b) (hla : a.length ≤ 9223372036854775807) (hlb : b.length ≤ 9223372036854775807) :
    Calls Tryz.prog 62 #[va, vb] w fun e w' => ∃ v', e = .returned v' ∧ SRow w' w.heap.size v' (spPut 0 a b) ∧ Below w.heap.size w w' := by
  obtain ⟨A1, c1, e1, _⟩ := id ha
  obtain ⟨A2, c2, e2, _⟩ := id hb
  subst e1
  subst e2
  have H := Lib.hid (madeB 0 (.inl rfl) false rfl a b _ _ w ha hb hla hlb)
  go_enter Tryz.func62, Tryz.ntmps62
  go_wp2_with (go_at_call 121; (with_reducible refine (H.out).mono ?_); rintro e w' ⟨v', rfl, hr, hL⟩)
  go_ret
  exact ⟨_, rfl, hr, hL⟩
theorem ispansEither_any (a b : List Sp) (va vb : Value) (w : World) (ha : SIn w va a) (hb : SIn w vb b) (hla : a.length ≤ 9223372036854775807) (hlb : b.length ≤ 9223372036854775807) :
    Calls Tryz.prog 61 #[va, vb] w fun e w' => ∃ v', e = .returned v' ∧ SRow w' w.heap.size v' (spPut 1 a b) ∧ Below w.heap.size w w' := by
  obtain ⟨A1, c1, e1, _⟩ := id ha
  obtain ⟨A2, c2, e2, _⟩ := id hb
  subst e1
  subst e2
  have H := Lib.hid (madeE a b _ _ w ha hb hla hlb)
  go_enter Tryz.func61, Tryz.ntmps61
  go_wp2_with (go_at_call 121; (with_reducible refine (H.out).mono ?_); rintro e w' ⟨v', rfl, hr, hL⟩)
  go_ret
  exact ⟨_, rfl, hr, hL⟩
theorem ispansLess_any (a b : List Sp) (va vb : Value) (w : World) (ha : SIn w va a) (hb : SIn w vb b) (hla : a.length ≤ 9223372036854775807) (hlb : b.length ≤ 9223372036854775807) :
    Calls Tryz.prog 63 #[va, vb] w fun e w' => ∃ v', e = .returned v' ∧ SRow w' w.heap.size v' (spPut 2 a b) ∧ Below w.heap.size w w' := by
  obtain ⟨A1, c1, e1, _⟩ := id ha
  obtain ⟨A2, c2, e2, _⟩ := id hb
  subst e1
  subst e2
  have H := Lib.hid (fun w1 (h : Below w.heap.size w w1) => madeB 2 (.inr rfl) true rfl a b _ _ w1 (ha.below h) (hb.below h) hla hlb)
  go_enter Tryz.func63, Tryz.ntmps63
  have hL0 : Below w.heap.size w (w.alloc (.cells #[.slice A2 b.length c2, .int .i64 0, .bool true] 165)) := by repeat' (first|with_reducible (first|exact lowRefl _|apply lowSet|apply lowDrew|apply lowDrewN|apply lowAlloc)|(with_reducible refine lowCall ?_ (by assumption))|(show (_ : Nat) ≤ _;first|(simp;done)|(simp;omega)|omega))
  go_wp2_with (go_at_call 121; (with_reducible refine (H.out _ hL0).mono ?_); rintro e w' ⟨v', rfl, hr, hL⟩)
  go_ret
  exact ⟨_, rfl, hr.mono hL0.size, lowCall hL0 hL⟩
end Go.Proofs.YtegibpepdndocabGreat
end
section
namespace Go.Proofs.YtegibpepdndocabGreat
open Has renaming new → J0, new1 → J1, new2 → J2, new3 → J3, new4 → J4, drew → J5, drewN → J6, alloc → J7, same → J8, other → J9, cell → Jc, frozen → Jf, below → Jb
open Go.ChangeShapes Go.WideShapes Go.ChangeAt Go.RowKit
set_option linter.unusedSimpArgs false
set_option linter.unusedVariables false
set_option maxHeartbeats 4000000

attribute [local go_sem] VGo_value VGo_skip VGo_enter
attribute [-go_sem] callMethod
attribute [local go_sem] cmHas cmCut cmBox
/- one span as a row -/
theorem lfRow (w : World) (s : Sp) : SRow (w.alloc (.cells s.cells.toArray 87)) w.heap.size (.slice (some ⟨w.heap.size, 0, none⟩) 1 1) [s] :=
  ⟨⟨by simp [Sp.cells], .inr ⟨w.heap.size, 1, s.cells.toArray, rfl, Nat.le_refl _, Has.new w _ _, Nat.le_refl _, by unfold maxLen; omega, by simp [Sp.cells], by simp [Sp.cells]⟩⟩, by simp [Sp.cells]⟩
theorem spNil (w : World) (B : Nat) : SRow w B (.slice none 0 0) [] := ⟨⟨by simp, .inl ⟨rfl, rfl⟩⟩, by simp⟩
theorem leafSpans_any (X Y n : Int) (w : World) : Calls Tryz.prog 263 #[.int .i64 X, .int .i64 Y, .int .i64 n] w fun e w' => ∃ v, e = .returned v ∧ SRow w' w.heap.size v (lfSp (X, Y) n) ∧ Below w.heap.size w w' := by
  unfold lfSp
  by_cases h : X < Y
  · rw [if_pos h]
    have h2 : ¬ (Y ≤ X) := by omega
    go_enter Tryz.func263, Tryz.ntmps263
    go_wp2
    go_ret
    exact ⟨_, rfl, lfRow w ⟨X, Y, n, n⟩, lowAlloc (lowRefl w) _⟩
  · rw [if_neg h]
    have h2 : Y ≤ X := by omega
    go_enter Tryz.func263, Tryz.ntmps263
    go_wp2
    go_ret
    exact ⟨_, rfl, spNil _ _, lowRefl w⟩
/- the spans of a ray in a shape: the program's methods -/
set_option maxRecDepth 100000 in
theorem cut_any (r : Sx) (k : Rok r.a r.b r.c r.d r.e r.f) : ∀ (s : Sh), s.ok → s.sfc → s.nl ≤ 100 → ∀ w, Calls Tryz.prog s.cutF #[s.rcv, r.val] w fun e w' => ∃ v, e = .returned v ∧ SRow w' w.heap.size v (s.sp r) ∧ Below w.heap.size w w'
  | .half q n, h, hs, hn, w => by
    have HC := Lib.hid ((hCut_at q r h k).2.1)
    show Calls Tryz.prog 260 #[.agg #[.int .i64 q.f, .int .i64 q.t, .int .i64 q.i, .int .i64 q.o, .int .i64 n], r.val] w _
    show Calls Tryz.prog 260 _ w fun e w' => ∃ v, e = .returned v ∧ SRow w' w.heap.size v (lfSp (hCut q r) n) ∧ Below w.heap.size w w'
    generalize hCut q r = c at *
    obtain ⟨X, Y⟩ := c
    simp only at HC
    go_enter Tryz.func260, Tryz.ntmps260
    go_wp2_with (first | (go_at_call 262; ((with_reducible refine (HC.out _).mono ?_); rintro e w' ⟨rfl, hbq⟩; (try (have B0 := Jb (b := w.heap.size) (by repeat' (first|with_reducible (first|assumption|apply J0|apply J1|apply J2|apply J3|apply J4|apply J5|apply J6|apply J7|apply J8|apply J9)|(with_reducible show _ ≠ _;first|omega|(simp;done)))) hbq; have C0 := Jc B0; have F0 := Jf B0)); (try (have B1 := Jb (b := w.heap.size + 1) (by repeat' (first|with_reducible (first|assumption|apply J0|apply J1|apply J2|apply J3|apply J4|apply J5|apply J6|apply J7|apply J8|apply J9)|(with_reducible show _ ≠ _;first|omega|(simp;done)))) hbq; have C1 := Jc B1; have F1 := Jf B1)))) | (go_at_call 263; (with_reducible refine (leafSpans_any _ _ _ _).mono ?_); rintro e w2 ⟨v, rfl, hr, hb2⟩))
    have hL : Below w.heap.size w w' := by repeat' (first|with_reducible (first|exact lowRefl _|apply lowSet|apply lowDrew|apply lowDrewN|apply lowAlloc)|(with_reducible refine lowCall ?_ (by assumption))|(show (_ : Nat) ≤ _;first|(simp;done)|(simp;omega)|omega))
    go_ret
    exact ⟨_, rfl, RowK.mono hr hL.size, lowCall hL hb2⟩
  | .ball q n, h, hs, hn, w => by
    have HC := Lib.hid ((bCut_at q r h k).2.1)
    show Calls Tryz.prog 266 #[.agg #[.int .i64 q.f, .int .i64 q.t, .int .i64 q.i, .int .i64 q.o, .int .i64 n], r.val] w _
    show Calls Tryz.prog 266 _ w fun e w' => ∃ v, e = .returned v ∧ SRow w' w.heap.size v (lfSp (bCut q r) n) ∧ Below w.heap.size w w'
    generalize bCut q r = c at *
    obtain ⟨X, Y⟩ := c
    simp only at HC
    go_enter Tryz.func266, Tryz.ntmps266
    go_wp2_with (first | (go_at_call 269; ((with_reducible refine (HC.out _).mono ?_); rintro e w' ⟨rfl, hbq⟩; (try (have B0 := Jb (b := w.heap.size) (by repeat' (first|with_reducible (first|assumption|apply J0|apply J1|apply J2|apply J3|apply J4|apply J5|apply J6|apply J7|apply J8|apply J9)|(with_reducible show _ ≠ _;first|omega|(simp;done)))) hbq; have C0 := Jc B0; have F0 := Jf B0)); (try (have B1 := Jb (b := w.heap.size + 1) (by repeat' (first|with_reducible (first|assumption|apply J0|apply J1|apply J2|apply J3|apply J4|apply J5|apply J6|apply J7|apply J8|apply J9)|(with_reducible show _ ≠ _;first|omega|(simp;done)))) hbq; have C1 := Jc B1; have F1 := Jf B1)))) | (go_at_call 263; (with_reducible refine (leafSpans_any _ _ _ _).mono ?_); rintro e w2 ⟨v, rfl, hr, hb2⟩))
    have hL : Below w.heap.size w w' := by repeat' (first|with_reducible (first|exact lowRefl _|apply lowSet|apply lowDrew|apply lowDrewN|apply lowAlloc)|(with_reducible refine lowCall ?_ (by assumption))|(show (_ : Nat) ≤ _;first|(simp;done)|(simp;omega)|omega))
    go_ret
    exact ⟨_, rfl, RowK.mono hr hL.size, lowCall hL hb2⟩
  | .box x n, h, hs, hn, w => by
    have HC := Lib.hid ((xCut_at x r h.1 k).2.1)
    show Calls Tryz.prog 277 #[.agg #[.int .i64 x.a, .int .i64 x.b, .int .i64 x.c, .int .i64 x.d, .int .i64 x.e, .int .i64 x.f, .int .i64 n], r.val] w _
    show Calls Tryz.prog 277 _ w fun e w' => ∃ v, e = .returned v ∧ SRow w' w.heap.size v (lfSp (xCut x r) n) ∧ Below w.heap.size w w'
    generalize xCut x r = c at *
    obtain ⟨X, Y⟩ := c
    simp only at HC
    go_enter Tryz.func277, Tryz.ntmps277
    go_wp2_with (first | (go_at_call 42; ((with_reducible refine (HC.out _).mono ?_); rintro e w' ⟨rfl, hbq⟩; (try (have B0 := Jb (b := w.heap.size) (by repeat' (first|with_reducible (first|assumption|apply J0|apply J1|apply J2|apply J3|apply J4|apply J5|apply J6|apply J7|apply J8|apply J9)|(with_reducible show _ ≠ _;first|omega|(simp;done)))) hbq; have C0 := Jc B0; have F0 := Jf B0)); (try (have B1 := Jb (b := w.heap.size + 1) (by repeat' (first|with_reducible (first|assumption|apply J0|apply J1|apply J2|apply J3|apply J4|apply J5|apply J6|apply J7|apply J8|apply J9)|(with_reducible show _ ≠ _;first|omega|(simp;done)))) hbq; have C1 := Jc B1; have F1 := Jf B1)))) | (go_at_call 263; (with_reducible refine (leafSpans_any _ _ _ _).mono ?_); rintro e w2 ⟨v, rfl, hr, hb2⟩))
    have hL : Below w.heap.size w w' := by repeat' (first|with_reducible (first|exact lowRefl _|apply lowSet|apply lowDrew|apply lowDrewN|apply lowAlloc)|(with_reducible refine lowCall ?_ (by assumption))|(show (_ : Nat) ≤ _;first|(simp;done)|(simp;omega)|omega))
    go_ret
    exact ⟨_, rfl, RowK.mono hr hL.size, lowCall hL hb2⟩
  | .either a b, h, hs, hn, w => by
    have hna : a.nl + b.nl ≤ 100 := hn
    have HA := Lib.hid (cut_any r k a h.1 hs.1 (by omega))
    have HB := Lib.hid (cut_any r k b h.2 hs.2 (by omega))
    have ga := Lib.hid (sp_good r k a h.1 hs.1)
    have gb := Lib.hid (sp_good r k b h.2 hs.2)
    have la : (a.sp r).length ≤ a.nl := sp_len r a
    have lb : (b.sp r).length ≤ b.nl := sp_len r b
    show Calls Tryz.prog 280 #[.agg #[a.val, b.val], r.val] w _
    show Calls Tryz.prog 280 _ w fun e w' => ∃ v, e = .returned v ∧ SRow w' w.heap.size v (spTotal 1 (a.sp r) (b.sp r)) ∧ Below w.heap.size w w'
    rw [← put_total ga.out gb.out (by omega)]
    clear ga gb
    generalize a.sp r = sa at *
    generalize b.sp r = sb at *
    go_enter Tryz.func280, Tryz.ntmps280
    go_upto_region 1 with fail
    refine (fun (k : ∀ wm, Has wm w.heap.size #[a.val, b.val] 252 → Has wm (w.heap.size + 1) #[.int .i64 (r.a), .int .i64 (r.b), .int .i64 (r.c), .int .i64 (r.d), .int .i64 (r.e), .int .i64 (r.f)] 52 → Below w.heap.size w wm → Code.wp _ _ _ _ wm) => k _ ?_ ?_ ?_) ?_
    · (refine Has.as (by repeat' (first|with_reducible (first|assumption|apply J0|apply J1|apply J2|apply J3|apply J4|apply J5|apply J6|apply J7|apply J8|apply J9)|(with_reducible show _ ≠ _;first|omega|(simp;done)))) ?_; first | (with_reducible rfl) | (simp only [List.setIfInBounds_toArray, List.set_cons_zero, List.set_cons_succ]; first | done | rfl) | rfl | (simp; done))
    · (refine Has.as (by repeat' (first|with_reducible (first|assumption|apply J0|apply J1|apply J2|apply J3|apply J4|apply J5|apply J6|apply J7|apply J8|apply J9)|(with_reducible show _ ≠ _;first|omega|(simp;done)))) ?_; first | (with_reducible rfl) | (simp only [List.setIfInBounds_toArray, List.set_cons_zero, List.set_cons_succ]; first | done | rfl) | rfl | (simp; done))
    · repeat' (first|with_reducible (first|exact lowRefl _|apply lowSet|apply lowDrew|apply lowDrewN|apply lowAlloc)|(with_reducible refine lowCall ?_ (by assumption))|(show (_ : Nat) ≤ _;first|(simp;done)|(simp;omega)|omega))
    intro w1 B0 B1 hL
    refine wp_region_heldF [true, true, true, false, true, true, true] 3 (by kernel_rfl) (by kernel_rfl) rfl (fun _ _ _ d _ h => by cases d <;> exact h) ?_
    intro Fq hFq
    simp only [maskL]
    repeat (first | (refine wpHeld_skip (by rfl) ?_; ((try simp only [Act.put, List.setIfInBounds_toArray, List.set_cons_zero, List.set_cons_succ]))) | (refine wpHeld_run ?_ rfl ?_ ?_; rotate_left; (focus (intro w' hbq Kq hKq; go_simp; (try (rw [IntWalk.i64_in]; rotate_left; focus (constructor <;> omega))); first | exact hKq _ (Below.refl _ _) | (have C0 := Jc (B0.below (undrew hbq)); have C1 := Jc (B1.below (undrew hbq)); go_simp; exact hKq _ (Below.refl _ _)))); ((try simp only [Act.put, List.setIfInBounds_toArray, List.set_cons_zero, List.set_cons_succ]))))
    refine wpHeld_nil (hFq _ ⟨fun v w2 => SRow w2 w.heap.size v sa, fun v w1 w2 h k => RowK.below h k, ?_, ?_, ?_⟩)
    · rfl
    · intro w2 hS2 K hK
      go_simp
      go_at_fn (Sh.cutF a); (with_reducible refine (HA.out _).mono ?_); rintro e w3 ⟨vc, rfl, hr, hb⟩
      refine back ?_
      exact hK _ _ hb (RowK.mono hr (Nat.le_trans hL.size hS2.size))
    · intro va w2 hS2 ra
      have hL2 := lowCall hL (undrew hS2)
      clear hFq
      simp only [List.length_cons, List.length_nil, Nat.zero_add, Nat.reduceAdd, List.drop_succ_cons, List.drop_zero]
      go_wp2_with (first | (go_at_fn (Sh.cutF b); (with_reducible refine (HB.out _).mono ?_); rintro e w3 ⟨vb, rfl, rb, b3⟩) | (go_at_call 61; (with_reducible refine (ispansEither_any sa sb va vb _ (SRow.seen (RowK.below ra b3)) (SRow.seen rb) (by omega) (by omega)).mono ?_); rintro e w4 ⟨vt, rfl, rt, b4⟩))
      have hL3 := lowCall hL2 b3
      go_ret
      exact ⟨_, rfl, RowK.mono rt hL3.size, lowCall hL3 b4⟩
  | .both a b, h, hs, hn, w => by
    have hna : a.nl + b.nl ≤ 100 := hn
    have HA := Lib.hid (cut_any r k a h.1 hs.1 (by omega))
    have HB := Lib.hid (cut_any r k b h.2 hs.2 (by omega))
    have ga := Lib.hid (sp_good r k a h.1 hs.1)
    have gb := Lib.hid (sp_good r k b h.2 hs.2)
    have la : (a.sp r).length ≤ a.nl := sp_len r a
    have lb : (b.sp r).length ≤ b.nl := sp_len r b
    show Calls Tryz.prog 284 #[.agg #[a.val, b.val], r.val] w _
    show Calls Tryz.prog 284 _ w fun e w' => ∃ v, e = .returned v ∧ SRow w' w.heap.size v (spTotal 0 (a.sp r) (b.sp r)) ∧ Below w.heap.size w w'
    rw [← put_total ga.out gb.out (by omega)]
    clear ga gb
    generalize a.sp r = sa at *
    generalize b.sp r = sb at *
    go_enter Tryz.func284, Tryz.ntmps284
    go_upto_region 1 with fail
    refine (fun (k : ∀ wm, Has wm w.heap.size #[a.val, b.val] 253 → Has wm (w.heap.size + 1) #[.int .i64 (r.a), .int .i64 (r.b), .int .i64 (r.c), .int .i64 (r.d), .int .i64 (r.e), .int .i64 (r.f)] 52 → Below w.heap.size w wm → Code.wp _ _ _ _ wm) => k _ ?_ ?_ ?_) ?_
    · (refine Has.as (by repeat' (first|with_reducible (first|assumption|apply J0|apply J1|apply J2|apply J3|apply J4|apply J5|apply J6|apply J7|apply J8|apply J9)|(with_reducible show _ ≠ _;first|omega|(simp;done)))) ?_; first | (with_reducible rfl) | (simp only [List.setIfInBounds_toArray, List.set_cons_zero, List.set_cons_succ]; first | done | rfl) | rfl | (simp; done))
    · (refine Has.as (by repeat' (first|with_reducible (first|assumption|apply J0|apply J1|apply J2|apply J3|apply J4|apply J5|apply J6|apply J7|apply J8|apply J9)|(with_reducible show _ ≠ _;first|omega|(simp;done)))) ?_; first | (with_reducible rfl) | (simp only [List.setIfInBounds_toArray, List.set_cons_zero, List.set_cons_succ]; first | done | rfl) | rfl | (simp; done))
    · repeat' (first|with_reducible (first|exact lowRefl _|apply lowSet|apply lowDrew|apply lowDrewN|apply lowAlloc)|(with_reducible refine lowCall ?_ (by assumption))|(show (_ : Nat) ≤ _;first|(simp;done)|(simp;omega)|omega))
    intro w1 B0 B1 hL
    refine wp_region_heldF [true, true, true, false, true, true, true] 3 (by kernel_rfl) (by kernel_rfl) rfl (fun _ _ _ d _ h => by cases d <;> exact h) ?_
    intro Fq hFq
    simp only [maskL]
    repeat (first | (refine wpHeld_skip (by rfl) ?_; ((try simp only [Act.put, List.setIfInBounds_toArray, List.set_cons_zero, List.set_cons_succ]))) | (refine wpHeld_run ?_ rfl ?_ ?_; rotate_left; (focus (intro w' hbq Kq hKq; go_simp; (try (rw [IntWalk.i64_in]; rotate_left; focus (constructor <;> omega))); first | exact hKq _ (Below.refl _ _) | (have C0 := Jc (B0.below (undrew hbq)); have C1 := Jc (B1.below (undrew hbq)); go_simp; exact hKq _ (Below.refl _ _)))); ((try simp only [Act.put, List.setIfInBounds_toArray, List.set_cons_zero, List.set_cons_succ]))))
    refine wpHeld_nil (hFq _ ⟨fun v w2 => SRow w2 w.heap.size v sa, fun v w1 w2 h k => RowK.below h k, ?_, ?_, ?_⟩)
    · rfl
    · intro w2 hS2 K hK
      go_simp
      go_at_fn (Sh.cutF a); (with_reducible refine (HA.out _).mono ?_); rintro e w3 ⟨vc, rfl, hr, hb⟩
      refine back ?_
      exact hK _ _ hb (RowK.mono hr (Nat.le_trans hL.size hS2.size))
    · intro va w2 hS2 ra
      have hL2 := lowCall hL (undrew hS2)
      clear hFq
      simp only [List.length_cons, List.length_nil, Nat.zero_add, Nat.reduceAdd, List.drop_succ_cons, List.drop_zero]
      go_wp2_with (first | (go_at_fn (Sh.cutF b); (with_reducible refine (HB.out _).mono ?_); rintro e w3 ⟨vb, rfl, rb, b3⟩) | (go_at_call 62; (with_reducible refine (ispansBoth_any sa sb va vb _ (SRow.seen (RowK.below ra b3)) (SRow.seen rb) (by omega) (by omega)).mono ?_); rintro e w4 ⟨vt, rfl, rt, b4⟩))
      have hL3 := lowCall hL2 b3
      go_ret
      exact ⟨_, rfl, RowK.mono rt hL3.size, lowCall hL3 b4⟩
  | .less a b, h, hs, hn, w => by
    have hna : a.nl + b.nl ≤ 100 := hn
    have HA := Lib.hid (cut_any r k a h.1 hs.1 (by omega))
    have HB := Lib.hid (cut_any r k b h.2 hs.2 (by omega))
    have ga := Lib.hid (sp_good r k a h.1 hs.1)
    have gb := Lib.hid (sp_good r k b h.2 hs.2)
    have la : (a.sp r).length ≤ a.nl := sp_len r a
    have lb : (b.sp r).length ≤ b.nl := sp_len r b
    show Calls Tryz.prog 288 #[.agg #[a.val, b.val], r.val] w _
    show Calls Tryz.prog 288 _ w fun e w' => ∃ v, e = .returned v ∧ SRow w' w.heap.size v (spTotal 2 (a.sp r) (b.sp r)) ∧ Below w.heap.size w w'
    rw [← put_total ga.out gb.out (by omega)]
    clear ga gb
    generalize a.sp r = sa at *
    generalize b.sp r = sb at *
    go_enter Tryz.func288, Tryz.ntmps288
    go_upto_region 1 with fail
    refine (fun (k : ∀ wm, Has wm w.heap.size #[a.val, b.val] 254 → Has wm (w.heap.size + 1) #[.int .i64 (r.a), .int .i64 (r.b), .int .i64 (r.c), .int .i64 (r.d), .int .i64 (r.e), .int .i64 (r.f)] 52 → Below w.heap.size w wm → Code.wp _ _ _ _ wm) => k _ ?_ ?_ ?_) ?_
    · (refine Has.as (by repeat' (first|with_reducible (first|assumption|apply J0|apply J1|apply J2|apply J3|apply J4|apply J5|apply J6|apply J7|apply J8|apply J9)|(with_reducible show _ ≠ _;first|omega|(simp;done)))) ?_; first | (with_reducible rfl) | (simp only [List.setIfInBounds_toArray, List.set_cons_zero, List.set_cons_succ]; first | done | rfl) | rfl | (simp; done))
    · (refine Has.as (by repeat' (first|with_reducible (first|assumption|apply J0|apply J1|apply J2|apply J3|apply J4|apply J5|apply J6|apply J7|apply J8|apply J9)|(with_reducible show _ ≠ _;first|omega|(simp;done)))) ?_; first | (with_reducible rfl) | (simp only [List.setIfInBounds_toArray, List.set_cons_zero, List.set_cons_succ]; first | done | rfl) | rfl | (simp; done))
    · repeat' (first|with_reducible (first|exact lowRefl _|apply lowSet|apply lowDrew|apply lowDrewN|apply lowAlloc)|(with_reducible refine lowCall ?_ (by assumption))|(show (_ : Nat) ≤ _;first|(simp;done)|(simp;omega)|omega))
    intro w1 B0 B1 hL
    refine wp_region_heldF [true, true, true, false, true, true, true] 3 (by kernel_rfl) (by kernel_rfl) rfl (fun _ _ _ d _ h => by cases d <;> exact h) ?_
    intro Fq hFq
    simp only [maskL]
    repeat (first | (refine wpHeld_skip (by rfl) ?_; ((try simp only [Act.put, List.setIfInBounds_toArray, List.set_cons_zero, List.set_cons_succ]))) | (refine wpHeld_run ?_ rfl ?_ ?_; rotate_left; (focus (intro w' hbq Kq hKq; go_simp; (try (rw [IntWalk.i64_in]; rotate_left; focus (constructor <;> omega))); first | exact hKq _ (Below.refl _ _) | (have C0 := Jc (B0.below (undrew hbq)); have C1 := Jc (B1.below (undrew hbq)); go_simp; exact hKq _ (Below.refl _ _)))); ((try simp only [Act.put, List.setIfInBounds_toArray, List.set_cons_zero, List.set_cons_succ]))))
    refine wpHeld_nil (hFq _ ⟨fun v w2 => SRow w2 w.heap.size v sa, fun v w1 w2 h k => RowK.below h k, ?_, ?_, ?_⟩)
    · rfl
    · intro w2 hS2 K hK
      go_simp
      go_at_fn (Sh.cutF a); (with_reducible refine (HA.out _).mono ?_); rintro e w3 ⟨vc, rfl, hr, hb⟩
      refine back ?_
      exact hK _ _ hb (RowK.mono hr (Nat.le_trans hL.size hS2.size))
    · intro va w2 hS2 ra
      have hL2 := lowCall hL (undrew hS2)
      clear hFq
      simp only [List.length_cons, List.length_nil, Nat.zero_add, Nat.reduceAdd, List.drop_succ_cons, List.drop_zero]
      go_wp2_with (first | (go_at_fn (Sh.cutF b); (with_reducible refine (HB.out _).mono ?_); rintro e w3 ⟨vb, rfl, rb, b3⟩) | (go_at_call 63; (with_reducible refine (ispansLess_any sa sb va vb _ (SRow.seen (RowK.below ra b3)) (SRow.seen rb) (by omega) (by omega)).mono ?_); rintro e w4 ⟨vt, rfl, rt, b4⟩))
      have hL3 := lowCall hL2 b3
      go_ret
      exact ⟨_, rfl, RowK.mono rt hL3.size, lowCall hL3 b4⟩
end Go.Proofs.YtegibpepdndocabGreat
end
