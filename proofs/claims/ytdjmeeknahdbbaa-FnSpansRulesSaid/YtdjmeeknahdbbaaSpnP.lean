
import Derived.Test.YtdjmeeknahdbbaaSpnG
import Derived.Test.YtdjmeeknahdbbaaSpnW
namespace Go.Proofs.Ytdjmeeknahdbbaa
open Go.ChangeShapes Go.WideShapes Go.ChangeAt Go.RowKit
set_option maxHeartbeats 2000000
set_option maxRecDepth 8000
set_option linter.unusedSimpArgs false
attribute [local go_sem] VGo_value VGo_skip VGo_enter

/- what is open yet -/
def openS (o : Bool) (f s : Int) : List Sp := if o then [⟨f, 0, s, 0⟩] else []
theorem Evs_here {op : Nat} {a b : List Sp} {k n p q : Nat} {f s : Int} {l : List Sp} (h : SpHere op a b k n p q f s l) (hk : k < (Evs a b).length) : ¬ (p = 2 * a.length ∧ q = 2 * b.length) ∧ (Evs a b).getD k 0 = atN a b p q := by
  have hd : ¬ (p = 2 * a.length ∧ q = 2 * b.length) := fun hd => by have := (h.over hd).2.2; omega
  obtain ⟨m, _, hg, _⟩ := h.not_over hd
  refine ⟨hd, ?_⟩
  simp [List.getD, hg]
theorem SRow.shut {w : World} {B g n c : Nat} {l : List Sp} {f s t o : Int} (h : SRow w B (.slice (some ⟨g, 0, none⟩) n c) (l ++ [⟨f, 0, s, 0⟩])) (hn : n = l.length + 1) :
    SRow ((w.setCell ⟨g, l.length * 4 + 1, none⟩ (.int .i64 t)).setCell ⟨g, l.length * 4 + 3, none⟩ (.int .i64 o)) B (.slice (some ⟨g, 0, none⟩) n c) (l ++ [⟨f, t, s, o⟩]) := by
  obtain ⟨h1, _⟩ := h.store (by simpa using hn) l.length 1 (by simp) (by omega) (.int .i64 t)
  obtain ⟨h2, _⟩ := h1.store (by simpa using hn) l.length 3 (by simp) (by omega) (.int .i64 o)
  have e : (l ++ [⟨f, t, s, o⟩] : List Sp).map Sp.cells = ((l ++ [⟨f, 0, s, 0⟩] : List Sp).map Sp.cells).set l.length (Sp.cells ⟨f, t, s, o⟩) := by
    rw [List.map_append, List.map_append, List.set_append_right _ _ (by simp)]
    simp
  rw [SRow, e]
  simp [Sp.cells] at h2
  simpa [Sp.cells] using h2
theorem l5Put_any (op : Nat) (hop : op ≤ 2) (a b : List Sp) (va vb : Value) (w : World) (ha : SIn w va a) (hb : SIn w vb b) (hal : a.length ≤ 200) (hbl : b.length ≤ 200) (hga : SpsGood a) (hgb : SpsGood b) :
    Calls Try.prog 89 #[.int .i64 op, va, vb] w fun e w' => ∃ v', e = .returned v' ∧ SRow w' w.heap.size v' (spTotal op a b) ∧ Below w.heap.size w w' := by
  have HA := Lib.hid ha
  have HB := Lib.hid hb
  have HGA := Lib.hid hga
  have HGB := Lib.hid hgb
  clear ha hb hga hgb
  have hop5 : (op : Int) ≤ 2 := by omega
  go_enter Try.func89, Try.ntmps89
  go_upto_region 2 with (first | (go_at_call 115; (with_reducible refine (l5Ends_any a va _ HA.out (by omega)).mono ?_); rintro e w1 ⟨v1, rfl, hr1, hb1⟩) | (go_at_call 115; (with_reducible refine (l5Ends_any b vb _ (HB.out.below hb1) (by omega)).mono ?_); rintro e w2 ⟨v2, rfl, hr2, hb2⟩) | (go_at_call 114; (with_reducible refine (l5Merged_any a b v1 v2 _ HGA.out HGB.out hal hbl (ZRow.seen (hr1.below hb2)) (ZRow.seen hr2)).mono ?_); rintro e w3 ⟨v3, rfl, hr3, hb3⟩))
  have hL := lowCall (lowCall hb1 hb2) hb3
  have HA3 := Lib.hid (HA.out.below hL)
  have HB3 := Lib.hid (HB.out.below hL)
  have hz := ZRow.seen hr3
  clear hr1 hr2 hr3 hb1 hb2 hb3 HA HB
  obtain ⟨E, ce, rfl, hE⟩ := hz
  have HE : Hid (0 < (Evs a b).length → ∃ b' off, E = some ⟨b', off, none⟩ ∧ ∀ i, i < (Evs a b).length → w3.cell? ⟨b', off + i, none⟩ = some (.int .i64 ((Evs a b).getD i 0))) := Lib.hid fun h => by
    obtain ⟨b', off, hA, hf⟩ := hE h
    exact ⟨b', off, hA, fun i hi => by rw [hf i hi]; simp [List.getD, hi]⟩
  clear hE
  go_upto_region 3 with fail
  have hr0 : SRow (w3.alloc (.cells #[] 60)) w3.heap.size (.slice (some ⟨w3.heap.size, 0, none⟩) 0 0) [] := RowK.empty w3 _ _ _ (Nat.le_refl _)
  have hb0 : Below w3.heap.size w3 (w3.alloc (.cells #[] 60)) := by repeat' (first | with_reducible exact lowRefl _ | with_reducible apply lowSet | with_reducible apply lowDrew | with_reducible apply lowDrewN | with_reducible apply lowAlloc | (with_reducible refine lowCall ?_ (by assumption)) | (show (_ : Nat) ≤ _; first | (simp; done) | (simp; omega) | omega))
  generalize w3.alloc (.cells #[] 60) = w4 at *
  have hz0 : spHas op (spOdd 0) (spOdd 0) = false := by unfold spHas spOdd; simp
  go_wp2
  go_loopw [8, 9, 10] (fun o ob i wr => ∃ (k n p q : Nat) (f s : Int) (shut : List Sp) (vo : Value) (ho : Bool), vo = o ∧ ob = .bool ho ∧ i = .int .i64 k ∧ ho = spHas op (spOdd p) (spOdd q) ∧ SpHere op a b k n p q f s shut ∧ k ≤ (Evs a b).length ∧ SRow wr w3.heap.size vo (shut ++ openS ho f s) ∧ Below w3.heap.size w3 wr) (fun _ _ i _ => (Evs a b).length - (intOf i).toNat)
  case atStart => exact ⟨0, _, 0, 0, 0, 0, [], _, false, rfl, rfl, rfl, hz0.symm, here_start HGA.out HGB.out, by omega, hr0, hb0⟩
  case round =>
    clear hr0 hb0 hz0 w4
    obtain ⟨k, n, p, q, f, s, shut, vo, ho, rfl, rfl, rfl, hho, hh, hkl, hr, hb⟩ := hrel
    have HH := Lib.hid hh
    have HO := Lib.hid hho
    have hsl := shut_le hh
    have htl := total_le op a b
    have hEl := Evs_len a b
    clear hh hho
    by_cases hk : k < (Evs a b).length
    · obtain ⟨gE, oE, rfl, hf⟩ := HE.out (by omega)
      have cE := hf k hk
      obtain ⟨hd, hat⟩ := Evs_here HH.out hk
      rw [hat] at cE
      have hlE := block_lt_of_cell cE
      have hHA := hasAt_step (op := op) HGA.out HGB.out HH.out.at2 hd
      have hSU := surf_step hop HGA.out HGB.out HH.out.at2 hd
      have HST := Lib.hid (HH.out.step HGA.out HGB.out hd)
      have HSU := Lib.hid hSU
      clear hf hat hSU
      generalize pA a b p q = p2 at *
      generalize qB a b p q = q2 at *
      generalize atN a b p q = t at *
      generalize suN op a b p q = u at *
      have c1 := cell_lift cE (hb.block _ hlE)
      have HA4 := Lib.hid (HA3.out.below hb)
      have HB4 := Lib.hid (HB3.out.below hb)
      generalize (Evs a b).length = ne at *
      go_upto_region 8 with (go_at_call 116; refine (l5Has_any op hop a b va vb t _ HA4.out HB4.out (by omega) (by omega)).mono ?_; rintro e w' ⟨rfl, rfl⟩; rw [hHA])
      have hx : hasAt op a b t = spHas op (spOdd p2) (spOdd q2) := hHA
      clear hHA hx
      cases ho
      · cases hn : spHas op (spOdd p2) (spOdd q2)
        · have HN := Lib.hid hn
          clear hn
          have HS := Lib.hid (HST.out.1 (by rw [HN.out, HO.out]))
          go_wp2
          go_roundw
          case rel => exact ⟨k + 1, n - 1, p2, q2, f, s, shut, vo, _, rfl, rfl, by go_num, HN.out.symm, HS.out, by omega, hr, hb⟩
          case measure => simp [intOf]; omega
        · have HN := Lib.hid hn
          clear hn
          have HS := Lib.hid (HST.out.2.1 HN.out HO.out.symm)
          have hbe := HSU.out.1 HO.out.symm HN.out
          go_upto_region 9 with fail
          have hown : ∀ c, c < w3.heap.size → some c ≠ vo.ownBlock := fun c hc => own_lo hr.own hc
          have NE : ∀ w', wr.drew.grownBy w' vo.ownBlock → w'.cell? ⟨gE, oE + k, none⟩ = some (.int .i64 t) := fun w' hg => cell_lift c1 (hg.block _ (Nat.lt_of_lt_of_le hlE hb.size) (hown _ hlE))
          have NA : ∀ w', wr.drew.grownBy w' vo.ownBlock → SIn w' va a := fun w' hg => HA3.out.lift fun c _ hlt => (hg.block c (Nat.lt_of_lt_of_le hlt hb.size) (hown c hlt)).trans (hb.block c hlt)
          have NB : ∀ w', wr.drew.grownBy w' vo.ownBlock → SIn w' vb b := fun w' hg => HB3.out.lift fun c _ hlt => (hg.block c (Nat.lt_of_lt_of_le hlt hb.size) (hown c hlt)).trans (hb.block c hlt)
          refine wp_region_heldA 14 (by kernel_rfl) (by kernel_rfl) rfl rfl rfl (fun _ _ _ d _ h => by cases d <;> exact h) (fun w' => wr.drew.grownBy w' vo.ownBlock) (fun w' => SRow w' w3.heap.size vo (shut ++ openS false f s)) wr.heap.size grown_stab (fun w' h => h.size) (fun w1 w2 h k => h.below k) (World.grownBy.refl _ _) hr.drew ?_
          intro Fq hFq
          simp only [List.take_succ_cons, List.take_zero]
          repeat (first | (refine wpHeld_skip (by rfl) ?_; ((try simp only [Act.put, List.setIfInBounds_toArray, List.set_cons_zero, List.set_cons_succ]))) | (refine wpHeld_run ?_ rfl ?_ ?_; rotate_left; (focus (intro w' hbq Kq hKq; go_simp; (try (rw [IntWalk.i64_in]; rotate_left; focus (constructor <;> omega))); first | exact hKq _ (Below.refl _ _) | first | (go_at_call 117; (with_reducible refine (l5Begin_any op hop a b va vb t _ (NA _ hbq) (NB _ hbq) (by omega) (by omega) HGB.out).mono ?_); rintro e w2 ⟨rfl, rfl⟩; rw [hbe]; refine back ?_; exact hKq _ (Below.refl _ _)) | (have c2 := NE _ hbq; go_simp; exact hKq _ (Below.refl _ _)))); ((try simp only [Act.put, List.setIfInBounds_toArray, List.set_cons_zero, List.set_cons_succ]))))
          refine wpHeld_nil (hFq _ ⟨1, .cells #[.int .i64 t, .int .i64 0, .int .i64 u, .int .i64 0] 60, fun v' w' => SRow w' w3.heap.size v' (shut ++ openS true t u), fun v' w1 w2 h k => h.below k, rfl, ?_, fun _ => rfl, ?_, ?_⟩)
          · intro w' _ _ K hK
            go_simp
            exact hK
          · intro b0 w1 hS1 hF1 hN hB K hK
            refine append_wp w1 _ _ 53 60 4 32 _ rfl Try.underlying53 infoSp rfl (by omega) w3.heap.size vo _ [Sp.cells ⟨t, 0, u, 0⟩] hF1 rfl b0 1 rfl _ _ hB rfl rfl (by simp [Sp.cells]) (fun x hx => sp_one x (by simpa using hx)) (by simp [openS]; omega) (by omega) (by have := hb.size; have := hS1.size; simp at this; omega) ?_
            intro v' w' h1 h2
            exact hK _ _ (by_trans hS1 h2) (show SRow _ _ _ (shut ++ [⟨t, 0, u, 0⟩]) from SRow.snoc (by simpa [openS] using h1))
          · intro b0 v' w1 hS1 hN hG1
            have hb2 : Below w3.heap.size w3 w1 := (lowDrew hb).grown hS1 (by simpa using hb.size) (fun g hg => (World.ownsRow.lt hr.own g hg).1)
            clear NA NB NE hr hFq hb c1 HA4 HB4 hown
            go_wp2
            go_roundw
            case rel => exact ⟨k + 1, n - 1, p2, q2, t, u, shut, v', _, rfl, rfl, by go_num, HN.out.symm, HS.out, by omega, hG1, hb2⟩
            case measure => simp [intOf]; omega
      · cases hn : spHas op (spOdd p2) (spOdd q2)
        · have HN := Lib.hid hn
          clear hn
          have HS := Lib.hid (HST.out.2.2 HN.out HO.out.symm)
          have hen := HSU.out.2 HO.out.symm HN.out
          have hr1 : SRow wr w3.heap.size vo (shut ++ [⟨f, 0, s, 0⟩]) := hr
          obtain ⟨A3, c3, hv3, hA3⟩ := SRow.shape0 hr1
          obtain ⟨g, rfl, hg1, hg2⟩ := hA3 (by simp)
          have hsl1 : (shut ++ [⟨f, 0, s, 0⟩] : List Sp).length = shut.length + 1 := by simp
          rw [hsl1] at hv3
          subst hv3
          obtain ⟨s0, d0, d1, d2, d3⟩ : ∃ s0, Four wr g (shut.length * 4) s0 := ⟨_, SRow.four hr1 hsl1.symm shut.length (by omega)⟩
          have hfz := RowK.frozen hr1 (by simp)
          have hne : gE ≠ g := by omega
          have hne2 : g ≠ gE := by omega
          have HSH := Lib.hid (SRow.shut hr1 rfl (t := t) (o := u))
          have hlow : ∀ (i : Nat) (x : Value), Below w3.heap.size w3 (wr.setCell ⟨g, i, none⟩ x) := fun i x => lowSet hb hg1 x
          have HLW := Lib.hid hlow
          clear hr hr1 hlow hsl1 hA3
          go_wp2_with (go_at_call 118; refine (l5End_any op hop a b va vb t _ (HA3.out.below (HLW.out _ _)) (HB3.out.below (HLW.out _ _)) (by omega) (by omega) HGB.out).mono ?_; rintro e w2 ⟨rfl, rfl⟩; rw [hen])
          go_roundw
          case rel => exact ⟨k + 1, n - 1, p2, q2, f, s, _, _, _, rfl, rfl, by go_num, HN.out.symm, HS.out.1, by omega, by simpa [openS] using HSH.out, lowSet (HLW.out _ _) hg1 _⟩
          case measure => simp [intOf]; omega
        · have HN := Lib.hid hn
          clear hn
          have HS := Lib.hid (HST.out.1 (by rw [HN.out, HO.out]))
          go_wp2
          go_roundw
          case rel => exact ⟨k + 1, n - 1, p2, q2, f, s, shut, vo, _, rfl, rfl, by go_num, HN.out.symm, HS.out, by omega, hr, hb⟩
          case measure => simp [intOf]; omega
    · have hd := HH.out.done_of (by omega)
      obtain ⟨ht, hf0, _⟩ := HH.out.over hd
      have hf1 : ho = false := by rw [HO.out]; exact hf0
      subst hf1
      have hr1 : SRow wr w3.heap.size vo (spTotal op a b) := by rw [← ht]; simpa [openS] using hr
      clear ht hf0 hd hr
      go_wp2
      go_ret
      exact ⟨_, rfl, hr1.mono hL.size, lowCall hL hb⟩
end Go.Proofs.Ytdjmeeknahdbbaa
