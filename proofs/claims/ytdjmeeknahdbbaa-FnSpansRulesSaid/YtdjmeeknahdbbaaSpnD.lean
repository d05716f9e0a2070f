
import Derived.Test.YtdjmeeknahdbbaaSpnW
import Derived.Test.YtdjmeeknahdbbaaRdB
namespace Go.Proofs.Ytdjmeeknahdbbaa
open Go.ChangeShapes Go.WideShapes Go.ChangeAt Go.RowKit
set_option maxHeartbeats 2000000
set_option maxRecDepth 8000
set_option linter.unusedSimpArgs false
set_option linter.unusedVariables false

/- one cell of a span in a row is set -/
theorem SRow.put {w : World} {B g n c : Nat} {l : List Sp} (h : SRow w B (.slice (some ⟨g, 0, none⟩) n c) l) (hn : n = l.length) (i j : Nat) (hi : i < l.length) (hj : j < 4) (z : Int) :
    ∃ l', l'.length = l.length ∧ SRow (w.setCell ⟨g, i * 4 + j, none⟩ (.int .i64 z)) B (.slice (some ⟨g, 0, none⟩) n c) l' := by
  obtain ⟨h1, _⟩ := h.store (by simpa using hn) i j (by simpa using hi) hj (.int .i64 z)
  have hs : ∃ s', ((l.map Sp.cells).getD i []).set j (.int .i64 z) = Sp.cells s' := by
    have e : (l.map Sp.cells).getD i [] = Sp.cells l[i] := by simp [List.getD, hi]
    rw [e]
    have : j = 0 ∨ j = 1 ∨ j = 2 ∨ j = 3 := by omega
    rcases this with rfl | rfl | rfl | rfl
    · exact ⟨⟨z, l[i].t, l[i].i, l[i].o⟩, rfl⟩
    · exact ⟨⟨l[i].f, z, l[i].i, l[i].o⟩, rfl⟩
    · exact ⟨⟨l[i].f, l[i].t, z, l[i].o⟩, rfl⟩
    · exact ⟨⟨l[i].f, l[i].t, l[i].i, z⟩, rfl⟩
  obtain ⟨s', hs⟩ := hs
  rw [hs] at h1
  exact ⟨l.set i s', by simp, by rw [SRow, List.map_set]; exact h1⟩
theorem l5Some_any (B g n c m : Nat) (A : Option Addr) (w : World) (hrd : Rd w B g A n c m) (hm : m ≤ 900000) :
    Calls Try.prog 91 #[.pointer (some ⟨g, 0, none⟩)] w fun e w' => ∃ v l, e = .returned v ∧ l.length ≤ 4 ∧ SRow w' w.heap.size v l ∧ Rd w' B g A n c (m + 40) ∧ w.grownBy w' (some g) := by
  have hg := hrd.lt
  have hlo := hrd.lo
  go_enter Try.func91, Try.ntmps91
  go_upto_region 2 with fail
  have hr0 : SRow (w.alloc (.cells #[] 60)) w.heap.size (.slice (some ⟨w.heap.size, 0, none⟩) 0 0) [] := RowK.empty w _ _ _ (Nat.le_refl _)
  have hG0 : w.grownBy (w.alloc (.cells #[] 60)) (some g) := gAlloc (World.grownBy.refl _ _) _
  have hrd0 := hrd.alloc (.cells #[] 60)
  generalize w.alloc (.cells #[] 60) = w1 at *
  clear hrd
  have hr := hr0
  have hG := hG0
  have hrd := hrd0
  clear hr0 hG0 hrd0
  go_upto_region 3 with (go_at_call 62; (with_reducible refine (pick_any B g n c _ A _ _ hrd (by omega) (by omega)).mono ?_); rintro e w' ⟨v, rfl, h0, h1, hrd2, hby⟩; have hr2 := RowK.pick hr hrd (by decide) hby; have hG2 := by_trans hG hby; (try have BX2 := BX.by_ hby (by omega)); clear hr hrd hG hby; (try clear CX); (try clear FX); (try clear BX); have hr := hr2; have hrd := hrd2; have hG := hG2; (try have BX := BX2); clear hr2 hrd2 hG2; (try clear BX2); (try have CX := Has.cell BX); (try have FX := Has.frozen BX))
  have hz0 : ∃ z : Int, z = v - 3 ∧ -1073741824 ≤ z ∧ z ≤ 500 := ⟨_, rfl, by omega, by omega⟩
  obtain ⟨z0, hz, hzl, hzh⟩ := hz0
  rw [← hz]
  clear hz h0 h1
  go_upto_region 5 with (go_at_call 62; (with_reducible refine (pick_any B g n c _ A _ _ hrd (by omega) (by omega)).mono ?_); rintro e w' ⟨v, rfl, h0, h1, hrd2, hby⟩; have hr2 := RowK.pick hr hrd (by decide) hby; have hG2 := by_trans hG hby; (try have BX2 := BX.by_ hby (by omega)); clear hr hrd hG hby; (try clear CX); (try clear FX); (try clear BX); have hr := hr2; have hrd := hrd2; have hG := hG2; (try have BX := BX2); clear hr2 hrd2 hG2; (try clear BX2); (try have CX := Has.cell BX); (try have FX := Has.frozen BX))
  · go_wp2_with (go_at_call 62; (with_reducible refine (pick_any B g n c _ A _ _ hrd (by omega) (by omega)).mono ?_); rintro e w' ⟨v, rfl, h0, h1, hrd2, hby⟩; have hr2 := RowK.pick hr hrd (by decide) hby; have hG2 := by_trans hG hby; (try have BX2 := BX.by_ hby (by omega)); clear hr hrd hG hby; (try clear CX); (try clear FX); (try clear BX); have hr := hr2; have hrd := hrd2; have hG := hG2; (try have BX := BX2); clear hr2 hrd2 hG2; (try clear BX2); (try have CX := Has.cell BX); (try have FX := Has.frozen BX))
    obtain ⟨k0, rfl⟩ := Int.eq_ofNat_of_zero_le h0
    have hk0 : k0 ≤ 4 := by omega
    clear h0 h1
    go_loopw [3, 4, 5] (fun o at_ i wr => ∃ (k : Nat) (at0 : Int) (vo : Value) (l : List Sp) (m0 : Nat), vo = o ∧ at_ = .int .i64 at0 ∧ i = .int .i64 k ∧ -1073741824 ≤ at0 ∧ at0 ≤ 5000 - 1000 * (k : Int) ∧ k ≤ 4 ∧ l.length + k ≤ 4 ∧ SRow wr w.heap.size vo l ∧ Rd wr B g A n c m0 ∧ m0 + 5 * k ≤ m + 25 ∧ w.grownBy wr (some g)) (fun _ _ i _ => (intOf i).toNat)
    case atStart => exact ⟨k0, _, _, [], _, rfl, rfl, rfl, by omega, by omega, hk0, by simpa using hk0, hr, hrd, by omega, hG⟩
    case round =>
      clear hr hrd hG
      obtain ⟨k, at0, vo, l, m0, rfl, rfl, rfl, ha1, ha2, hk4, hlk, hr, hrd, hm0, hG⟩ := hrel
      cases k with
      | zero =>
        clear hk0
        by_cases hl0 : l.length = 0
        · obtain ⟨A3, c3, hv3, _⟩ := SRow.shape0 hr
          rw [hl0] at hv3
          subst hv3
          go_wp2
          go_ret
          exact ⟨_, l, rfl, by omega, hr, hrd.mono (by omega), hG⟩
        · obtain ⟨A3, c3, hv3, hA3⟩ := SRow.shape0 hr
          obtain ⟨gv, rfl, hgv1, hgv2⟩ := hA3 (by omega)
          obtain ⟨len, hlen⟩ : ∃ len, l.length = len := ⟨_, rfl⟩
          have HLN := Lib.hid hlen
          rw [hlen] at hv3
          subst hv3
          have hl4 : len ≤ 4 := by omega
          have hl1 : 0 < len := by omega
          obtain ⟨len1, hlen1⟩ : ∃ q, len = q + 1 := ⟨len - 1, by omega⟩
          have e1 : decide ((0 : Int) < (len : Int)) = true := decide_eq_true (by omega)
          have e2 : (len : Int) - 1 = (len1 : Int) := by omega
          have hlt1 : len1 < len := by omega
          clear hlen hl0
          have HL1 := Lib.hid hlen1
          clear hlen1
          go_upto_region 17 with ((go_at_call 62; (with_reducible refine (pick_any B g n c _ A _ _ hrd (by omega) (by omega)).mono ?_); rintro e w' ⟨v, rfl, h0, h1, hrd2, hby⟩; have hr2 := RowK.pick hr hrd (by decide) hby; have hG2 := by_trans hG hby; (try have BX2 := BX.by_ hby (by omega)); clear hr hrd hG hby; (try clear CX); (try clear FX); (try clear BX); have hr := hr2; have hrd := hrd2; have hG := hG2; (try have BX := BX2); clear hr2 hrd2 hG2; (try clear BX2); (try have CX := Has.cell BX); (try have FX := Has.frozen BX)); obtain ⟨s0, d0, d1, d2, d3⟩ : ∃ s0, Four w' gv (len1 * 4) s0 := ⟨_, SRow.four hr HLN.out.symm len1 (by have := HLN.out; omega)⟩; have hfz := RowK.frozen hr (by have := HLN.out; simpa using this.symm))
          · obtain ⟨l2, hl2, hr2⟩ := SRow.put hr HLN.out.symm len1 1 (by have := HLN.out; omega) (by omega) 1073741824
            refine (fun (k : ∀ wm, SRow wm w.heap.size (.slice (some ⟨gv, 0, none⟩) len c3) l2 → Rd wm B g A n c (m0 + 1) → w.grownBy wm (some g) → Code.wp _ _ _ _ wm) => k _ hr2 ?_ ?_) ?_
            · refine hrd.set (by omega) (fun e => ?_) _ _
              obtain ⟨p, _, hc⟩ := hrd.cells
              exact own_ne hr.own (b := g) hc (by decide) (by rw [e]; rfl)
            · exact gSetOwn hG hgv1 _
            clear hr hrd hG hr2 d0 d1 d2 d3 hfz
            intro wm hr hrd hG
            have HLEN := Lib.hid (show l2.length = len by rw [hl2]; exact HLN.out)
            go_upto_region 18 with (go_at_call 62; (with_reducible refine (pick_any B g n c _ A _ _ hrd (by omega) (by omega)).mono ?_); rintro e w' ⟨v, rfl, h0, h1, hrd2, hby⟩; have hr2 := RowK.pick hr hrd (by decide) hby; have hG2 := by_trans hG hby; (try have BX2 := BX.by_ hby (by omega)); clear hr hrd hG hby; (try clear CX); (try clear FX); (try clear BX); have hr := hr2; have hrd := hrd2; have hG := hG2; (try have BX := BX2); clear hr2 hrd2 hG2; (try clear BX2); (try have CX := Has.cell BX); (try have FX := Has.frozen BX))
            · go_upto_region 19 with (go_at_call 62; (with_reducible refine (pick_any B g n c _ A _ _ hrd (by omega) (by omega)).mono ?_); rintro e w' ⟨v, rfl, h0, h1, hrd2, hby⟩; have hr2 := RowK.pick hr hrd (by decide) hby; have hG2 := by_trans hG hby; obtain ⟨kk, rfl⟩ := Int.eq_ofNat_of_zero_le h0)
              have hkk : kk < len := by omega
              clear hr hrd hG hby
              have hr := hr2
              have hrd := hrd2
              have hG := hG2
              clear hr2 hrd2 hG2
              go_upto_region 20 with (go_at_call 62; (with_reducible refine (pick_any B g n c _ A _ _ hrd (by omega) (by omega)).mono ?_); rintro e w' ⟨v, rfl, h0, h1, hrd2, hby⟩; have hr2 := RowK.pick hr hrd (by decide) hby; have hG2 := by_trans hG hby; (try have BX2 := BX.by_ hby (by omega)); clear hr hrd hG hby; (try clear CX); (try clear FX); (try clear BX); have hr := hr2; have hrd := hrd2; have hG := hG2; (try have BX := BX2); clear hr2 hrd2 hG2; (try clear BX2); (try have CX := Has.cell BX); (try have FX := Has.frozen BX))
              obtain ⟨s0, d0, d1, d2, d3⟩ : ∃ s0, Four w' gv (kk * 4) s0 := ⟨_, SRow.four hr HLEN.out.symm kk (by have := HLEN.out; omega)⟩
              have hfz := RowK.frozen hr (by have := HLEN.out; simpa using this.symm)
              have hgvg : gv ≠ g := fun e => by
                obtain ⟨p, _, hc⟩ := hrd.cells
                exact own_ne hr.own (b := g) hc (by decide) (by rw [← e]; rfl)
              have hput := fun (j : Nat) (hj : j < 4) (z : Int) => SRow.put hr HLEN.out.symm kk j (by have := HLEN.out; omega) hj z
              have hkk4 : (kk : Int) < (len : Int) := by omega
              go_wp2_with (go_at_call 92; have hnum := num_rdP (w := w') (t := 3) (k := 3) (cap := 3) (cs := #[.int .i64 1000, .int .i64 1001, .int .i64 (-1001)]) (fun _ => True) hrd (by omega) (by omega) (by omega) ⟨⟨_, rfl, trivial⟩, ⟨_, rfl, trivial⟩, ⟨_, rfl, trivial⟩, trivial⟩ rfl; refine hnum.mono ?_; clear hnum; rintro e w5 ⟨zn, rfl, hzn, hrd5, hby5⟩; have hr5 := RowK.pick (hr.alloc (.cells #[.int .i64 1000, .int .i64 1001, .int .i64 (-1001)] 3)) (hrd.alloc (.cells #[.int .i64 1000, .int .i64 1001, .int .i64 (-1001)] 3)) (by decide) hby5; have hG5 := by_trans (gAlloc hG (.cells #[.int .i64 1000, .int .i64 1001, .int .i64 (-1001)] 3)) hby5; have hput5 := fun (j : Nat) (hj : j < 4) (z : Int) => SRow.put hr5 HLEN.out.symm kk j (by have := HLEN.out; omega) hj z; have hfz5 := RowK.frozen hr5 (by have := HLEN.out; simpa using this.symm); obtain ⟨s5, d50, d51, d52, d53⟩ : ∃ s0, Four w5 gv (kk * 4) s0 := ⟨_, SRow.four hr5 HLEN.out.symm kk (by have := HLEN.out; omega)⟩)
              all_goals go_ret
              · obtain ⟨l3, hl3, hr3⟩ := hput 1 (by omega) s0.f
                exact ⟨_, l3, rfl, by rw [hl3, HLEN.out]; exact hl4, hr3, (hrd.set (by omega) (fun e => hgvg e.symm) _ _).mono (by omega), gSetOwn hG hgv1 _⟩
              · obtain ⟨l3, hl3, hr3⟩ := hput5 2 (by omega) zn
                exact ⟨_, l3, rfl, by rw [hl3, HLEN.out]; exact hl4, hr3, (hrd5.set (by omega) (fun e => hgvg e.symm) _ _).mono (by omega), gSetOwn hG5 hgv1 _⟩
              · obtain ⟨l3, hl3, hr3⟩ := hput 0 (by omega) (wrap64 (s0.f - 9))
                rw [Nat.add_zero] at hr3
                exact ⟨_, l3, rfl, by rw [hl3, HLEN.out]; exact hl4, hr3, (hrd.set (by omega) (fun e => hgvg e.symm) _ _).mono (by omega), gSetOwn hG hgv1 _⟩
            · go_ret
              exact ⟨_, l2, rfl, by rw [HLEN.out]; exact hl4, hr, hrd.mono (by omega), hG⟩
          · have hz1 : (0 : Nat) = 0 := rfl
            have l2 := l
            have HLEN := HLN
            clear d0 d1 d2 d3 hfz
            go_upto_region 18 with (go_at_call 62; (with_reducible refine (pick_any B g n c _ A _ _ hrd (by omega) (by omega)).mono ?_); rintro e w' ⟨v, rfl, h0, h1, hrd2, hby⟩; have hr2 := RowK.pick hr hrd (by decide) hby; have hG2 := by_trans hG hby; (try have BX2 := BX.by_ hby (by omega)); clear hr hrd hG hby; (try clear CX); (try clear FX); (try clear BX); have hr := hr2; have hrd := hrd2; have hG := hG2; (try have BX := BX2); clear hr2 hrd2 hG2; (try clear BX2); (try have CX := Has.cell BX); (try have FX := Has.frozen BX))
            · go_upto_region 19 with (go_at_call 62; (with_reducible refine (pick_any B g n c _ A _ _ hrd (by omega) (by omega)).mono ?_); rintro e w' ⟨v, rfl, h0, h1, hrd2, hby⟩; have hr2 := RowK.pick hr hrd (by decide) hby; have hG2 := by_trans hG hby; obtain ⟨kk, rfl⟩ := Int.eq_ofNat_of_zero_le h0)
              have hkk : kk < len := by omega
              clear hr hrd hG hby
              have hr := hr2
              have hrd := hrd2
              have hG := hG2
              clear hr2 hrd2 hG2
              go_upto_region 20 with (go_at_call 62; (with_reducible refine (pick_any B g n c _ A _ _ hrd (by omega) (by omega)).mono ?_); rintro e w' ⟨v, rfl, h0, h1, hrd2, hby⟩; have hr2 := RowK.pick hr hrd (by decide) hby; have hG2 := by_trans hG hby; (try have BX2 := BX.by_ hby (by omega)); clear hr hrd hG hby; (try clear CX); (try clear FX); (try clear BX); have hr := hr2; have hrd := hrd2; have hG := hG2; (try have BX := BX2); clear hr2 hrd2 hG2; (try clear BX2); (try have CX := Has.cell BX); (try have FX := Has.frozen BX))
              obtain ⟨s0, d0, d1, d2, d3⟩ : ∃ s0, Four w' gv (kk * 4) s0 := ⟨_, SRow.four hr HLEN.out.symm kk (by have := HLEN.out; omega)⟩
              have hfz := RowK.frozen hr (by have := HLEN.out; simpa using this.symm)
              have hgvg : gv ≠ g := fun e => by
                obtain ⟨p, _, hc⟩ := hrd.cells
                exact own_ne hr.own (b := g) hc (by decide) (by rw [← e]; rfl)
              have hput := fun (j : Nat) (hj : j < 4) (z : Int) => SRow.put hr HLEN.out.symm kk j (by have := HLEN.out; omega) hj z
              have hkk4 : (kk : Int) < (len : Int) := by omega
              go_wp2_with (go_at_call 92; have hnum := num_rdP (w := w') (t := 3) (k := 3) (cap := 3) (cs := #[.int .i64 1000, .int .i64 1001, .int .i64 (-1001)]) (fun _ => True) hrd (by omega) (by omega) (by omega) ⟨⟨_, rfl, trivial⟩, ⟨_, rfl, trivial⟩, ⟨_, rfl, trivial⟩, trivial⟩ rfl; refine hnum.mono ?_; clear hnum; rintro e w5 ⟨zn, rfl, hzn, hrd5, hby5⟩; have hr5 := RowK.pick (hr.alloc (.cells #[.int .i64 1000, .int .i64 1001, .int .i64 (-1001)] 3)) (hrd.alloc (.cells #[.int .i64 1000, .int .i64 1001, .int .i64 (-1001)] 3)) (by decide) hby5; have hG5 := by_trans (gAlloc hG (.cells #[.int .i64 1000, .int .i64 1001, .int .i64 (-1001)] 3)) hby5; have hput5 := fun (j : Nat) (hj : j < 4) (z : Int) => SRow.put hr5 HLEN.out.symm kk j (by have := HLEN.out; omega) hj z; have hfz5 := RowK.frozen hr5 (by have := HLEN.out; simpa using this.symm); obtain ⟨s5, d50, d51, d52, d53⟩ : ∃ s0, Four w5 gv (kk * 4) s0 := ⟨_, SRow.four hr5 HLEN.out.symm kk (by have := HLEN.out; omega)⟩)
              all_goals go_ret
              · obtain ⟨l3, hl3, hr3⟩ := hput 1 (by omega) s0.f
                exact ⟨_, l3, rfl, by rw [hl3, HLEN.out]; exact hl4, hr3, (hrd.set (by omega) (fun e => hgvg e.symm) _ _).mono (by omega), gSetOwn hG hgv1 _⟩
              · obtain ⟨l3, hl3, hr3⟩ := hput5 2 (by omega) zn
                exact ⟨_, l3, rfl, by rw [hl3, HLEN.out]; exact hl4, hr3, (hrd5.set (by omega) (fun e => hgvg e.symm) _ _).mono (by omega), gSetOwn hG5 hgv1 _⟩
              · obtain ⟨l3, hl3, hr3⟩ := hput 0 (by omega) (wrap64 (s0.f - 9))
                rw [Nat.add_zero] at hr3
                exact ⟨_, l3, rfl, by rw [hl3, HLEN.out]; exact hl4, hr3, (hrd.set (by omega) (fun e => hgvg e.symm) _ _).mono (by omega), gSetOwn hG hgv1 _⟩
            · go_ret
              exact ⟨_, l, rfl, by rw [HLEN.out]; exact hl4, hr, hrd.mono (by omega), hG⟩
      | succ k =>
        have ek : decide ((0 : Int) < ((k + 1 : Nat) : Int)) = true := decide_eq_true (by omega)
        have ek2 : decide ((0 : Int) < (k : Int) + 1) = true := decide_eq_true (by omega)
        have ha3 : at0 ≤ 5000 - 1000 * ((k : Int) + 1) := by omega
        go_upto_region 8 with fail
        (go_upto_region 9 with (go_at_call 62; (with_reducible refine (pick_any B g n c _ A _ _ hrd (by omega) (by omega)).mono ?_); rintro e w' ⟨v, rfl, h0, h1, hrd2, hby⟩; have hr2 := RowK.pick hr hrd (by decide) hby; have hG2 := by_trans hG hby; (try have BX2 := BX.by_ hby (by omega)); clear hr hrd hG hby; (try clear CX); (try clear FX); (try clear BX); have hr := hr2; have hrd := hrd2; have hG := hG2; (try have BX := BX2); clear hr2 hrd2 hG2; (try clear BX2); (try have CX := Has.cell BX); (try have FX := Has.frozen BX)); refine (fun (k : ∀ (T I O : Int) wm, Has wm w'.heap.size #[.int .i64 at0, .int .i64 T, .int .i64 I, .int .i64 O] 60 → SRow wm w.heap.size vo l → Rd wm B g A n c (m0 + 1 + 1) → w.grownBy wm (some g) → w'.heap.size ≠ g → w.heap.size ≤ w'.heap.size → some w'.heap.size ≠ vo.ownBlock → Code.wp _ _ _ _ wm) => k _ _ _ _ (by (refine Has.as (by repeat' (first | with_reducible assumption | with_reducible apply Has.new | with_reducible apply Has.new1 | with_reducible apply Has.new2 | with_reducible apply Has.new3 | with_reducible apply Has.new4 | with_reducible apply Has.drew | with_reducible apply Has.drewN | with_reducible apply Has.alloc | with_reducible apply Has.same | with_reducible apply Has.other | (with_reducible show _ ≠ _; first | omega | (simp; done)))) ?_; first | (with_reducible rfl) | (simp only [List.setIfInBounds_toArray, List.set_cons_zero, List.set_cons_succ]; done) | (simp only [List.setIfInBounds_toArray, List.set_cons_zero, List.set_cons_succ]; rfl) | rfl | (simp; done))) ?_ ?_ ?_ ?_ ?_ ?_) ?_; (focus exact hr.alloc _); (focus exact hrd.alloc _); (focus exact gAlloc hG _); (focus (have := hrd.lt; omega)); (focus exact hG.size); (focus exact own_fresh hr.own); generalize w'.heap.size = bX; clear hr hrd hG; intro T I O wm BX hr hrd hG hbg hbX hne; have CX := Has.cell BX; have FX := Has.frozen BX)
        by_cases hat : at0 < -1000
        · have ea : decide (at0 < -1000) = true := decide_eq_true hat
          go_upto_region 12 with (go_at_call 62; (with_reducible refine (pick_any B g n c _ A _ _ hrd (by omega) (by omega)).mono ?_); rintro e w' ⟨v, rfl, h0, h1, hrd2, hby⟩; have hr2 := RowK.pick hr hrd (by decide) hby; have hG2 := by_trans hG hby; (try have BX2 := BX.by_ hby (by omega)); clear hr hrd hG hby; (try clear CX); (try clear FX); (try clear BX); have hr := hr2; have hrd := hrd2; have hG := hG2; (try have BX := BX2); clear hr2 hrd2 hG2; (try clear BX2); (try have CX := Has.cell BX); (try have FX := Has.frozen BX))
          go_upto_region 13 with fail
          generalize hT2 : (v - 2 : Int) = T2
          refine (fun (k : ∀ wm, Has wm bX #[.int .i64 at0, .int .i64 T2, .int .i64 I, .int .i64 O] 60 → SRow wm w.heap.size vo l → Rd wm B g A n c (m0 + 1 + 1 + 1) → w.grownBy wm (some g) → Code.wp _ _ _ _ wm) => k _ ?_ ?_ ?_ ?_) ?_
          · (refine Has.as (by repeat' (first | with_reducible assumption | with_reducible apply Has.new | with_reducible apply Has.new1 | with_reducible apply Has.new2 | with_reducible apply Has.new3 | with_reducible apply Has.new4 | with_reducible apply Has.drew | with_reducible apply Has.drewN | with_reducible apply Has.alloc | with_reducible apply Has.same | with_reducible apply Has.other | (with_reducible show _ ≠ _; first | omega | (simp; done)))) ?_; first | (with_reducible rfl) | (simp only [List.setIfInBounds_toArray, List.set_cons_zero, List.set_cons_succ]; done) | (simp only [List.setIfInBounds_toArray, List.set_cons_zero, List.set_cons_succ]; rfl) | rfl | (simp; done))
          · exact RowK.set hr hne
          · exact hrd.set (by have := hrd.lo; omega) (fun e => hbg e.symm) _ _
          · exact gSetOwn hG hbX _
          have hT3 : -1073741824 ≤ T2 ∧ T2 ≤ 5000 - 1000 * ((k : Int) + 1) + 10 := by omega
          clear hr hrd hG BX CX FX hT2
          intro wm BX hr hrd hG
          have CX := Has.cell BX
          have FX := Has.frozen BX
          obtain ⟨hT4, hT5⟩ := hT3
          go_upto_region 14 with (go_at_call 62; (with_reducible refine (pick_any B g n c _ A _ _ hrd (by omega) (by omega)).mono ?_); rintro e w' ⟨v, rfl, h0, h1, hrd2, hby⟩; have hr2 := RowK.pick hr hrd (by decide) hby; have hG2 := by_trans hG hby; (try have BX2 := BX.by_ hby (by omega)); clear hr hrd hG hby; (try clear CX); (try clear FX); (try clear BX); have hr := hr2; have hrd := hrd2; have hG := hG2; (try have BX := BX2); clear hr2 hrd2 hG2; (try clear BX2); (try have CX := Has.cell BX); (try have FX := Has.frozen BX))
          have hle9 : w.heap.size ≤ w'.heap.size := hG.size
          go_wp2_with (at_builtin; refine append_sp w' rfl _ _ rfl w.heap.size _ _ _ _ _ _ _ hr rfl rfl (by omega) hle9 ?_; intro v2 w10 hr10 hg10)
          have hrd10 := (hrd.alloc (.cells #[.int .i64 at0, .int .i64 T2, .int .i64 I, .int .i64 O] 60)).row (hr.alloc (.cells #[.int .i64 at0, .int .i64 T2, .int .i64 I, .int .i64 O] 60)) (by decide) (by omega) hg10
          have hG10 := gRow (gAlloc hG (.cells #[.int .i64 at0, .int .i64 T2, .int .i64 I, .int .i64 O] 60)) (hr.alloc (.cells #[.int .i64 at0, .int .i64 T2, .int .i64 I, .int .i64 O] 60)) (Nat.le_refl _) hg10
          clear hr hrd hG BX CX FX hg10
          go_roundw
          case rel => exact ⟨k, _, v2, _, m0 + 4, rfl, rfl, by go_num, by omega, by omega, by omega, by simp; omega, hr10, hrd10, by omega, hG10⟩
          case measure => simp [intOf]
        · have ea : decide (at0 < -1000) = false := decide_eq_false hat
          go_upto_region 12 with (go_at_call 62; (with_reducible refine (pick_any B g n c _ A _ _ hrd (by omega) (by omega)).mono ?_); rintro e w' ⟨v, rfl, h0, h1, hrd2, hby⟩; have hr2 := RowK.pick hr hrd (by decide) hby; have hG2 := by_trans hG hby; (try have BX2 := BX.by_ hby (by omega)); clear hr hrd hG hby; (try clear CX); (try clear FX); (try clear BX); have hr := hr2; have hrd := hrd2; have hG := hG2; (try have BX := BX2); clear hr2 hrd2 hG2; (try clear BX2); (try have CX := Has.cell BX); (try have FX := Has.frozen BX))
          go_upto_region 13 with fail
          generalize hT2 : (at0 + 1 + v : Int) = T2
          refine (fun (k : ∀ wm, Has wm bX #[.int .i64 at0, .int .i64 T2, .int .i64 I, .int .i64 O] 60 → SRow wm w.heap.size vo l → Rd wm B g A n c (m0 + 1 + 1 + 1) → w.grownBy wm (some g) → Code.wp _ _ _ _ wm) => k _ ?_ ?_ ?_ ?_) ?_
          · (refine Has.as (by repeat' (first | with_reducible assumption | with_reducible apply Has.new | with_reducible apply Has.new1 | with_reducible apply Has.new2 | with_reducible apply Has.new3 | with_reducible apply Has.new4 | with_reducible apply Has.drew | with_reducible apply Has.drewN | with_reducible apply Has.alloc | with_reducible apply Has.same | with_reducible apply Has.other | (with_reducible show _ ≠ _; first | omega | (simp; done)))) ?_; first | (with_reducible rfl) | (simp only [List.setIfInBounds_toArray, List.set_cons_zero, List.set_cons_succ]; done) | (simp only [List.setIfInBounds_toArray, List.set_cons_zero, List.set_cons_succ]; rfl) | rfl | (simp; done))
          · exact RowK.set hr hne
          · exact hrd.set (by have := hrd.lo; omega) (fun e => hbg e.symm) _ _
          · exact gSetOwn hG hbX _
          have hT3 : -1073741824 ≤ T2 ∧ T2 ≤ 5000 - 1000 * ((k : Int) + 1) + 10 := by omega
          clear hr hrd hG BX CX FX hT2
          intro wm BX hr hrd hG
          have CX := Has.cell BX
          have FX := Has.frozen BX
          obtain ⟨hT4, hT5⟩ := hT3
          go_upto_region 14 with (go_at_call 62; (with_reducible refine (pick_any B g n c _ A _ _ hrd (by omega) (by omega)).mono ?_); rintro e w' ⟨v, rfl, h0, h1, hrd2, hby⟩; have hr2 := RowK.pick hr hrd (by decide) hby; have hG2 := by_trans hG hby; (try have BX2 := BX.by_ hby (by omega)); clear hr hrd hG hby; (try clear CX); (try clear FX); (try clear BX); have hr := hr2; have hrd := hrd2; have hG := hG2; (try have BX := BX2); clear hr2 hrd2 hG2; (try clear BX2); (try have CX := Has.cell BX); (try have FX := Has.frozen BX))
          have hle9 : w.heap.size ≤ w'.heap.size := hG.size
          go_wp2_with (at_builtin; refine append_sp w' rfl _ _ rfl w.heap.size _ _ _ _ _ _ _ hr rfl rfl (by omega) hle9 ?_; intro v2 w10 hr10 hg10)
          have hrd10 := (hrd.alloc (.cells #[.int .i64 at0, .int .i64 T2, .int .i64 I, .int .i64 O] 60)).row (hr.alloc (.cells #[.int .i64 at0, .int .i64 T2, .int .i64 I, .int .i64 O] 60)) (by decide) (by omega) hg10
          have hG10 := gRow (gAlloc hG (.cells #[.int .i64 at0, .int .i64 T2, .int .i64 I, .int .i64 O] 60)) (hr.alloc (.cells #[.int .i64 at0, .int .i64 T2, .int .i64 I, .int .i64 O] 60)) (Nat.le_refl _) hg10
          clear hr hrd hG BX CX FX hg10
          go_roundw
          case rel => exact ⟨k, _, v2, _, m0 + 4, rfl, rfl, by go_num, by omega, by omega, by omega, by simp; omega, hr10, hrd10, by omega, hG10⟩
          case measure => simp [intOf]
  · go_wp2_with (go_at_call 62; (with_reducible refine (pick_any B g n c _ A _ _ hrd (by omega) (by omega)).mono ?_); rintro e w' ⟨v, rfl, h0, h1, hrd2, hby⟩; have hr2 := RowK.pick hr hrd (by decide) hby; have hG2 := by_trans hG hby; (try have BX2 := BX.by_ hby (by omega)); clear hr hrd hG hby; (try clear CX); (try clear FX); (try clear BX); have hr := hr2; have hrd := hrd2; have hG := hG2; (try have BX := BX2); clear hr2 hrd2 hG2; (try clear BX2); (try have CX := Has.cell BX); (try have FX := Has.frozen BX))
    obtain ⟨k0, rfl⟩ := Int.eq_ofNat_of_zero_le h0
    have hk0 : k0 ≤ 4 := by omega
    clear h0 h1
    go_loopw [3, 4, 5] (fun o at_ i wr => ∃ (k : Nat) (at0 : Int) (vo : Value) (l : List Sp) (m0 : Nat), vo = o ∧ at_ = .int .i64 at0 ∧ i = .int .i64 k ∧ -1073741824 ≤ at0 ∧ at0 ≤ 5000 - 1000 * (k : Int) ∧ k ≤ 4 ∧ l.length + k ≤ 4 ∧ SRow wr w.heap.size vo l ∧ Rd wr B g A n c m0 ∧ m0 + 5 * k ≤ m + 25 ∧ w.grownBy wr (some g)) (fun _ _ i _ => (intOf i).toNat)
    case atStart => exact ⟨k0, _, _, [], _, rfl, rfl, rfl, by omega, by omega, hk0, by simpa using hk0, hr, hrd, by omega, hG⟩
    case round =>
      clear hr hrd hG
      obtain ⟨k, at0, vo, l, m0, rfl, rfl, rfl, ha1, ha2, hk4, hlk, hr, hrd, hm0, hG⟩ := hrel
      cases k with
      | zero =>
        clear hk0
        by_cases hl0 : l.length = 0
        · obtain ⟨A3, c3, hv3, _⟩ := SRow.shape0 hr
          rw [hl0] at hv3
          subst hv3
          go_wp2
          go_ret
          exact ⟨_, l, rfl, by omega, hr, hrd.mono (by omega), hG⟩
        · obtain ⟨A3, c3, hv3, hA3⟩ := SRow.shape0 hr
          obtain ⟨gv, rfl, hgv1, hgv2⟩ := hA3 (by omega)
          obtain ⟨len, hlen⟩ : ∃ len, l.length = len := ⟨_, rfl⟩
          have HLN := Lib.hid hlen
          rw [hlen] at hv3
          subst hv3
          have hl4 : len ≤ 4 := by omega
          have hl1 : 0 < len := by omega
          obtain ⟨len1, hlen1⟩ : ∃ q, len = q + 1 := ⟨len - 1, by omega⟩
          have e1 : decide ((0 : Int) < (len : Int)) = true := decide_eq_true (by omega)
          have e2 : (len : Int) - 1 = (len1 : Int) := by omega
          have hlt1 : len1 < len := by omega
          clear hlen hl0
          have HL1 := Lib.hid hlen1
          clear hlen1
          go_upto_region 17 with ((go_at_call 62; (with_reducible refine (pick_any B g n c _ A _ _ hrd (by omega) (by omega)).mono ?_); rintro e w' ⟨v, rfl, h0, h1, hrd2, hby⟩; have hr2 := RowK.pick hr hrd (by decide) hby; have hG2 := by_trans hG hby; (try have BX2 := BX.by_ hby (by omega)); clear hr hrd hG hby; (try clear CX); (try clear FX); (try clear BX); have hr := hr2; have hrd := hrd2; have hG := hG2; (try have BX := BX2); clear hr2 hrd2 hG2; (try clear BX2); (try have CX := Has.cell BX); (try have FX := Has.frozen BX)); obtain ⟨s0, d0, d1, d2, d3⟩ : ∃ s0, Four w' gv (len1 * 4) s0 := ⟨_, SRow.four hr HLN.out.symm len1 (by have := HLN.out; omega)⟩; have hfz := RowK.frozen hr (by have := HLN.out; simpa using this.symm))
          · obtain ⟨l2, hl2, hr2⟩ := SRow.put hr HLN.out.symm len1 1 (by have := HLN.out; omega) (by omega) 1073741824
            refine (fun (k : ∀ wm, SRow wm w.heap.size (.slice (some ⟨gv, 0, none⟩) len c3) l2 → Rd wm B g A n c (m0 + 1) → w.grownBy wm (some g) → Code.wp _ _ _ _ wm) => k _ hr2 ?_ ?_) ?_
            · refine hrd.set (by omega) (fun e => ?_) _ _
              obtain ⟨p, _, hc⟩ := hrd.cells
              exact own_ne hr.own (b := g) hc (by decide) (by rw [e]; rfl)
            · exact gSetOwn hG hgv1 _
            clear hr hrd hG hr2 d0 d1 d2 d3 hfz
            intro wm hr hrd hG
            have HLEN := Lib.hid (show l2.length = len by rw [hl2]; exact HLN.out)
            go_upto_region 18 with (go_at_call 62; (with_reducible refine (pick_any B g n c _ A _ _ hrd (by omega) (by omega)).mono ?_); rintro e w' ⟨v, rfl, h0, h1, hrd2, hby⟩; have hr2 := RowK.pick hr hrd (by decide) hby; have hG2 := by_trans hG hby; (try have BX2 := BX.by_ hby (by omega)); clear hr hrd hG hby; (try clear CX); (try clear FX); (try clear BX); have hr := hr2; have hrd := hrd2; have hG := hG2; (try have BX := BX2); clear hr2 hrd2 hG2; (try clear BX2); (try have CX := Has.cell BX); (try have FX := Has.frozen BX))
            · go_upto_region 19 with (go_at_call 62; (with_reducible refine (pick_any B g n c _ A _ _ hrd (by omega) (by omega)).mono ?_); rintro e w' ⟨v, rfl, h0, h1, hrd2, hby⟩; have hr2 := RowK.pick hr hrd (by decide) hby; have hG2 := by_trans hG hby; obtain ⟨kk, rfl⟩ := Int.eq_ofNat_of_zero_le h0)
              have hkk : kk < len := by omega
              clear hr hrd hG hby
              have hr := hr2
              have hrd := hrd2
              have hG := hG2
              clear hr2 hrd2 hG2
              go_upto_region 20 with (go_at_call 62; (with_reducible refine (pick_any B g n c _ A _ _ hrd (by omega) (by omega)).mono ?_); rintro e w' ⟨v, rfl, h0, h1, hrd2, hby⟩; have hr2 := RowK.pick hr hrd (by decide) hby; have hG2 := by_trans hG hby; (try have BX2 := BX.by_ hby (by omega)); clear hr hrd hG hby; (try clear CX); (try clear FX); (try clear BX); have hr := hr2; have hrd := hrd2; have hG := hG2; (try have BX := BX2); clear hr2 hrd2 hG2; (try clear BX2); (try have CX := Has.cell BX); (try have FX := Has.frozen BX))
              obtain ⟨s0, d0, d1, d2, d3⟩ : ∃ s0, Four w' gv (kk * 4) s0 := ⟨_, SRow.four hr HLEN.out.symm kk (by have := HLEN.out; omega)⟩
              have hfz := RowK.frozen hr (by have := HLEN.out; simpa using this.symm)
              have hgvg : gv ≠ g := fun e => by
                obtain ⟨p, _, hc⟩ := hrd.cells
                exact own_ne hr.own (b := g) hc (by decide) (by rw [← e]; rfl)
              have hput := fun (j : Nat) (hj : j < 4) (z : Int) => SRow.put hr HLEN.out.symm kk j (by have := HLEN.out; omega) hj z
              have hkk4 : (kk : Int) < (len : Int) := by omega
              go_wp2_with (go_at_call 92; have hnum := num_rdP (w := w') (t := 3) (k := 3) (cap := 3) (cs := #[.int .i64 1000, .int .i64 1001, .int .i64 (-1001)]) (fun _ => True) hrd (by omega) (by omega) (by omega) ⟨⟨_, rfl, trivial⟩, ⟨_, rfl, trivial⟩, ⟨_, rfl, trivial⟩, trivial⟩ rfl; refine hnum.mono ?_; clear hnum; rintro e w5 ⟨zn, rfl, hzn, hrd5, hby5⟩; have hr5 := RowK.pick (hr.alloc (.cells #[.int .i64 1000, .int .i64 1001, .int .i64 (-1001)] 3)) (hrd.alloc (.cells #[.int .i64 1000, .int .i64 1001, .int .i64 (-1001)] 3)) (by decide) hby5; have hG5 := by_trans (gAlloc hG (.cells #[.int .i64 1000, .int .i64 1001, .int .i64 (-1001)] 3)) hby5; have hput5 := fun (j : Nat) (hj : j < 4) (z : Int) => SRow.put hr5 HLEN.out.symm kk j (by have := HLEN.out; omega) hj z; have hfz5 := RowK.frozen hr5 (by have := HLEN.out; simpa using this.symm); obtain ⟨s5, d50, d51, d52, d53⟩ : ∃ s0, Four w5 gv (kk * 4) s0 := ⟨_, SRow.four hr5 HLEN.out.symm kk (by have := HLEN.out; omega)⟩)
              all_goals go_ret
              · obtain ⟨l3, hl3, hr3⟩ := hput 1 (by omega) s0.f
                exact ⟨_, l3, rfl, by rw [hl3, HLEN.out]; exact hl4, hr3, (hrd.set (by omega) (fun e => hgvg e.symm) _ _).mono (by omega), gSetOwn hG hgv1 _⟩
              · obtain ⟨l3, hl3, hr3⟩ := hput5 2 (by omega) zn
                exact ⟨_, l3, rfl, by rw [hl3, HLEN.out]; exact hl4, hr3, (hrd5.set (by omega) (fun e => hgvg e.symm) _ _).mono (by omega), gSetOwn hG5 hgv1 _⟩
              · obtain ⟨l3, hl3, hr3⟩ := hput 0 (by omega) (wrap64 (s0.f - 9))
                rw [Nat.add_zero] at hr3
                exact ⟨_, l3, rfl, by rw [hl3, HLEN.out]; exact hl4, hr3, (hrd.set (by omega) (fun e => hgvg e.symm) _ _).mono (by omega), gSetOwn hG hgv1 _⟩
            · go_ret
              exact ⟨_, l2, rfl, by rw [HLEN.out]; exact hl4, hr, hrd.mono (by omega), hG⟩
          · have hz1 : (0 : Nat) = 0 := rfl
            have l2 := l
            have HLEN := HLN
            clear d0 d1 d2 d3 hfz
            go_upto_region 18 with (go_at_call 62; (with_reducible refine (pick_any B g n c _ A _ _ hrd (by omega) (by omega)).mono ?_); rintro e w' ⟨v, rfl, h0, h1, hrd2, hby⟩; have hr2 := RowK.pick hr hrd (by decide) hby; have hG2 := by_trans hG hby; (try have BX2 := BX.by_ hby (by omega)); clear hr hrd hG hby; (try clear CX); (try clear FX); (try clear BX); have hr := hr2; have hrd := hrd2; have hG := hG2; (try have BX := BX2); clear hr2 hrd2 hG2; (try clear BX2); (try have CX := Has.cell BX); (try have FX := Has.frozen BX))
            · go_upto_region 19 with (go_at_call 62; (with_reducible refine (pick_any B g n c _ A _ _ hrd (by omega) (by omega)).mono ?_); rintro e w' ⟨v, rfl, h0, h1, hrd2, hby⟩; have hr2 := RowK.pick hr hrd (by decide) hby; have hG2 := by_trans hG hby; obtain ⟨kk, rfl⟩ := Int.eq_ofNat_of_zero_le h0)
              have hkk : kk < len := by omega
              clear hr hrd hG hby
              have hr := hr2
              have hrd := hrd2
              have hG := hG2
              clear hr2 hrd2 hG2
              go_upto_region 20 with (go_at_call 62; (with_reducible refine (pick_any B g n c _ A _ _ hrd (by omega) (by omega)).mono ?_); rintro e w' ⟨v, rfl, h0, h1, hrd2, hby⟩; have hr2 := RowK.pick hr hrd (by decide) hby; have hG2 := by_trans hG hby; (try have BX2 := BX.by_ hby (by omega)); clear hr hrd hG hby; (try clear CX); (try clear FX); (try clear BX); have hr := hr2; have hrd := hrd2; have hG := hG2; (try have BX := BX2); clear hr2 hrd2 hG2; (try clear BX2); (try have CX := Has.cell BX); (try have FX := Has.frozen BX))
              obtain ⟨s0, d0, d1, d2, d3⟩ : ∃ s0, Four w' gv (kk * 4) s0 := ⟨_, SRow.four hr HLEN.out.symm kk (by have := HLEN.out; omega)⟩
              have hfz := RowK.frozen hr (by have := HLEN.out; simpa using this.symm)
              have hgvg : gv ≠ g := fun e => by
                obtain ⟨p, _, hc⟩ := hrd.cells
                exact own_ne hr.own (b := g) hc (by decide) (by rw [← e]; rfl)
              have hput := fun (j : Nat) (hj : j < 4) (z : Int) => SRow.put hr HLEN.out.symm kk j (by have := HLEN.out; omega) hj z
              have hkk4 : (kk : Int) < (len : Int) := by omega
              go_wp2_with (go_at_call 92; have hnum := num_rdP (w := w') (t := 3) (k := 3) (cap := 3) (cs := #[.int .i64 1000, .int .i64 1001, .int .i64 (-1001)]) (fun _ => True) hrd (by omega) (by omega) (by omega) ⟨⟨_, rfl, trivial⟩, ⟨_, rfl, trivial⟩, ⟨_, rfl, trivial⟩, trivial⟩ rfl; refine hnum.mono ?_; clear hnum; rintro e w5 ⟨zn, rfl, hzn, hrd5, hby5⟩; have hr5 := RowK.pick (hr.alloc (.cells #[.int .i64 1000, .int .i64 1001, .int .i64 (-1001)] 3)) (hrd.alloc (.cells #[.int .i64 1000, .int .i64 1001, .int .i64 (-1001)] 3)) (by decide) hby5; have hG5 := by_trans (gAlloc hG (.cells #[.int .i64 1000, .int .i64 1001, .int .i64 (-1001)] 3)) hby5; have hput5 := fun (j : Nat) (hj : j < 4) (z : Int) => SRow.put hr5 HLEN.out.symm kk j (by have := HLEN.out; omega) hj z; have hfz5 := RowK.frozen hr5 (by have := HLEN.out; simpa using this.symm); obtain ⟨s5, d50, d51, d52, d53⟩ : ∃ s0, Four w5 gv (kk * 4) s0 := ⟨_, SRow.four hr5 HLEN.out.symm kk (by have := HLEN.out; omega)⟩)
              all_goals go_ret
              · obtain ⟨l3, hl3, hr3⟩ := hput 1 (by omega) s0.f
                exact ⟨_, l3, rfl, by rw [hl3, HLEN.out]; exact hl4, hr3, (hrd.set (by omega) (fun e => hgvg e.symm) _ _).mono (by omega), gSetOwn hG hgv1 _⟩
              · obtain ⟨l3, hl3, hr3⟩ := hput5 2 (by omega) zn
                exact ⟨_, l3, rfl, by rw [hl3, HLEN.out]; exact hl4, hr3, (hrd5.set (by omega) (fun e => hgvg e.symm) _ _).mono (by omega), gSetOwn hG5 hgv1 _⟩
              · obtain ⟨l3, hl3, hr3⟩ := hput 0 (by omega) (wrap64 (s0.f - 9))
                rw [Nat.add_zero] at hr3
                exact ⟨_, l3, rfl, by rw [hl3, HLEN.out]; exact hl4, hr3, (hrd.set (by omega) (fun e => hgvg e.symm) _ _).mono (by omega), gSetOwn hG hgv1 _⟩
            · go_ret
              exact ⟨_, l, rfl, by rw [HLEN.out]; exact hl4, hr, hrd.mono (by omega), hG⟩
      | succ k =>
        have ek : decide ((0 : Int) < ((k + 1 : Nat) : Int)) = true := decide_eq_true (by omega)
        have ek2 : decide ((0 : Int) < (k : Int) + 1) = true := decide_eq_true (by omega)
        have ha3 : at0 ≤ 5000 - 1000 * ((k : Int) + 1) := by omega
        go_upto_region 8 with fail
        (go_upto_region 9 with (go_at_call 62; (with_reducible refine (pick_any B g n c _ A _ _ hrd (by omega) (by omega)).mono ?_); rintro e w' ⟨v, rfl, h0, h1, hrd2, hby⟩; have hr2 := RowK.pick hr hrd (by decide) hby; have hG2 := by_trans hG hby; (try have BX2 := BX.by_ hby (by omega)); clear hr hrd hG hby; (try clear CX); (try clear FX); (try clear BX); have hr := hr2; have hrd := hrd2; have hG := hG2; (try have BX := BX2); clear hr2 hrd2 hG2; (try clear BX2); (try have CX := Has.cell BX); (try have FX := Has.frozen BX)); refine (fun (k : ∀ (T I O : Int) wm, Has wm w'.heap.size #[.int .i64 at0, .int .i64 T, .int .i64 I, .int .i64 O] 60 → SRow wm w.heap.size vo l → Rd wm B g A n c (m0 + 1 + 1) → w.grownBy wm (some g) → w'.heap.size ≠ g → w.heap.size ≤ w'.heap.size → some w'.heap.size ≠ vo.ownBlock → Code.wp _ _ _ _ wm) => k _ _ _ _ (by (refine Has.as (by repeat' (first | with_reducible assumption | with_reducible apply Has.new | with_reducible apply Has.new1 | with_reducible apply Has.new2 | with_reducible apply Has.new3 | with_reducible apply Has.new4 | with_reducible apply Has.drew | with_reducible apply Has.drewN | with_reducible apply Has.alloc | with_reducible apply Has.same | with_reducible apply Has.other | (with_reducible show _ ≠ _; first | omega | (simp; done)))) ?_; first | (with_reducible rfl) | (simp only [List.setIfInBounds_toArray, List.set_cons_zero, List.set_cons_succ]; done) | (simp only [List.setIfInBounds_toArray, List.set_cons_zero, List.set_cons_succ]; rfl) | rfl | (simp; done))) ?_ ?_ ?_ ?_ ?_ ?_) ?_; (focus exact hr.alloc _); (focus exact hrd.alloc _); (focus exact gAlloc hG _); (focus (have := hrd.lt; omega)); (focus exact hG.size); (focus exact own_fresh hr.own); generalize w'.heap.size = bX; clear hr hrd hG; intro T I O wm BX hr hrd hG hbg hbX hne; have CX := Has.cell BX; have FX := Has.frozen BX)
        by_cases hat : at0 < -1000
        · have ea : decide (at0 < -1000) = true := decide_eq_true hat
          go_upto_region 12 with (go_at_call 62; (with_reducible refine (pick_any B g n c _ A _ _ hrd (by omega) (by omega)).mono ?_); rintro e w' ⟨v, rfl, h0, h1, hrd2, hby⟩; have hr2 := RowK.pick hr hrd (by decide) hby; have hG2 := by_trans hG hby; (try have BX2 := BX.by_ hby (by omega)); clear hr hrd hG hby; (try clear CX); (try clear FX); (try clear BX); have hr := hr2; have hrd := hrd2; have hG := hG2; (try have BX := BX2); clear hr2 hrd2 hG2; (try clear BX2); (try have CX := Has.cell BX); (try have FX := Has.frozen BX))
          go_upto_region 13 with fail
          generalize hT2 : (v - 2 : Int) = T2
          refine (fun (k : ∀ wm, Has wm bX #[.int .i64 at0, .int .i64 T2, .int .i64 I, .int .i64 O] 60 → SRow wm w.heap.size vo l → Rd wm B g A n c (m0 + 1 + 1 + 1) → w.grownBy wm (some g) → Code.wp _ _ _ _ wm) => k _ ?_ ?_ ?_ ?_) ?_
          · (refine Has.as (by repeat' (first | with_reducible assumption | with_reducible apply Has.new | with_reducible apply Has.new1 | with_reducible apply Has.new2 | with_reducible apply Has.new3 | with_reducible apply Has.new4 | with_reducible apply Has.drew | with_reducible apply Has.drewN | with_reducible apply Has.alloc | with_reducible apply Has.same | with_reducible apply Has.other | (with_reducible show _ ≠ _; first | omega | (simp; done)))) ?_; first | (with_reducible rfl) | (simp only [List.setIfInBounds_toArray, List.set_cons_zero, List.set_cons_succ]; done) | (simp only [List.setIfInBounds_toArray, List.set_cons_zero, List.set_cons_succ]; rfl) | rfl | (simp; done))
          · exact RowK.set hr hne
          · exact hrd.set (by have := hrd.lo; omega) (fun e => hbg e.symm) _ _
          · exact gSetOwn hG hbX _
          have hT3 : -1073741824 ≤ T2 ∧ T2 ≤ 5000 - 1000 * ((k : Int) + 1) + 10 := by omega
          clear hr hrd hG BX CX FX hT2
          intro wm BX hr hrd hG
          have CX := Has.cell BX
          have FX := Has.frozen BX
          obtain ⟨hT4, hT5⟩ := hT3
          go_upto_region 14 with (go_at_call 62; (with_reducible refine (pick_any B g n c _ A _ _ hrd (by omega) (by omega)).mono ?_); rintro e w' ⟨v, rfl, h0, h1, hrd2, hby⟩; have hr2 := RowK.pick hr hrd (by decide) hby; have hG2 := by_trans hG hby; (try have BX2 := BX.by_ hby (by omega)); clear hr hrd hG hby; (try clear CX); (try clear FX); (try clear BX); have hr := hr2; have hrd := hrd2; have hG := hG2; (try have BX := BX2); clear hr2 hrd2 hG2; (try clear BX2); (try have CX := Has.cell BX); (try have FX := Has.frozen BX))
          have hle9 : w.heap.size ≤ w'.heap.size := hG.size
          go_wp2_with (at_builtin; refine append_sp w' rfl _ _ rfl w.heap.size _ _ _ _ _ _ _ hr rfl rfl (by omega) hle9 ?_; intro v2 w10 hr10 hg10)
          have hrd10 := (hrd.alloc (.cells #[.int .i64 at0, .int .i64 T2, .int .i64 I, .int .i64 O] 60)).row (hr.alloc (.cells #[.int .i64 at0, .int .i64 T2, .int .i64 I, .int .i64 O] 60)) (by decide) (by omega) hg10
          have hG10 := gRow (gAlloc hG (.cells #[.int .i64 at0, .int .i64 T2, .int .i64 I, .int .i64 O] 60)) (hr.alloc (.cells #[.int .i64 at0, .int .i64 T2, .int .i64 I, .int .i64 O] 60)) (Nat.le_refl _) hg10
          clear hr hrd hG BX CX FX hg10
          go_roundw
          case rel => exact ⟨k, _, v2, _, m0 + 4, rfl, rfl, by go_num, by omega, by omega, by omega, by simp; omega, hr10, hrd10, by omega, hG10⟩
          case measure => simp [intOf]
        · have ea : decide (at0 < -1000) = false := decide_eq_false hat
          go_upto_region 12 with (go_at_call 62; (with_reducible refine (pick_any B g n c _ A _ _ hrd (by omega) (by omega)).mono ?_); rintro e w' ⟨v, rfl, h0, h1, hrd2, hby⟩; have hr2 := RowK.pick hr hrd (by decide) hby; have hG2 := by_trans hG hby; (try have BX2 := BX.by_ hby (by omega)); clear hr hrd hG hby; (try clear CX); (try clear FX); (try clear BX); have hr := hr2; have hrd := hrd2; have hG := hG2; (try have BX := BX2); clear hr2 hrd2 hG2; (try clear BX2); (try have CX := Has.cell BX); (try have FX := Has.frozen BX))
          go_upto_region 13 with fail
          generalize hT2 : (at0 + 1 + v : Int) = T2
          refine (fun (k : ∀ wm, Has wm bX #[.int .i64 at0, .int .i64 T2, .int .i64 I, .int .i64 O] 60 → SRow wm w.heap.size vo l → Rd wm B g A n c (m0 + 1 + 1 + 1) → w.grownBy wm (some g) → Code.wp _ _ _ _ wm) => k _ ?_ ?_ ?_ ?_) ?_
          · (refine Has.as (by repeat' (first | with_reducible assumption | with_reducible apply Has.new | with_reducible apply Has.new1 | with_reducible apply Has.new2 | with_reducible apply Has.new3 | with_reducible apply Has.new4 | with_reducible apply Has.drew | with_reducible apply Has.drewN | with_reducible apply Has.alloc | with_reducible apply Has.same | with_reducible apply Has.other | (with_reducible show _ ≠ _; first | omega | (simp; done)))) ?_; first | (with_reducible rfl) | (simp only [List.setIfInBounds_toArray, List.set_cons_zero, List.set_cons_succ]; done) | (simp only [List.setIfInBounds_toArray, List.set_cons_zero, List.set_cons_succ]; rfl) | rfl | (simp; done))
          · exact RowK.set hr hne
          · exact hrd.set (by have := hrd.lo; omega) (fun e => hbg e.symm) _ _
          · exact gSetOwn hG hbX _
          have hT3 : -1073741824 ≤ T2 ∧ T2 ≤ 5000 - 1000 * ((k : Int) + 1) + 10 := by omega
          clear hr hrd hG BX CX FX hT2
          intro wm BX hr hrd hG
          have CX := Has.cell BX
          have FX := Has.frozen BX
          obtain ⟨hT4, hT5⟩ := hT3
          go_upto_region 14 with (go_at_call 62; (with_reducible refine (pick_any B g n c _ A _ _ hrd (by omega) (by omega)).mono ?_); rintro e w' ⟨v, rfl, h0, h1, hrd2, hby⟩; have hr2 := RowK.pick hr hrd (by decide) hby; have hG2 := by_trans hG hby; (try have BX2 := BX.by_ hby (by omega)); clear hr hrd hG hby; (try clear CX); (try clear FX); (try clear BX); have hr := hr2; have hrd := hrd2; have hG := hG2; (try have BX := BX2); clear hr2 hrd2 hG2; (try clear BX2); (try have CX := Has.cell BX); (try have FX := Has.frozen BX))
          have hle9 : w.heap.size ≤ w'.heap.size := hG.size
          go_wp2_with (at_builtin; refine append_sp w' rfl _ _ rfl w.heap.size _ _ _ _ _ _ _ hr rfl rfl (by omega) hle9 ?_; intro v2 w10 hr10 hg10)
          have hrd10 := (hrd.alloc (.cells #[.int .i64 at0, .int .i64 T2, .int .i64 I, .int .i64 O] 60)).row (hr.alloc (.cells #[.int .i64 at0, .int .i64 T2, .int .i64 I, .int .i64 O] 60)) (by decide) (by omega) hg10
          have hG10 := gRow (gAlloc hG (.cells #[.int .i64 at0, .int .i64 T2, .int .i64 I, .int .i64 O] 60)) (hr.alloc (.cells #[.int .i64 at0, .int .i64 T2, .int .i64 I, .int .i64 O] 60)) (Nat.le_refl _) hg10
          clear hr hrd hG BX CX FX hg10
          go_roundw
          case rel => exact ⟨k, _, v2, _, m0 + 4, rfl, rfl, by go_num, by omega, by omega, by omega, by simp; omega, hr10, hrd10, by omega, hG10⟩
          case measure => simp [intOf]
end Go.Proofs.Ytdjmeeknahdbbaa
