
import Derived.Test.YtegibpepdndocaaHuD
import Derived.Test.YtegibpepdndocaaHuS
import Derived.Test.YtegibpepdndocaaOpen
namespace Go.Proofs.Ytegibpepdndocaa
open Go.ChangeShapes Go.WideShapes Go.ChangeAt Go.RowKit
set_option maxHeartbeats 4000000
set_option maxRecDepth 8000
set_option linter.unusedSimpArgs false
set_option linter.unusedVariables false

theorem HuRow.snoc {w : World} {B : Nat} {v : Value} {l : List Hu} {s : Hu} (h : RowK w B 25 3 v (l.map Hu.cells ++ [s.cells])) : HuRow w B v (l ++ [s]) := by
  rw [HuRow, List.map_append]; exact h
theorem hu_one {s : Hu} : ∀ u ∈ s.cells, u.oneCell' = true := by
  intro u hu
  simp only [Hu.cells, List.mem_cons, List.not_mem_nil, or_false] at hu
  rcases hu with rfl | rfl | rfl <;> rfl
theorem append_hu (wr : World) {ops : Array Oper} {rest : List Oper} {o : Oper} {a : Act} {Q : Exit → Act → World → Prop} (hgd : o.guard = none) (s x : Operand)
    (ho : o.op = .call { callee := .builtin .append, args := #[s, x], argTypes := #[39, 39] })
    (B : Nat) (v : Value) (l : List Hu) (e1 e2 e3 : Int) (Tb : TypeId) (hr : HuRow wr B v l) (hs : a.eval s = v) (hx : a.eval x = .slice (some ⟨wr.heap.size, 0, none⟩) 1 1) (hn : l.length < 1000000) (hB : B ≤ wr.heap.size)
    (hK : ∀ v' w', HuRow w' B v' (l ++ [⟨e1, e2, e3⟩]) → (wr.alloc (.cells #[.int .i64 e1, .int .i64 e2, .int .i64 e3] Tb)).grownBy w' v.ownBlock → wpList Try.prog ops Q rest (a.put o.dst v') w') :
    wpList Try.prog ops Q (o :: rest) a (wr.alloc (.cells #[.int .i64 e1, .int .i64 e2, .int .i64 e3] Tb)) :=
  append_k _ hgd s x 39 25 3 24 _ ho Try.underlying39 infoHu rfl (by omega) B v _ (Hu.cells ⟨e1, e2, e3⟩) (hr.alloc _) hs wr.heap.size hx _ Tb (Has.new _ _ _) rfl rfl hu_one (by rw [List.length_map]; omega) (by omega) (by rw [World.size_alloc]; omega)
    fun v' w' h1 h2 => hK v' w' (HuRow.snoc h1) h2
set_option maxRecDepth 100000 in
theorem l9List_any (B g n c m : Nat) (A : Option Addr) (N : Nat) (w : World) (hrd : Rd w B g A n c m) (hm : m ≤ 800000) (hN : N ≤ 17) :
    Calls Try.prog 63 #[.pointer (some ⟨g, 0, none⟩), .int .i64 N] w fun e w' => ∃ v l, e = .returned v ∧ l.length = N ∧ HuRow w' w.heap.size v l ∧ Rd w' B g A n c (m + 260) ∧ w.grownBy w' (some g) := by
  have hg := hrd.lt
  have hlo := hrd.lo
  go_enter Try.func63, Try.ntmps63
  go_upto_region 2 with fail
  have hr : HuRow (w.alloc (.cells #[] 25)) w.heap.size (.slice (some ⟨w.heap.size, 0, none⟩) 0 0) [] := RowK.empty w _ _ _ (Nat.le_refl _)
  have hG : w.grownBy (w.alloc (.cells #[] 25)) (some g) := gAlloc (World.grownBy.refl _ _) _
  have hrd0 := hrd.alloc (.cells #[] 25)
  generalize w.alloc (.cells #[] 25) = w1 at *
  clear hrd
  have hrd := hrd0
  clear hrd0
  go_wp2
  go_loopw [5, 6] (fun o i wr => ∃ (j : Nat) (vo : Value) (l : List Hu) (m0 : Nat), vo = o ∧ i = .int .i64 j ∧ l.length = j ∧ j ≤ N ∧ HuRow wr w.heap.size vo l ∧ Rd wr B g A n c m0 ∧ m0 ≤ m + 14 * j ∧ w.grownBy wr (some g)) (fun _ i _ => N - (intOf i).toNat)
  case atStart => exact ⟨0, _, [], _, rfl, rfl, rfl, by omega, hr, hrd, by omega, hG⟩
  case round =>
    clear hr hrd hG
    obtain ⟨j, vo, l, m0, rfl, rfl, hlj, hjN, hr, hrd, hm0, hG⟩ := hrel
    by_cases hc : j < N
    · go_upto_region 6 with (go_at_call 61; (with_reducible refine (l9Hue_any B g n c _ A _ hrd (by omega)).mono ?_); rintro e w' ⟨x, y, z, rfl, hrd2, hby⟩; have hr2 := RowK.pick hr hrd (by decide) hby; have hG2 := by_trans hG hby)
      refine (fun (k : ∀ wm, Has wm w'.heap.size #[.int .i64 (x), .int .i64 (y), .int .i64 (z)] 25 → HuRow wm w.heap.size vo l → Rd wm B g A n c (m0 + 11) → w.grownBy wm (some g) → w'.heap.size ≠ g → w.heap.size ≤ w'.heap.size → some w'.heap.size ≠ vo.ownBlock → Code.wp _ _ _ _ wm) => k _ (by (refine Has.as (by repeat' (first | with_reducible assumption | with_reducible apply Has.new | with_reducible apply Has.new1 | with_reducible apply Has.new2 | with_reducible apply Has.new3 | with_reducible apply Has.new4 | with_reducible apply Has.drew | with_reducible apply Has.drewN | with_reducible apply Has.alloc | with_reducible apply Has.same | with_reducible apply Has.other | (with_reducible show _ ≠ _; first | omega | (simp; done)))) ?_; first | (with_reducible rfl) | (simp only [List.setIfInBounds_toArray, List.set_cons_zero, List.set_cons_succ]; done) | (simp only [List.setIfInBounds_toArray, List.set_cons_zero, List.set_cons_succ]; rfl) | rfl | (simp; done))) ?_ ?_ ?_ ?_ ?_ ?_) ?_
      · exact hr2.alloc _
      · exact hrd2.alloc _
      · exact gAlloc hG2 _
      · have := hrd2.lt; omega
      · exact hG2.size
      · exact own_fresh hr2.own
      clear hr hrd hG hr2 hrd2 hG2 hby
      generalize w'.heap.size = bX
      intro wm BX hr hrd hG hbg hbX hne
      cases j with
      | zero =>
        have e1 : decide ((0 : Int) < ((0 : Nat) : Int)) = false := by simp
        have CX := Has.cell BX
        have FX := Has.frozen BX
        have hle9 : w.heap.size ≤ wm.heap.size := hG.size
        go_wp2_with (at_builtin; refine append_hu wm rfl _ _ rfl w.heap.size _ _ _ _ _ _ hr rfl rfl (by omega) hle9 ?_; intro v2 w10 hr10 hg10)
        have hrd10 := (hrd.alloc (.cells #[.int .i64 x, .int .i64 y, .int .i64 z] 25)).row (hr.alloc (.cells #[.int .i64 x, .int .i64 y, .int .i64 z] 25)) (by decide) (by omega) hg10
        have hG10 := gRow (gAlloc hG (.cells #[.int .i64 x, .int .i64 y, .int .i64 z] 25)) (hr.alloc (.cells #[.int .i64 x, .int .i64 y, .int .i64 z] 25)) (Nat.le_refl _) hg10
        clear hr hrd hG BX CX FX hg10
        go_roundw
        case rel => exact ⟨0 + 1, v2, _, _, rfl, by go_num, by rw [List.length_append, List.length_singleton, hlj], by omega, hr10, hrd10, by omega, hG10⟩
        case measure => simp [intOf]; omega
      | succ j =>
        have e1 : decide ((0 : Int) < ((j + 1 : Nat) : Int)) = true := decide_eq_true (by omega)
        have e2 : decide ((0 : Int) < (j : Int) + 1) = true := decide_eq_true (by omega)
        go_upto_region 7 with (first | (go_at_call 66; (with_reducible refine (pick_any B g n c _ A _ _ hrd (by omega) (by omega)).mono ?_); rintro e w' ⟨v, rfl, h0, h1, hrd2, hby⟩; have hr2 := RowK.pick hr hrd (by decide) hby; have hG2 := by_trans hG hby; (try have BX2 := BX.by_ hby (by omega)); clear hr hrd hG hby; (try clear CX); (try clear FX); (try clear BX); have hr := hr2; have hrd := hrd2; have hG := hG2; (try have BX := BX2); clear hr2 hrd2 hG2; (try clear BX2); (try have CX := Has.cell BX); (try have FX := Has.frozen BX)) | (at_builtin; refine append_hu w' rfl _ _ rfl w.heap.size _ _ _ _ _ _ hr rfl rfl (by omega) hG.size ?_; intro v2 w10 hr10 hg10))
        · obtain ⟨A3, c3, hv3, hA3⟩ := HuRow.shape0 hr
          obtain ⟨gv, rfl, hgv1, hgv2⟩ := hA3 (by omega)
          have hlen := Lib.hid hlj.symm
          rw [hlj] at hv3
          subst hv3
          have hgvb : gv ≠ bX := fun e => hne (by rw [← e]; rfl)
          go_upto_region 8 with (go_at_call 66; (with_reducible refine (pick_any B g n c _ A _ _ hrd (by omega) (by omega)).mono ?_); rintro e w5 ⟨u, rfl, g0, g1, hrd5, hby5⟩; obtain ⟨kk, rfl⟩ := Int.eq_ofNat_of_zero_le g0; have hkk : kk < j + 1 := (by omega); have hkl : kk < l.length := (by omega); have hr5 := RowK.pick hr hrd (by decide) hby5; have hG5 := by_trans hG hby5; have BX5 := BX.by_ hby5 (by omega); obtain ⟨d0, d1, d2⟩ := HuRow.tri hr5 hlen.out kk hkl; have CX5 := Has.cell BX5; have FX5 := Has.frozen BX5; have hkki : (kk : Int) < (j : Int) + 1 := (by omega))
          refine (fun (k : ∀ wm, Has wm bX #[.int .i64 (l[kk].r), .int .i64 (l[kk].g), .int .i64 (l[kk].b)] 25 → HuRow wm w.heap.size (.slice (some ⟨gv, 0, none⟩) (j + 1) c3) l → Rd wm B g A n c (m0 + 13) → w.grownBy wm (some g) → Code.wp _ _ _ _ wm) => k _ (by (refine Has.as (by repeat' (first | with_reducible assumption | with_reducible apply Has.new | with_reducible apply Has.new1 | with_reducible apply Has.new2 | with_reducible apply Has.new3 | with_reducible apply Has.new4 | with_reducible apply Has.drew | with_reducible apply Has.drewN | with_reducible apply Has.alloc | with_reducible apply Has.same | with_reducible apply Has.other | (with_reducible show _ ≠ _; first | omega | (simp; done)))) ?_; first | (with_reducible rfl) | (simp only [List.setIfInBounds_toArray, List.set_cons_zero, List.set_cons_succ]; done) | (simp only [List.setIfInBounds_toArray, List.set_cons_zero, List.set_cons_succ]; rfl) | rfl | (simp; done))) ?_ ?_ ?_) ?_
          · exact RowK.set (RowK.set (RowK.set hr5 hne) hne) hne
          · exact Rd.mono (Rd.set (Rd.set (Rd.set hrd5 (by have := hrd5.lo; omega) (fun e => hbg e.symm) _ _) (by have := hrd5.lo; omega) (fun e => hbg e.symm) _ _) (by have := hrd5.lo; omega) (fun e => hbg e.symm) _ _) (by omega)
          · exact gSetOwn (gSetOwn (gSetOwn hG5 hbX _) hbX _) hbX _
          clear hr hrd hG BX hr5 hrd5 hG5 BX5 CX5 FX5 d0 d1 d2 hby5 CX FX
          intro wk BX hr hrd hG
          have CX := Has.cell BX
          have FX := Has.frozen BX
          have hle9 : w.heap.size ≤ wk.heap.size := hG.size
          go_wp2_with (at_builtin; refine append_hu wk rfl _ _ rfl w.heap.size _ _ _ _ _ _ hr rfl rfl (by omega) hle9 ?_; intro v2 w10 hr10 hg10)
          have hrd10 := (hrd.alloc (.cells #[.int .i64 l[kk].r, .int .i64 l[kk].g, .int .i64 l[kk].b] 25)).row (hr.alloc (.cells #[.int .i64 l[kk].r, .int .i64 l[kk].g, .int .i64 l[kk].b] 25)) (by decide) (by omega) hg10
          have hG10 := gRow (gAlloc hG (.cells #[.int .i64 l[kk].r, .int .i64 l[kk].g, .int .i64 l[kk].b] 25)) (hr.alloc (.cells #[.int .i64 l[kk].r, .int .i64 l[kk].g, .int .i64 l[kk].b] 25)) (Nat.le_refl _) hg10
          clear hr hrd hG BX CX FX hg10
          go_roundw
          case rel => exact ⟨j + 1 + 1, v2, _, _, rfl, by go_num, by rw [List.length_append, List.length_singleton, hlj], by omega, hr10, hrd10, by omega, hG10⟩
          case measure => simp [intOf]; omega
        · have CX := Has.cell BX
          have FX := Has.frozen BX
          have hrd10 := (hrd.alloc (.cells #[.int .i64 x, .int .i64 y, .int .i64 z] 25)).row (hr.alloc (.cells #[.int .i64 x, .int .i64 y, .int .i64 z] 25)) (by decide) (by omega) hg10
          have hG10 := gRow (gAlloc hG (.cells #[.int .i64 x, .int .i64 y, .int .i64 z] 25)) (hr.alloc (.cells #[.int .i64 x, .int .i64 y, .int .i64 z] 25)) (Nat.le_refl _) hg10
          clear hr hrd hG BX CX FX hg10
          go_roundw
          case rel => exact ⟨j + 1 + 1, v2, _, _, rfl, by go_num, by rw [List.length_append, List.length_singleton, hlj], by omega, hr10, hrd10, by omega, hG10⟩
          case measure => simp [intOf]; omega
    · obtain rfl : j = N := by omega
      go_wp2
      go_ret
      exact ⟨_, l, rfl, hlj, hr, hrd.mono (by omega), hG⟩
end Go.Proofs.Ytegibpepdndocaa
