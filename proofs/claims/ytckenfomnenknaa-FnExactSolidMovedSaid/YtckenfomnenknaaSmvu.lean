import Derived.Test.YtckenfomnenknaaHeldDu
import Derived.Test.YtckenfomnenknaaHeldEu
namespace Go.Proofs.Ytckenfomnenknaa
open Go.ChangeShapes Go.WideShapes Go.ChangeAt Go.RowKit
set_option linter.unusedSimpArgs false
set_option linter.unusedVariables false
set_option maxHeartbeats 4000000

attribute [local go_sem] VGo_value VGo_skip VGo_enter
attribute [local go_sem] Pt.arr0 Pt.arr1 Pt.arr2 Pt.arr3 Pt.arr4 Pt.arr5 Pt.arr6 Pt.arr7 Pt.arr8 Pt.arr9 Pt.arr10 Pt.arr11 Pt.arr12 Pt.arr13 Pt.arr14 Pt.arr15 Pt.arr16 Pt.arr17 Pt.arr18 Pt.arr19 Pt.arr20 Pt.arr21 Pt.arr22 Pt.arr23 Pt.arr24 Pt.arr25 Pt.arr26
attribute [-go_sem] loadVar storeVar Instr.build
attribute [local go_sem] lvA svA bTwo bMov
attribute [local go_sem high] ptLoadNew ptStoreNew moStoreNew
attribute [local go_sem] Pt.arrSize Pt.fill
/- a solid behind a motion -/
theorem PIn.one {w : World} {b c : Nat} {p : Pt} {T : TypeId} (h : Has w b p.arr T) : PIn w (.slice (some ⟨b, 0, none⟩) 1 c) [p] :=
  ⟨some ⟨b, 0, none⟩, c, rfl, fun _ => ⟨b, 0, rfl, fun i hi j v hj => by
    have hi0 : i = 0 := by simpa using hi
    subst hi0
    rw [Has.cell h]
    simpa [Pt.arr] using hj⟩⟩
theorem concat2 (l1 l2 : List Pt) (v1 v2 : Value) (b c : Nat) (T : TypeId) (w : World) (hb : Has w b #[v1, v2] T) (h1 : PIn w v1 l1) (p1 : 0 < l1.length) (h2 : PIn w v2 l2) (p2 : 0 < l2.length) (hn : l1.length + l2.length ≤ 4000000) :
    Calls Try.prog 92 #[.slice (some ⟨b, 0, none⟩) 2 c] w fun e w' => ∃ v, e = .returned v ∧ PRow w' w.heap.size v (l1 ++ l2) ∧ Below w.heap.size w w' := by
  have := concat_any [l1, l2] [v1, v2] b c T w hb ⟨h1, p1, h2, p2, trivial⟩ (by simp) (by simp) (by simp; omega)
  simpa using this
theorem concat3 (l1 l2 l3 : List Pt) (v1 v2 v3 : Value) (b c : Nat) (T : TypeId) (w : World) (hb : Has w b #[v1, v2, v3] T) (h1 : PIn w v1 l1) (p1 : 0 < l1.length) (h2 : PIn w v2 l2) (p2 : 0 < l2.length) (h3 : PIn w v3 l3) (p3 : 0 < l3.length) (hn : l1.length + (l2.length + l3.length) ≤ 4000000) :
    Calls Try.prog 92 #[.slice (some ⟨b, 0, none⟩) 3 c] w fun e w' => ∃ v, e = .returned v ∧ PRow w' w.heap.size v (l1 ++ (l2 ++ l3)) ∧ Below w.heap.size w w' := by
  have := concat_any [l1, l2, l3] [v1, v2, v3] b c T w hb ⟨h1, p1, h2, p2, h3, p3, trivial⟩ (by simp) (by simp) (by simp; omega)
  simpa using this
theorem ifSolid_yes (l : List Pt) (v : Value) (w : World) (hl : PIn w v l) (hn : l.length ≤ 1048576) (hS : SolidP l) : Calls Try.prog 91 #[v] w fun e w' => e = .returned (v) ∧ Below w.heap.size w w' := by
  have HL := Lib.hid hl
  have HC : Hid (∀ w, PIn w v l → Calls Try.prog 90 #[v] w fun e w' => e = .returned (.bool true) ∧ Below w.heap.size w w') := Lib.hid fun w h => by have := iSolidOk_any l v w h hn; rwa [dec_yes hS] at this
  clear hl hS
  go_enter Try.func91, Try.ntmps91
  go_wp2_with ((go_at_call 90; ((with_reducible refine (HC.out _ HL.out).mono ?_); rintro e w2 ⟨rfl, hbq⟩)))
  go_ret
  exact ⟨rfl, hbq⟩
theorem ifSolid_no (l : List Pt) (v : Value) (w : World) (hl : PIn w v l) (hn : l.length ≤ 1048576) (hS : ¬ SolidP l) : Calls Try.prog 91 #[v] w fun e w' => e = .returned (.slice none 0 0) ∧ Below w.heap.size w w' := by
  have HL := Lib.hid hl
  have HC : Hid (∀ w, PIn w v l → Calls Try.prog 90 #[v] w fun e w' => e = .returned (.bool false) ∧ Below w.heap.size w w') := Lib.hid fun w h => by have := iSolidOk_any l v w h hn; rwa [dec_no hS] at this
  clear hl hS
  go_enter Try.func91, Try.ntmps91
  go_wp2_with ((go_at_call 90; ((with_reducible refine (HC.out _ HL.out).mono ?_); rintro e w2 ⟨rfl, hbq⟩)))
  go_ret
  exact ⟨rfl, hbq⟩
theorem l7Told_yes (l : List Pt) (v : Value) (w : World) (hl : PIn w v l) (hn : l.length ≤ 1048576) (hS : SolidP l) : Calls Try.prog 86 #[v] w fun e w' => e = .returned (v) ∧ Below w.heap.size w w' := by
  have HL := Lib.hid hl
  have HC : Hid (∀ w, PIn w v l → Calls Try.prog 79 #[v] w fun e w' => e = .returned (.bool true) ∧ Below w.heap.size w w') := Lib.hid fun w h => by have := sSolidOk_any l v w h hn; rwa [dec_yes hS] at this
  clear hl hS
  go_enter Try.func86, Try.ntmps86
  go_wp2_with ((go_at_call 79; ((with_reducible refine (HC.out _ HL.out).mono ?_); rintro e w2 ⟨rfl, hbq⟩)))
  go_ret
  exact ⟨rfl, hbq⟩
theorem l7Told_no (l : List Pt) (v : Value) (w : World) (hl : PIn w v l) (hn : l.length ≤ 1048576) (hS : ¬ SolidP l) : Calls Try.prog 86 #[v] w fun e w' => e = .returned (.slice none 0 0) ∧ Below w.heap.size w w' := by
  have HL := Lib.hid hl
  have HC : Hid (∀ w, PIn w v l → Calls Try.prog 79 #[v] w fun e w' => e = .returned (.bool false) ∧ Below w.heap.size w w') := Lib.hid fun w h => by have := sSolidOk_any l v w h hn; rwa [dec_no hS] at this
  clear hl hS
  go_enter Try.func86, Try.ntmps86
  go_wp2_with ((go_at_call 79; ((with_reducible refine (HC.out _ HL.out).mono ?_); rintro e w2 ⟨rfl, hbq⟩)))
  go_ret
  exact ⟨rfl, hbq⟩
/- what is told of parts: themselves, if they are a solid -/
noncomputable def told (l : List Pt) : List Pt := if dec (SolidP l) then l else []
theorem ifSolid_any (l : List Pt) (v : Value) (B : Nat) (w : World) (hl : PRow w B v l) (hn : l.length ≤ 1048576) : Calls Try.prog 91 #[v] w fun e w' => ∃ v', e = .returned v' ∧ PRow w' B v' (told l) ∧ Below w.heap.size w w' := by
  unfold told
  by_cases h : SolidP l
  · rw [dec_yes h]; exact (ifSolid_yes l v w (PRow.seen hl) hn h).mono fun e w' ⟨he, hb⟩ => ⟨_, he, RowK.below hl hb, hb⟩
  · rw [dec_no h]; exact (ifSolid_no l v w (PRow.seen hl) hn h).mono fun e w' ⟨he, hb⟩ => ⟨_, he, nilRow _ _, hb⟩
theorem l7Told_any (l : List Pt) (v : Value) (B : Nat) (w : World) (hl : PRow w B v l) (hn : l.length ≤ 1048576) : Calls Try.prog 86 #[v] w fun e w' => ∃ v', e = .returned v' ∧ PRow w' B v' (told l) ∧ Below w.heap.size w w' := by
  unfold told
  by_cases h : SolidP l
  · rw [dec_yes h]; exact (l7Told_yes l v w (PRow.seen hl) hn h).mono fun e w' ⟨he, hb⟩ => ⟨_, he, RowK.below hl hb, hb⟩
  · rw [dec_no h]; exact (l7Told_no l v w (PRow.seen hl) hn h).mono fun e w' ⟨he, hb⟩ => ⟨_, he, nilRow _ _, hb⟩
set_option maxRecDepth 100000 in
theorem l7Copy_any (l : List Pt) (v : Value) (w : World) (hl : PIn w v l) (hn : l.length ≤ 1048576) : Calls Try.prog 87 #[v] w fun e w' => ∃ v', e = .returned v' ∧ PRow w' w.heap.size v' l ∧ Below w.heap.size w w' := by
  obtain ⟨A, c, rfl, hA⟩ := id hl
  have HL := Lib.hid hl
  clear hl hA
  go_enter Try.func87, Try.ntmps87
  go_upto_region 2 with fail
  have hr0 : PRow (w.alloc (.cells #[] 106)) w.heap.size (.slice (some ⟨w.heap.size, 0, none⟩) 0 0) [] := RowK.empty w _ _ _ (Nat.le_refl _)
  have hb0 := lowAlloc (lowRefl w) (.cells #[] 106)
  generalize w.alloc (.cells #[] 106) = w1 at hr0 hb0 ⊢
  go_wp2
  go_loopw [3, 4] (fun o i wr => ∃ (j : Nat), j ≤ l.length ∧ i = .int .i64 j ∧ PRow wr w.heap.size o (l.take j) ∧ Below w.heap.size w wr) (fun _ i _ => l.length - (intOf i).toNat)
  case atStart => exact ⟨0, by omega, rfl, by show PRow _ _ _ []; exact hr0, hb0⟩
  case round =>
    clear hr0 hb0
    obtain ⟨j, hj, rfl, hr, hb⟩ := hrel
    by_cases hc : j < l.length
    · obtain ⟨A', c', hv, hA⟩ := HL.out.below hb
      injection hv with e1 e2 e3
      obtain ⟨b, off, e4, hf⟩ := hA (by omega)
      rw [e4] at e1
      subst e1
      have LD := Pat.load (hf j hc)
      have hr2 := Lib.hid (RowK.alloc hr (.cells l[j].arr 106))
      have hb2 := Lib.hid (lowAlloc hb (.cells l[j].arr 106))
      have HT := Lib.hid (List.take_succ_eq_append_getElem hc)
      have hs := hb.size
      clear hf hA e4 hr
      generalize l[j] = p at LD hr2 hb2 HT
      go_wp2_with (at_builtin; refine append_k _ rfl _ _ _ 106 27 200 Pt.zero.val rfl Try.underlying70 infoPt rfl (by omega) w.heap.size _ _ p.cells hr2.out rfl wr.heap.size rfl _ _ (Has.new _ _ _) (by simp [Pt.arr]) rfl p.one (by simp; omega) (by omega) (by simp; omega) ?_; intro v' w3 hr3 hg3)
      exact ⟨⟨j + 1, by omega, by go_num, by rw [HT.out]; unfold PRow; rw [List.map_append]; exact hr3, hb2.out.grown hg3 hb2.out.size (fun k hk => (hr2.out.own.lt k hk).1)⟩, by simp [intOf]; omega⟩
    · obtain rfl : j = l.length := by omega
      rw [List.take_length] at hr
      go_wp2
      go_ret
      exact ⟨_, rfl, hr, hb⟩
def mvPt (m : Mo) (l : List Pt) : Pt := ⟨6, ⟨0, 0, 0, 0⟩, ⟨0, 0, 0, 0⟩, ⟨0, 0, 0, 0, 0, 0⟩, m, l.length - 1, 0, 0⟩
noncomputable def mvd (m : Mo) (l : List Pt) : List Pt := if dec (SolidP l) then told (l ++ [mvPt m l]) else []
theorem solid_pos {l : List Pt} (h : SolidP l) : 1 ≤ l.length ∧ l.length ≤ 24 := h.1.1
set_option maxRecDepth 100000 in
theorem sSolidMoved_yes (m : Mo) (l : List Pt) (v : Value) (w : World) (hl : PIn w v l) (hn : l.length ≤ 1048576) (hS : SolidP l) : Calls Try.prog 41 #[m.val, v] w fun e w' => ∃ v', e = .returned v' ∧ PRow w' w.heap.size v' (told (l ++ [mvPt m l])) ∧ Below w.heap.size w w' := by
  obtain ⟨A, c, rfl, hA⟩ := id hl
  have HL := Lib.hid hl
  have HC : Hid (∀ w, PIn w (.slice A l.length c) l → Calls Try.prog 79 #[.slice A l.length c] w fun e w' => e = .returned (.bool true) ∧ Below w.heap.size w w') := Lib.hid fun w h => by have := sSolidOk_any l _ w h hn; rwa [dec_yes hS] at this
  have hp := solid_pos hS
  clear hl hA hS
  go_enter Try.func41, Try.ntmps41
  go_upto_region 3 with ((go_at_call 79; ((with_reducible refine (HC.out _ (HL.out.below (lowAlloc (lowRefl _) _))).mono ?_); rintro e w2 ⟨rfl, hbq⟩)))
  have B0 : Has w2 w.heap.size m.cells.toArray 51 := Has.below (Has.new _ _ _) hbq
  have hL := lowCall (lowAlloc (lowRefl w) _) hbq
  have hl2 := Lib.hid (HL.out.below hL)
  clear hbq HL HC
  refine wp_region_heldE [true, false, true, true, true, true, true, false] 1 7 (by kernel_rfl) (by kernel_rfl) rfl rfl (fun _ _ _ d _ h => by cases d <;> exact h) ?_
  intro Fq hFq
  simp only [maskL]
  repeat (first | (refine wpHeld_skip (by rfl) ?_; ((try simp only [Act.put, List.setIfInBounds_toArray, List.set_cons_zero, List.set_cons_succ]))) | (refine wpHeld_run ?_ rfl ?_ ?_; rotate_left; (focus (intro w' hbq Kq hKq; go_simp; (try (rw [IntWalk.i64_in]; rotate_left; focus (constructor <;> omega))); first | exact hKq _ (Below.refl _ _) | first | (have ML := moLoad m (B0.below (undrew hbq)); go_simp; exact hKq _ (Below.refl _ _)))); ((try simp only [Act.put, List.setIfInBounds_toArray, List.set_cons_zero, List.set_cons_succ]))))
  refine wpHeld_nil (hFq _ ⟨.cells (mvPt m l).arr 106, fun b => .slice (some ⟨b, 0, none⟩) 1 1, fun v w1 => PRow w1 w.heap.size v l, fun v w1 w2 h k => RowK.below h k, ?_, ?_, ?_⟩)
  · intro w1 hS1 K hK
    go_simp
    exact hK
  · intro w1 hS1 K hK
    go_simp
    go_at_call 87; (with_reducible refine (l7Copy_any l _ _ (hl2.out.below (undrew hS1)) hn).mono ?_); rintro e w3 ⟨vc, rfl, hr, hb⟩
    refine back ?_
    exact hK _ _ hb (RowK.mono hr (Nat.le_trans hL.size hS1.size))
  · intro vc b w1 hS1 hr hb hob
    have HB : Has w1 b (mvPt m l).arr 106 := hob
    have hL1 := lowCall hL (undrew hS1)
    have hs1 := hL1.size
    clear hFq
    simp only [List.length_cons, List.length_nil, Nat.zero_add, Nat.reduceAdd, List.drop_succ_cons, List.drop_zero]
    go_wp2_with (first | (at_builtin; refine append_k _ rfl _ _ _ 106 27 200 Pt.zero.val rfl Try.underlying70 infoPt rfl (by omega) w.heap.size _ _ (mvPt m l).cells hr rfl b rfl _ _ HB (by simp [Pt.arr]) rfl (mvPt m l).one (by simp; omega) (by omega) hs1 ?_; intro v' w3 hr3 hg3; have hr4 : PRow w3 w.heap.size v' (l ++ [mvPt m l]) := (by unfold PRow; rw [List.map_append]; exact hr3); have hL3 := hL1.grown hg3 hL1.size (fun k hk => (hr.own.lt k hk).1)) | (go_at_call 86; (with_reducible refine (l7Told_any _ _ _ _ hr4 (by simp; omega)).mono ?_); rintro e w4 ⟨vt, rfl, hr5, hb5⟩))
    go_ret
    exact ⟨_, rfl, hr5, lowCall hL3 hb5⟩
theorem sSolidMoved_any (m : Mo) (l : List Pt) (v : Value) (w : World) (hl : PIn w v l) (hn : l.length ≤ 1048576) : Calls Try.prog 41 #[m.val, v] w fun e w' => ∃ v', e = .returned v' ∧ PRow w' w.heap.size v' (mvd m l) ∧ Below w.heap.size w w' := by
  unfold mvd
  by_cases hS : SolidP l
  · rw [dec_yes hS]; exact sSolidMoved_yes m l v w hl hn hS
  · rw [dec_no hS]
    have HL := Lib.hid hl
    have HC : Hid (∀ w, PIn w v l → Calls Try.prog 79 #[v] w fun e w' => e = .returned (.bool false) ∧ Below w.heap.size w w') := Lib.hid fun w h => by have := sSolidOk_any l _ w h hn; rwa [dec_no hS] at this
    clear hl hS
    go_enter Try.func41, Try.ntmps41
    go_wp2_with ((go_at_call 79; ((with_reducible refine (HC.out _ (HL.out.below (lowAlloc (lowRefl _) _))).mono ?_); rintro e w2 ⟨rfl, hbq⟩)))
    go_ret
    exact ⟨_, rfl, nilRow _ _, lowCall (lowAlloc (lowRefl w) _) hbq⟩
set_option maxRecDepth 100000 in
theorem iSolidMoved_yes (m : Mo) (l : List Pt) (v : Value) (w : World) (hl : PIn w v l) (hn : l.length ≤ 1048576) (hS : SolidP l) : Calls Try.prog 43 #[m.val, v] w fun e w' => ∃ v', e = .returned v' ∧ PRow w' w.heap.size v' (told (l ++ [mvPt m l])) ∧ Below w.heap.size w w' := by
  obtain ⟨A, c, rfl, hA⟩ := id hl
  have HL := Lib.hid hl
  have HC : Hid (∀ w, PIn w (.slice A l.length c) l → Calls Try.prog 90 #[.slice A l.length c] w fun e w' => e = .returned (.bool true) ∧ Below w.heap.size w w') := Lib.hid fun w h => by have := iSolidOk_any l _ w h hn; rwa [dec_yes hS] at this
  have hp := solid_pos hS
  clear hl hA hS
  go_enter Try.func43, Try.ntmps43
  go_upto_region 3 with ((go_at_call 90; ((with_reducible refine (HC.out _ (HL.out.below (lowAlloc (lowRefl _) _))).mono ?_); rintro e w2 ⟨rfl, hbq⟩)))
  have B0 : Has w2 w.heap.size m.cells.toArray 51 := Has.below (Has.new _ _ _) hbq
  have hL := lowCall (lowAlloc (lowRefl w) _) hbq
  have hl2 := Lib.hid (HL.out.below hL)
  have ML := moLoad m B0
  clear hbq HL HC
  have HM : Hid (mvPt m l = ⟨6, ⟨0, 0, 0, 0⟩, ⟨0, 0, 0, 0⟩, ⟨0, 0, 0, 0, 0, 0⟩, m, l.length - 1, 0, 0⟩) := Lib.hid rfl
  go_upto_region 4 with fail
  rw [← HM.out]
  have B1 : Has (w2.alloc (.cells (mvPt m l).arr 106)) w2.heap.size (mvPt m l).arr 106 := Has.new _ _ _
  have hL2 := lowAlloc hL (.cells (mvPt m l).arr 106)
  have hl3 := Lib.hid (hl2.out.below (lowAlloc (lowRefl _) (.cells (mvPt m l).arr 106)))
  clear B0 ML hL hl2
  generalize w2.alloc (.cells (mvPt m l).arr 106) = w3 at *
  generalize w2.heap.size = bB at *
  have PL := ptLoad (mvPt m l) B1
  have hs3 := hL2.size
  go_wp2_with (first | (go_at_call 92; (with_reducible refine (concat2 l [mvPt m l] _ _ _ _ 70 _ (Has.new1 _ _ _ _) (hl3.out.below (lowAlloc (lowAlloc (lowRefl _) _) _)) (by omega) (PIn.one (Has.alloc (Has.new _ _ _) _)) (by simp) (by simp; omega)).mono ?_); rintro e w4 ⟨vc, rfl, hr, hb⟩; have hL4 := lowCall (lowAlloc (lowAlloc hL2 _) _) hb) | (go_at_call 91; (with_reducible refine (ifSolid_any _ _ _ _ hr (by simp; omega)).mono ?_); rintro e w5 ⟨vt, rfl, hr5, hb5⟩))
  go_ret
  exact ⟨_, rfl, RowK.mono hr5 (by simp; omega), lowCall hL4 hb5⟩
theorem iSolidMoved_any (m : Mo) (l : List Pt) (v : Value) (w : World) (hl : PIn w v l) (hn : l.length ≤ 1048576) : Calls Try.prog 43 #[m.val, v] w fun e w' => ∃ v', e = .returned v' ∧ PRow w' w.heap.size v' (mvd m l) ∧ Below w.heap.size w w' := by
  unfold mvd
  by_cases hS : SolidP l
  · rw [dec_yes hS]; exact iSolidMoved_yes m l v w hl hn hS
  · rw [dec_no hS]
    have HL := Lib.hid hl
    have HC : Hid (∀ w, PIn w v l → Calls Try.prog 90 #[v] w fun e w' => e = .returned (.bool false) ∧ Below w.heap.size w w') := Lib.hid fun w h => by have := iSolidOk_any l _ w h hn; rwa [dec_no hS] at this
    clear hl hS
    go_enter Try.func43, Try.ntmps43
    go_wp2_with ((go_at_call 90; ((with_reducible refine (HC.out _ (HL.out.below (lowAlloc (lowRefl _) _))).mono ?_); rintro e w2 ⟨rfl, hbq⟩)))
    go_ret
    exact ⟨_, rfl, nilRow _ _, lowCall (lowAlloc (lowRefl w) _) hbq⟩
end Go.Proofs.Ytckenfomnenknaa
