import Derived.Test.YtckenfomnenknaaGreatHeldAb
import Derived.Test.YtckenfomnenknaaGreatSpMb
namespace Go.Proofs.YtckenfomnenknaaGreat
open Go.ChangeShapes Go.WideShapes Go.ChangeAt Go.RowKit
set_option linter.unusedSimpArgs false
set_option linter.unusedVariables false
set_option maxHeartbeats 4000000

attribute [local go_sem] VGo_value VGo_skip VGo_enter
attribute [local go_sem] Pt.arr0 Pt.arr1 Pt.arr2 Pt.arr3 Pt.arr4 Pt.arr5 Pt.arr6 Pt.arr7 Pt.arr8 Pt.arr9 Pt.arr10 Pt.arr11 Pt.arr12 Pt.arr13 Pt.arr14 Pt.arr15 Pt.arr16 Pt.arr17 Pt.arr18 Pt.arr19 Pt.arr20 Pt.arr21 Pt.arr22 Pt.arr23 Pt.arr24 Pt.arr25 Pt.arr26
attribute [-go_sem] loadVar storeVar
attribute [local go_sem] lvA svA
attribute [local go_sem high] ptLoadNew ptStoreNew moStoreNew
theorem Pt.arrSize (q : Pt) : q.arr.size = 27 := rfl
theorem Pt.fill (q : Pt) : Array.foldl (fun (cs : Array Value) (x : Value × Nat) => cs.setIfInBounds x.snd x.fst) #[Value.int IntKind.i64 0, Value.int IntKind.i64 0, Value.int IntKind.i64 0, Value.int IntKind.i64 0, Value.int IntKind.i64 0, Value.int IntKind.i64 0, Value.int IntKind.i64 0, Value.int IntKind.i64 0, Value.int IntKind.i64 0, Value.int IntKind.i64 0, Value.int IntKind.i64 0, Value.int IntKind.i64 0, Value.int IntKind.i64 0, Value.int IntKind.i64 0, Value.int IntKind.i64 0, Value.int IntKind.i64 0, Value.int IntKind.i64 0, Value.int IntKind.i64 0, Value.bool false, Value.bool false, Value.bool false, Value.int IntKind.i64 0, Value.int IntKind.i64 0, Value.int IntKind.i64 0, Value.int IntKind.i64 0, Value.int IntKind.i64 0, Value.int IntKind.i64 0] q.arr.zipIdx 0 27 = q.arr := by kernel_rfl
attribute [local go_sem] Pt.arrSize Pt.fill
theorem Pat.k {w : World} {b k : Nat} {p : Pt} (h : Pat w b k p) : w.cell? ⟨b, k, none⟩ = some (.int .i64 p.k) := by have := h 0 _ rfl; exact this
theorem lv_succ (l : List Pt) (j : Nat) : (List.range (j + 1)).map (lv l) = (List.range j).map (lv l) ++ [lv l j] := by simp [List.range_succ]
set_option maxRecDepth 100000 in
theorem l7Leaves_any (l : List Pt) (v : Value) (w : World) (hl : PIn w v l) (hF : SForm l) (hM : ∀ i, i < l.length → MOk l i) : Calls Tryz.prog 62 #[v] w fun e w' => ∃ v', e = .returned v' ∧ PRow w' w.heap.size v' (lvs l) ∧ Below w.heap.size w w' := by
  have h1 : 1 ≤ l.length := hF.1.1.1
  have h24 : l.length ≤ 24 := hF.1.1.2
  have HL := Lib.hid hl
  obtain ⟨A, c, rfl, hf⟩ := hl
  obtain ⟨b, off, rfl, hr⟩ := hf h1
  have HR := Lib.hid hr
  have HF := Lib.hid hF
  have HM := Lib.hid hM
  clear hr hF hf hM
  go_enter Tryz.func62, Tryz.ntmps62
  go_upto_region 3 with (go_at_call 65; (with_reducible refine (l7Motions_any l _ _ HL.out HF.out).mono ?_); rintro e w2 ⟨vm, rfl, hm, hb⟩; obtain ⟨A2, cm, hv, hA2, -⟩ := hm.shape; rw [List.length_map, List.length_range] at hv hA2; obtain ⟨gm, hgm, hg1, hg2⟩ := hA2 h1; subst hgm; subst hv; clear hA2)
  have hr0 : PRow (w2.alloc (.cells #[] 95)) w2.heap.size (.slice (some ⟨w2.heap.size, 0, none⟩) 0 0) [] := RowK.empty w2 _ _ _ (Nat.le_refl _)
  have hm0 := RowK.alloc hm (.cells #[] 95)
  have hb0 := lowAlloc hb (.cells #[] 95)
  have hw2 := hb.size
  have hgl : gm < (w2.alloc (.cells #[] 95)).heap.size := by simp; omega
  clear hm hb
  generalize hB : w2.heap.size = B at hr0 hg2 hw2 ⊢
  generalize w2.alloc (.cells #[] 95) = w3 at hr0 hm0 hb0 hgl ⊢
  have hBw : B ≤ w3.heap.size := by
    obtain ⟨A3, c3, hv3, _, h3⟩ := hr0.shape
    have := (hr0.own.lt B (by rfl)).2
    omega
  clear hB w2
  go_wp2
  go_loopw [5, 6] (fun o i wr => ∃ (j : Nat) (vo : Value), j ≤ l.length ∧ i = .int .i64 j ∧ vo = o ∧ PRow wr B vo ((List.range j).map (lv l)) ∧ MRo wr w.heap.size (.slice (some ⟨gm, 0, none⟩) l.length cm) l.length (Jn Mo.rest l l.length) ∧ B ≤ wr.heap.size ∧ Below w.heap.size w wr) (fun _ i _ => l.length - (intOf i).toNat)
  case atStart => exact ⟨0, _, by omega, rfl, rfl, hr0, hm0, hBw, hb0⟩
  case round =>
    clear hr0 hm0 hb0 hgl hBw
    obtain ⟨j, vo, hj, rfl, rfl, hro, hmr, hBr, hb⟩ := hrel
    by_cases hc : j < l.length
    · have LD := HR.out j hc
      have hlt := LD.lt
      have NA : ∀ w', wr.drew.grownBy w' vo.ownBlock → Pat w' b (off + j * 27) l[j] := fun w' hg =>
        (LD.below hb).lift (hg.block b (Nat.lt_of_lt_of_le hlt hb.size) (fun e => by have := (hro.own.lt b e.symm).1; omega))
      have NM : ∀ w', wr.drew.grownBy w' vo.ownBlock → MRo w' w.heap.size (.slice (some ⟨gm, 0, none⟩) l.length cm) l.length (Jn Mo.rest l l.length) := fun w' hg =>
        RowK.kept (RowK.drew hmr) hg (.inr fun e => by have := (hro.own.lt gm e.symm).1; omega)
      have hjn : Jn Mo.rest l l.length j = mo l j := by
        have := jn_later HF.out.1 hc (j + 1) (by omega)
        rwa [show l.length - 1 - j + (j + 1) = l.length by omega] at this
      have hmok : (mo l j).ok := mo_ok HF.out.1 hc (fun i hi _ => HM.out i hi)
      have hpt := (HF.out.1.2.1 j hc hc).1
      have hpa := pa_get l j hc
      have CK := (LD.below hb).k
      have hlen : ((List.range j).map (lv l)).length = j := by simp
      have hls := lv_succ l j
      have hlv : lv l j = if (pa l j).k ≤ 2 then leafAt (mo l j) (pa l j) else pa l j := rfl
      rw [hpa] at hlv
      generalize l[j] = p at LD NA hpt CK hlv
      generalize (List.range j).map (lv l) = zs at hro hlen hls
      have HNA := Lib.hid NA
      have HNM := Lib.hid NM
      have HLS := Lib.hid hls
      have HLV := Lib.hid hlv
      have HLEN := Lib.hid hlen
      have HMO := Lib.hid hmok
      have HPT := Lib.hid hpt
      have HJN := Lib.hid hjn
      clear NA NM hls hlv hlen hmok hpt hjn hpa
      by_cases hk2 : p.k ≤ 2
      · have HK : Hid (0 ≤ p.k ∧ p.k ≤ 2) := Lib.hid ⟨HPT.out.1.1, hk2⟩
        have HLF := Lib.hid (HPT.out.2.1 hk2).2
        go_upto_region 7 with fail
        refine wp_region_heldA 10 (by kernel_rfl) (by kernel_rfl) rfl rfl rfl (fun _ _ _ d _ h => by cases d <;> exact h) (fun w' => wr.drew.grownBy w' vo.ownBlock) (fun w' => PRow w' B vo zs) wr.heap.size grown_stab (fun w' h => h.size) (fun w1 w2 h k => h.below k) (World.grownBy.refl _ _) hro.drew ?_
        intro Fq hFq
        simp only [List.take_succ_cons, List.take_zero]
        repeat (first | (refine wpHeld_skip (by rfl) ?_; ((try simp only [Act.put, List.setIfInBounds_toArray, List.set_cons_zero, List.set_cons_succ]))) | (refine wpHeld_run ?_ rfl ?_ ?_; rotate_left; (focus (intro w' hbq Kq hKq; go_simp; (try (rw [IntWalk.i64_in]; rotate_left; focus (constructor <;> omega))); first | exact hKq _ (Below.refl _ _) | first | (go_at_call 114; ((with_reducible refine (l7At_any (mo l j) p _ HMO.out HK.out HLF.out).mono ?_); rintro e w2 ⟨rfl, hbr⟩; refine back ?_; exact hKq _ hbr)) | (have c1 := (HNA.out _ hbq).load; have c2 := MRo.load (HNM.out _ hbq) j hc; rw [HJN.out] at c2; go_simp; exact hKq _ (Below.refl _ _)))); ((try simp only [Act.put, List.setIfInBounds_toArray, List.set_cons_zero, List.set_cons_succ]))))
        refine wpHeld_nil (hFq _ ⟨1, .cells (leafAt (mo l j) p).arr 95, fun v' w' => PRow w' B v' (zs ++ [leafAt (mo l j) p]), fun v' w1 w2 h k => h.below k, rfl, ?_, fun _ => rfl, ?_, ?_⟩)
        · intro w' _ _ K hK
          generalize leafAt (mo l j) p = q at hK ⊢
          generalize mo l j = mq at hK ⊢
          generalize dec _ = bd at hK ⊢
          clear HLEN HPT HJN HLV HLS HMO HNM HNA hmr hro hb HLF HK hFq
          go_simp
          exact hK
        · intro b1 w1 hS1 hF1 hN hB1 K hK
          refine append_wp w1 _ _ 23 95 27 200 Pt.zero.val rfl Tryz.underlying23 infoPt rfl (by omega) B vo _ [(leafAt (mo l j) p).cells] hF1 rfl b1 1 rfl _ _ hB1 (by simp [Pt.arr]) rfl (by intro y hy; obtain rfl := List.mem_singleton.1 hy; rfl) (by simpa using Pt.one (leafAt (mo l j) p)) (by rw [List.length_map, HLEN.out]; omega) (by omega) (by have := hS1.size; simp at this; omega) ?_
          intro v' w' h1 h2
          exact hK _ _ (by_trans hS1 h2) (by show PRow w' B v' (zs ++ [leafAt (mo l j) p]); unfold PRow; rw [List.map_append]; exact h1)
        · intro b1 v' w1 hS1 hN hG1
          have hG1 : PRow w1 B v' (zs ++ [leafAt (mo l j) p]) := hG1
          have hb2 : Below w.heap.size w w1 := (lowDrew hb).grown hS1 (by simpa using hb.size) (fun g hg => by have := (hro.own.lt g hg).1; omega)
          have hmr2 := HNM.out _ hS1
          have hG2 : PRow w1 B v' ((List.range (j + 1)).map (lv l)) := by rw [HLS.out, HLV.out, if_pos hk2]; exact hG1
          have hB2 : B ≤ w1.heap.size := by have := hS1.size; simp at this; omega
          clear HNA HNM HLS HLV hro hmr hb LD CK HLF HK HMO HPT HJN hG1 hS1
          go_wp2
          go_roundw
          case rel => exact ⟨j + 1, _, by omega, by go_num, rfl, hG2, hmr2, hB2, hb2⟩
          case measure => simp [intOf]; omega
      · have LP := (LD.below hb).load
        have hro2 := RowK.alloc hro (.cells p.arr 95)
        have hmr2 := RowK.alloc hmr (.cells p.arr 95)
        have hb2 := lowAlloc hb (.cells p.arr 95)
        clear HNA HNM HMO HJN
        go_wp2_with (at_builtin; refine append_k _ rfl _ _ _ 95 27 200 Pt.zero.val rfl Tryz.underlying23 infoPt rfl (by omega) B _ _ p.cells hro2 rfl wr.heap.size rfl _ _ (Has.new _ _ _) (by simp [Pt.arr]) rfl p.one (by rw [List.length_map, HLEN.out]; omega) (by omega) (by simp; omega) ?_; intro v' w3 hr3 hg3)
        have hg3s := hg3.size
        simp at hg3s
        have hG2 : PRow w3 B v' ((List.range (j + 1)).map (lv l)) := by rw [HLS.out, HLV.out, if_neg hk2]; unfold PRow; rw [List.map_append]; exact hr3
        exact ⟨⟨j + 1, _, by omega, by go_num, rfl, hG2, RowK.kept hmr2 hg3 (.inr fun e => by have := (hro.own.lt gm e.symm).1; omega), by omega, hb2.grown hg3 (by simp; have := hb.size; omega) (fun g hg => by have := (hro.own.lt g hg).1; omega)⟩, by simp [intOf]; omega⟩
    · obtain rfl : j = l.length := by omega
      go_wp2
      go_ret
      exact ⟨_, rfl, hro.mono (by omega), hb⟩
end Go.Proofs.YtckenfomnenknaaGreat
