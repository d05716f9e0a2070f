import Derived.Test.YtckenfomnenknaaSmvu
namespace Go.Proofs.Ytckenfomnenknaa
open Go.ChangeShapes Go.WideShapes Go.ChangeAt Go.RowKit
set_option linter.unusedSimpArgs false
set_option linter.unusedVariables false
set_option maxHeartbeats 4000000

attribute [local go_sem] VGo_value VGo_skip VGo_enter
attribute [local go_sem] Pt.arr0 Pt.arr1 Pt.arr2 Pt.arr3 Pt.arr4 Pt.arr5 Pt.arr6 Pt.arr7 Pt.arr8 Pt.arr9 Pt.arr10 Pt.arr11 Pt.arr12 Pt.arr13 Pt.arr14 Pt.arr15 Pt.arr16 Pt.arr17 Pt.arr18 Pt.arr19 Pt.arr20 Pt.arr21 Pt.arr22 Pt.arr23 Pt.arr24 Pt.arr25 Pt.arr26
attribute [-go_sem] loadVar storeVar Instr.build
attribute [local go_sem] lvA svA bTwo bMov
attribute [local go_sem high] ptLoadNew ptStoreNew moStoreNew
attribute [local go_sem] Pt.arrSize Pt.fill
/- the parts of a solid behind so many others -/
def bh (n : Int) (p : Pt) : Pt := { p with A := if 3 ≤ p.k ∧ p.k ≤ 6 then p.A + n else p.A, B := if 3 ≤ p.k ∧ p.k ≤ 5 then p.B + n else p.B }
theorem bh_none {n : Int} {p : Pt} (h : ¬ (3 ≤ p.k ∧ p.k ≤ 6)) : bh n p = p := by
  unfold bh; rw [if_neg h, if_neg (by omega)]
theorem bh_one {n : Int} {p : Pt} (h : p.k = 6) : bh n p = { p with A := p.A + n } := by
  unfold bh; rw [if_pos (by omega), if_neg (by omega)]
theorem bh_two {n : Int} {p : Pt} (h : 3 ≤ p.k ∧ p.k ≤ 5) : bh n p = { p with A := p.A + n, B := p.B + n } := by
  unfold bh; rw [if_pos (by omega), if_pos h]
theorem form_ab {l : List Pt} (hF : Form l) (i : Nat) (hi : i < l.length) : (0 ≤ l[i].k ∧ l[i].k ≤ 6) ∧ (3 ≤ l[i].k → 0 ≤ l[i].A ∧ l[i].A < 24) ∧ (3 ≤ l[i].k → l[i].k ≤ 5 → 0 ≤ l[i].B ∧ l[i].B < 24) := by
  obtain ⟨hP, hL⟩ := hF.2.1 i hi hi
  have h24 := hF.1.2
  refine ⟨hP.1, fun h3 => ?_, fun h3 h5 => ?_⟩
  · by_cases h5 : l[i].k ≤ 5
    · rw [made_two _ h3 h5] at hL; have := hL.1; omega
    · rw [made_one _ (by have := hP.1; omega)] at hL; have := hL.1; omega
  · rw [made_two _ h3 h5] at hL; have := hL.2.2.1; omega
theorem PRow.setA {w : World} {B g n c : Nat} {R : List Pt} (h : PRow w B (.slice (some ⟨g, 0, none⟩) n c) R) (hn : n = R.length) (j : Nat) (hj : j < R.length) (x : Int) :
    PRow (w.setCell ⟨g, j * 27 + 24, none⟩ (.int .i64 x)) B (.slice (some ⟨g, 0, none⟩) n c) (R.set j { R[j] with A := x }) ∧ w.grownBy (w.setCell ⟨g, j * 27 + 24, none⟩ (.int .i64 x)) (some g) := by
  obtain ⟨h1, h2⟩ := RowK.store h (by simpa using hn) j 24 (by simpa using hj) (by omega) (.int .i64 x)
  refine ⟨?_, h2⟩
  have e : (R.map Pt.cells).set j (((R.map Pt.cells).getD j []).set 24 (.int .i64 x)) = (R.set j { R[j] with A := x }).map Pt.cells := by
    rw [List.map_set, List.getD_eq_getElem?_getD, List.getElem?_map, List.getElem?_eq_getElem hj]
    rfl
  rw [e] at h1
  exact h1
theorem PRow.setB {w : World} {B g n c : Nat} {R : List Pt} (h : PRow w B (.slice (some ⟨g, 0, none⟩) n c) R) (hn : n = R.length) (j : Nat) (hj : j < R.length) (x : Int) :
    PRow (w.setCell ⟨g, j * 27 + 25, none⟩ (.int .i64 x)) B (.slice (some ⟨g, 0, none⟩) n c) (R.set j { R[j] with B := x }) ∧ w.grownBy (w.setCell ⟨g, j * 27 + 25, none⟩ (.int .i64 x)) (some g) := by
  obtain ⟨h1, h2⟩ := RowK.store h (by simpa using hn) j 25 (by simpa using hj) (by omega) (.int .i64 x)
  refine ⟨?_, h2⟩
  have e : (R.map Pt.cells).set j (((R.map Pt.cells).getD j []).set 25 (.int .i64 x)) = (R.set j { R[j] with B := x }).map Pt.cells := by
    rw [List.map_set, List.getD_eq_getElem?_getD, List.getElem?_map, List.getElem?_eq_getElem hj]
    rfl
  rw [e] at h1
  exact h1
def mixB (n : Int) (l : List Pt) (j : Nat) : List Pt := (l.take j).map (bh n) ++ l.drop j
theorem mixB_len (n : Int) (l : List Pt) (j : Nat) : (mixB n l j).length = l.length := by simp [mixB]; omega
theorem mixB_get (n : Int) (l : List Pt) (j : Nat) (hj : j < l.length) : (mixB n l j)[j]'(by rw [mixB_len]; exact hj) = l[j] := by
  simp only [mixB]
  rw [List.getElem_append_right (by simp only [List.length_map, List.length_take]; exact Nat.min_le_left _ _)]
  simp [Nat.min_eq_left (Nat.le_of_lt hj)]
theorem mixB_set (n : Int) (l : List Pt) (j : Nat) (hj : j < l.length) (p : Pt) (hp : p = bh n l[j]) : (mixB n l j).set j p = mixB n l (j + 1) := by
  subst hp
  simp only [mixB]
  rw [List.set_append_right _ _ (by simp only [List.length_map, List.length_take]; exact Nat.min_le_left _ _), List.take_succ_eq_append_getElem hj, List.map_append, List.append_assoc]
  congr 1
  simp only [List.length_map, List.length_take, Nat.min_eq_left (Nat.le_of_lt hj), Nat.sub_self]
  rw [List.drop_eq_getElem_cons hj, List.set_cons_zero]
  rfl
theorem mixB_same (n : Int) (l : List Pt) (j : Nat) (hj : j < l.length) (hp : bh n l[j] = l[j]) : mixB n l j = mixB n l (j + 1) := by
  have e := List.set_getElem_self (show j < (mixB n l j).length by rw [mixB_len]; exact hj)
  rw [mixB_get n l j hj] at e
  rw [← mixB_set n l j hj (bh n l[j]) rfl, hp]
  exact e.symm
set_option maxRecDepth 100000 in
theorem partsBehind_any (l : List Pt) (n : Nat) (v : Value) (w : World) (hl : PIn w v l) (hn : n ≤ 1048576) (hF : Form l) : Calls Try.prog 94 #[v, .int .i64 n] w fun e w' => ∃ v', e = .returned v' ∧ PRow w' w.heap.size v' (l.map (bh n)) ∧ Below w.heap.size w w' := by
  obtain ⟨A, c, rfl, hA⟩ := id hl
  have h1 := hF.1
  obtain ⟨b, off, rfl, hf⟩ := hA (by omega)
  have HL := Lib.hid hl
  have HAB := Lib.hid (form_ab hF)
  have HP := Lib.hid hf
  clear hl hA hF hf
  go_enter Try.func94, Try.ntmps94
  go_upto_region 2 with (go_at_call 120; (with_reducible refine (clone_any l b off c _ (by omega) HP.out).mono ?_); rintro e w1 ⟨v1, rfl, hr0, hb0⟩)
  obtain ⟨A1, c1, rfl, hA1, -⟩ := hr0.shape
  rw [List.length_map] at hr0 hA1 ⊢
  obtain ⟨g, rfl, hg1, hg2⟩ := hA1 (by omega)
  clear hA1 HP
  go_wp2
  go_loopw [12] (fun i wr => ∃ (j : Nat), j ≤ l.length ∧ i = .int .i64 j ∧ PRow wr w.heap.size (.slice (some ⟨g, 0, none⟩) l.length c1) (mixB n l j) ∧ g < wr.heap.size ∧ Below w.heap.size w wr) (fun i _ => l.length - (intOf i).toNat)
  case atStart => exact ⟨0, by omega, rfl, by simpa [mixB] using hr0, hg2, hb0⟩
  case round =>
    clear hr0 hb0 hg2
    obtain ⟨j, hj, rfl, hr, hg2, hb⟩ := hrel
    by_cases hc : j < l.length
    · obtain ⟨A', c', hv, hA⟩ := HL.out.below hb
      injection hv with e1 e2 e3
      obtain ⟨b', off', e4, hf⟩ := hA (by omega)
      rw [e4] at e1
      injection e1 with e1
      injection e1 with e5 e6
      subst e5 e6
      have LD := Pat.load (hf j hc)
      obtain ⟨hk, hka, hkb⟩ := HAB.out j hc
      have hlen := mixB_len n l j
      have hget := mixB_get n l j hc
      have hset := Lib.hid (mixB_set n l j hc)
      have hsame := Lib.hid (mixB_same n l j hc)
      have HR := Lib.hid hr
      have HLEN := Lib.hid hlen
      have HGET := Lib.hid hget
      clear hf hA e4 hr hlen hget e2 e3
      generalize l[j] = p at LD hk hka hkb hset hsame HGET
      go_upto_region 5 with fail
      have BP := Has.new wr p.arr 106
      have hbA := (Below.refl wr.heap.size wr).alloc (Nat.le_refl _) (.cells p.arr 106)
      have HR2 := Lib.hid (RowK.below HR.out hbA)
      have hb2 := lowCall hb hbA
      have hg3 : g < (wr.alloc (.cells p.arr 106)).heap.size := Nat.lt_of_lt_of_le hg2 hbA.size
      have hng : wr.heap.size ≠ g := Nat.ne_of_gt hg2
      have hlo : w.heap.size ≤ wr.heap.size := hb.size
      clear HR hbA hb hg2 LD
      generalize wr.alloc (.cells p.arr 106) = ws at *
      generalize wr.heap.size = bP at *
      have PL := ptLoad p BP
      by_cases h3 : 3 ≤ p.k
      · obtain ⟨ha0, ha1⟩ := hka h3
        go_upto_region 6 with (go_at_call 84; (with_reducible refine (isMade_yes p _ h3 hk.2).mono ?_); rintro e w2 ⟨rfl, hbq⟩)
        have HR3 := Lib.hid (RowK.below HR2.out hbq)
        have BP2 := BP.below hbq
        have hb3 := lowCall hb2 hbq
        have hg4 : g < w2.heap.size := Nat.lt_of_lt_of_le hg3 hbq.size
        clear HR2 BP hb2 hg3 PL hbq
        have q24 : w2.cell? ⟨g, j * 27 + 24, none⟩ = some (.int .i64 p.A) := by
          rw [RowK.cell HR3.out (by rw [List.length_map, HLEN.out]) j 24 (by rw [List.length_map, HLEN.out]; exact hc) (by omega), List.getElem_map, HGET.out]; rfl
        have z24 := RowK.frozen HR3.out (by rw [List.length_map, HLEN.out]) 
        obtain ⟨sr, sg⟩ := PRow.setA HR3.out HLEN.out.symm j (by rw [HLEN.out]; exact hc) (p.A + n)
        rw [HGET.out] at sr
        have SR := Lib.hid sr
        have SG := Lib.hid sg
        clear sr sg
        go_upto_region 7 with fail
        refine (fun (k : ∀ wm, PRow wm w.heap.size (.slice (some ⟨g, 0, none⟩) l.length c1) ((mixB n l j).set j { p with A := p.A + n }) → Has wm bP p.arr 106 → g < wm.heap.size → Below w.heap.size w wm → Code.wp _ _ _ _ wm) => k _ SR.out (BP2.grown SG.out (by simp; omega)) (Nat.lt_of_lt_of_le hg4 SG.out.size) (hb3.grown SG.out hb3.size (fun k hk => by injection hk with hk; omega))) ?_
        clear SR SG z24 q24 HR3 BP2 hb3 hg4
        intro wm hr BM hgm hbm
        have HRM := Lib.hid hr
        clear hr
        have PL := ptLoad p BM
        by_cases h5 : p.k ≤ 5
        · obtain ⟨hb0, hb1⟩ := hkb h3 h5
          go_upto_region 8 with (go_at_call 133; (with_reducible refine (hasTwo_yes p _ h3 h5).mono ?_); rintro e w3 ⟨rfl, hbq⟩)
          have HR3 := Lib.hid (RowK.below HRM.out hbq)
          have hb3 := lowCall hbm hbq
          have hg4 : g < w3.heap.size := Nat.lt_of_lt_of_le hgm hbq.size
          clear HRM BM hbm hgm PL hbq
          have hl2 : ((mixB n l j).set j { p with A := p.A + n }).length = l.length := by rw [List.length_set, HLEN.out]
          have q25 : w3.cell? ⟨g, j * 27 + 25, none⟩ = some (.int .i64 p.B) := by
            rw [RowK.cell HR3.out (by rw [List.length_map, hl2]) j 25 (by rw [List.length_map, hl2]; exact hc) (by omega), List.getElem_map, List.getElem_set_self]; rfl
          have z25 := RowK.frozen HR3.out (by rw [List.length_map, hl2])
          obtain ⟨sr, sg⟩ := PRow.setB HR3.out hl2.symm j (by rw [hl2]; exact hc) (p.B + n)
          rw [List.getElem_set_self, List.set_set, hset.out _ (bh_two ⟨h3, h5⟩).symm] at sr
          have SR := Lib.hid sr
          have SG := Lib.hid sg
          clear sr sg hl2
          go_wp2
          first | exact ⟨⟨j + 1, by omega, by go_num, SR.out, Nat.lt_of_lt_of_le hg4 SG.out.size, hb3.grown SG.out hb3.size (fun k hk => by injection hk with hk; omega)⟩, by simp [intOf]; omega⟩ | (refine ⟨?_, by simp [intOf]; omega⟩; (repeat apply Exists.intro); exact ⟨⟨j + 1, by omega, by go_num, SR.out, Nat.lt_of_lt_of_le hg4 SG.out.size, hb3.grown SG.out hb3.size (fun k hk => by injection hk with hk; omega)⟩, rfl⟩)
        · have e := hset.out _ (bh_one (show p.k = 6 by omega)).symm
          have E := Lib.hid e
          clear e
          go_wp2_with (go_at_call 133; (with_reducible refine (hasTwo_no p _ (by omega)).mono ?_); rintro e w3 ⟨rfl, hbq⟩)
          first | exact ⟨⟨j + 1, by omega, by go_num, by rw [← E.out]; exact RowK.below HRM.out hbq, Nat.lt_of_lt_of_le hgm hbq.size, lowCall hbm hbq⟩, by simp [intOf]; omega⟩ | (refine ⟨?_, by simp [intOf]; omega⟩; (repeat apply Exists.intro); exact ⟨⟨j + 1, by omega, by go_num, by rw [← E.out]; exact RowK.below HRM.out hbq, Nat.lt_of_lt_of_le hgm hbq.size, lowCall hbm hbq⟩, rfl⟩)
      · have e := hsame.out (bh_none (by omega))
        have E := Lib.hid e
        clear e
        go_upto_region 7 with (go_at_call 84; (with_reducible refine (isMade_no p _ (by omega)).mono ?_); rintro e w2 ⟨rfl, hbq⟩)
        have HR3 := Lib.hid (RowK.below HR2.out hbq)
        have BP2 := BP.below hbq
        have hb3 := lowCall hb2 hbq
        have hg4 : g < w2.heap.size := Nat.lt_of_lt_of_le hg3 hbq.size
        clear HR2 BP hb2 hg3 PL hbq
        have PL := ptLoad p BP2
        go_wp2_with (go_at_call 133; (with_reducible refine (hasTwo_no p _ (by omega)).mono ?_); rintro e w3 ⟨rfl, hbq⟩)
        first | exact ⟨⟨j + 1, by omega, by go_num, by rw [← E.out]; exact RowK.below HR3.out hbq, Nat.lt_of_lt_of_le hg4 hbq.size, lowCall hb3 hbq⟩, by simp [intOf]; omega⟩ | (refine ⟨?_, by simp [intOf]; omega⟩; (repeat apply Exists.intro); exact ⟨⟨j + 1, by omega, by go_num, by rw [← E.out]; exact RowK.below HR3.out hbq, Nat.lt_of_lt_of_le hg4 hbq.size, lowCall hb3 hbq⟩, rfl⟩)
    · obtain rfl : j = l.length := by omega
      have e : mixB n l l.length = l.map (bh n) := by simp [mixB]
      rw [e] at hr
      go_wp2
      go_ret
      exact ⟨_, rfl, hr, hb⟩
end Go.Proofs.Ytckenfomnenknaa
