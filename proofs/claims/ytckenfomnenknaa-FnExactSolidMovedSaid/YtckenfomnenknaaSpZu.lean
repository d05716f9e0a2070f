import Derived.Test.YtckenfomnenknaaDelu
section
namespace Go.Proofs.Ytckenfomnenknaa
open Go.ChangeShapes Go.WideShapes Go.ChangeAt Go.RowKit
set_option linter.unusedSimpArgs false
set_option linter.unusedVariables false
set_option maxHeartbeats 4000000

attribute [local go_sem] VGo_value VGo_skip VGo_enter
attribute [-go_sem] loadVar storeVar
attribute [local go_sem] lvA svA
attribute [local go_sem high] ptLoadNew ptStoreNew ptZeroV
/- a row whose tail is cleared and cut off -/
theorem flat_take {K : Nat} : ∀ (L : List (List Value)) (i : Nat), (∀ y ∈ L, y.length = K) → (L.take i).flatten = L.flatten.take (i * K)
  | [], i, _ => by simp
  | y :: r, 0, _ => by simp
  | y :: r, i + 1, h => by
    have hy := h y (by simp)
    rw [List.take_succ_cons, List.flatten_cons, List.flatten_cons, flat_take r i (fun z hz => h z (by simp [hz])), List.take_append, hy, Nat.succ_mul, Nat.add_sub_cancel, List.take_of_length_le (l := y) (by omega)]
theorem setL_take : ∀ (vs : List Value) (cs : Array Value) (o m : Nat), m ≤ o → (setL cs o vs).toList.take m = cs.toList.take m
  | [], _, _, _, _ => rfl
  | v :: r, cs, o, m, h => by
    rw [setL, setL_take r _ (o + 1) m (by omega), Array.toList_setIfInBounds, List.take_set_of_le h]
theorem RowK.cleared {w : World} {B K g n cap i : Nat} {T : TypeId} {L : List (List Value)} (h : RowK w B T K (.slice (some ⟨g, 0, none⟩) n cap) L) (hn : n = L.length) (hi : i ≤ n) (zs : List Value) :
    RowK (w.setCells g (i * K) zs) B T K (.slice (some ⟨g, 0, none⟩) i cap) (L.take i) := by
  subst hn
  rcases h.own.2 with ⟨h', _⟩ | ⟨g', cap', cur, hv, hB, hg, hnc, hcm, hcs, htk⟩
  · cases h'
  · injection hv with h1 h2 h3
    injection h1 with h1
    injection h1 with h1
    subst h1 h3
    have hlen : (L.take i).length = i := by simp; omega
    have hff := flat_take L i h.each
    have hsz : L.flatten.length = L.length * K := h.own.1
    have hle : i * K ≤ L.length * K := Nat.mul_le_mul_right _ hi
    refine ⟨⟨?_, .inr ⟨g, cap, setL cur (i * K) zs, by rw [hlen], hB, Has.setCells zs _ _ _ hg, by omega, hcm, by rw [setL_size]; exact hcs, ?_⟩⟩, fun y hy => h.each y (List.mem_of_mem_take hy)⟩
    · rw [hff, hlen, List.length_take, hsz]; omega
    · rw [hlen, setL_take _ _ _ _ (Nat.le_refl _), hff, ← htk, List.take_take, Nat.min_eq_left hle]
theorem zsLen (n : Nat) : (Builtin.zeroCells Pt.zero.val.cells n).toList.length = n * 27 := by
  simp [Builtin.zeroCells, Pt.arr, Value.cells, Pt.cells]
theorem ptClear {w : World} {B g n cap i : Nat} {l : List Pt} (h : PRow w B (.slice (some ⟨g, 0, none⟩) n cap) l) (hn : n = l.length) (hi : i < n) :
    ∃ zs, ∀ (c : Nat) (ty : TypeId), (Builtin.clear_ #[70] ty #[.slice (some ⟨g, i * 27, none⟩) (n - i) c]).run Try.prog w = .ok (.tuple #[]) (w.setCells g (i * 27) zs) := by
  refine ⟨(Builtin.zeroCells Pt.zero.val.cells (n - i)).toList, fun c ty => ?_⟩
  have hst := run_storeCells_cells (P := Try.prog) g (i * 27) (Builtin.zeroCells Pt.zero.val.cells (n - i)).toList 0 w (fun j hj => by
    rw [zsLen] at hj
    have := RowK.cell h (by simpa using hn) (i + j / 27) (j % 27) (by simp; omega) (by omega)
    rw [show i * 27 + 0 + j = (i + j / 27) * 27 + j % 27 by omega, this]
    simp only [List.getElem_map]
    rw [List.getElem?_eq_getElem (by show _ < 27; omega)]; rfl) (fun j hj => RowK.frozen h (by simpa using hn) _) (fun v hv => by
      simp only [Builtin.zeroCells, Array.toList_map, List.mem_map] at hv
      obtain ⟨x, hx, rfl⟩ := hv
      have hs : Pt.zero.val.cells.size = 27 := rfl
      rw [hs]
      have hlt : x % 27 < Pt.zero.val.cells.size := by rw [hs]; omega
      rw [show (Pt.zero.val.cells[x % 27]!) = Pt.zero.val.cells[x % 27]'hlt from getElem!_pos Pt.zero.val.cells _ hlt]
      exact Pt.one Pt.zero _ (by have := Array.getElem_mem hlt; first | exact this | (simp [Pt.arr, Value.cells] at this ⊢; done) | simp [Pt.arr, Value.cells]))
  simp only [Nat.add_zero] at hst
  obtain ⟨m, hm⟩ : ∃ m, n - i = m + 1 := ⟨n - i - 1, by omega⟩
  rw [hm] at hst ⊢
  simp [Builtin.clear_, run_underlying Try.underlying70, ptZeroV]
  show ((storeCells ⟨g, i * 27, none⟩ (Builtin.zeroCells Pt.zero.val.cells (m + 1)).toList).run Try.prog w).andThen _ = _
  rw [hst]
  rfl
theorem grownOf {w w' : World} {row : Option Nat} (hb : Below w.heap.size w w') : w.grownBy w' row := ⟨hb.os, hb.tape, hb.output, hb.size, fun k hk _ => hb.block k hk⟩
theorem take_set1 (R : List Pt) (a : Nat) (p : Pt) (h : a < R.length) : (R.set a p).take (a + 1) = R.take a ++ [p] := by
  rw [List.take_succ_eq_append_getElem (by simpa using h), List.take_set_of_le (Nat.le_refl _), List.getElem_set_self]
def nm (p : Pt) : Bool := !mdB p
theorem nm_yes {l : List Pt} {j : Nat} (hj : j < l.length) (h : mdB l[j] = false) : (l.take (j + 1)).filter nm = (l.take j).filter nm ++ [l[j]] := by
  rw [List.take_succ_eq_append_getElem hj, List.filter_append]
  simp [nm, h]
theorem nm_no {l : List Pt} {j : Nat} (hj : j < l.length) (h : mdB l[j] = true) : (l.take (j + 1)).filter nm = (l.take j).filter nm := by
  rw [List.take_succ_eq_append_getElem hj, List.filter_append]
  simp [nm, h]
theorem nm_all {l : List Pt} (h : ∀ p ∈ l, mdB p = false) : l.filter nm = l := List.filter_eq_self.2 fun p hp => by simp [nm, h p hp]
set_option maxRecDepth 100000 in
theorem delFunc_any (l : List Pt) (B g cap : Nat) (w : World) (h : PRow w B (.slice (some ⟨g, 0, none⟩) l.length cap) l) (hn : l.length ≤ 1048576) :
    Calls Try.prog 83 #[.slice (some ⟨g, 0, none⟩) l.length cap, .func (.func 84) #[] #[]] w fun e w' => ∃ v', e = .returned v' ∧ PRow w' B v' (l.filter nm) ∧ w.grownBy w' (some g) := by
  have hcap : l.length ≤ cap := by
    rcases h.own.2 with ⟨h', _⟩ | ⟨g', cap', cur, hv, hB, hg, hnc, hcm, hcs, htk⟩
    · cases h'
    · injection hv with h1 h2 h3; rw [List.length_map] at hnc; omega
  have hcapm : cap ≤ maxLen := by
    rcases h.own.2 with ⟨h', _⟩ | ⟨g', cap', cur, hv, hB, hg, hnc, hcm, hcs, htk⟩
    · cases h'
    · injection hv with h1 h2 h3; omega
  have H := Lib.hid h
  have hgl : g < w.heap.size := (h.own.lt g rfl).2
  clear h
  go_enter Try.func83, Try.ntmps83
  go_upto_region 2 with (go_at_call 127; (with_reducible refine (indexFunc_any l _ _ (PRow.seen H.out) hn).mono ?_); rintro e w2 ⟨k, rfl, hk, hbq⟩)
  have hr2 := RowK.below H.out hbq
  have hg2 : w.grownBy w2 (some g) := grownOf hbq
  have hgl2 : g < w2.heap.size := Nat.lt_of_lt_of_le hgl hbq.size
  clear hbq
  rcases hk with ⟨rfl, hall⟩ | ⟨a0, ha0, rfl, hm0, hall⟩
  · have e := nm_all hall
    clear hall
    go_wp2
    go_ret
    exact ⟨_, rfl, by rw [e]; exact hr2, hg2⟩
  · have hst0 : l.take a0 = (l.take (a0 + 1)).filter nm := by rw [nm_no ha0 hm0, nm_all hall]
    have HST0 := Lib.hid hst0
    clear hst0 hall hm0
    go_wp2
    go_loopw [5, 6] (fun iv jv wr => ∃ (a j : Nat) (R : List Pt), a < j ∧ j ≤ l.length ∧ iv = .int .i64 a ∧ jv = .int .i64 j ∧ R.length = l.length ∧ R.take a = (l.take j).filter nm ∧ R.drop j = l.drop j ∧ PRow wr B (.slice (some ⟨g, 0, none⟩) l.length cap) R ∧ g < wr.heap.size ∧ w.grownBy wr (some g)) (fun _ jv _ => l.length - (intOf jv).toNat)
    case atStart => exact ⟨a0, a0 + 1, l, by omega, by omega, rfl, by go_num, rfl, HST0.out, rfl, hr2, hgl2, hg2⟩
    case round =>
      clear hr2 hg2 hgl2
      obtain ⟨a, j, R, haj, hj, rfl, rfl, hRl, hRt, hRd, hr, hgl2, hg⟩ := hrel
      have HRT := Lib.hid hRt
      have HRD := Lib.hid hRd
      clear hRt hRd
      by_cases hc : j < l.length
      · have hjR : j < R.length := by omega
        have hRj : R[j] = l[j] := by
          have := congrArg (fun x => x[0]?) HRD.out
          simpa [List.getElem?_drop, List.getElem?_eq_getElem hjR, List.getElem?_eq_getElem hc] using this
        have LD := PRow.load hr hRl.symm j hjR
        rw [hRj] at LD
        have HY := Lib.hid (nm_yes hc)
        have HN := Lib.hid (nm_no hc)
        have hd2 : R.drop (j + 1) = l.drop (j + 1) := by
          have := congrArg (fun x => x.drop 1) HRD.out
          simpa [List.drop_drop] using this
        have HD2 := Lib.hid hd2
        clear hd2 hRj
        generalize l[j] = p at LD HY HN
        have hr2 := RowK.alloc hr (.cells p.arr 106)
        have hg2 : w.grownBy (wr.alloc (.cells p.arr 106)) (some g) := by_trans hg (grownOf (lowAlloc (lowRefl wr) _))
        have hgl3 : g < (wr.alloc (.cells p.arr 106)).heap.size := by simp; omega
        have HG2 := Lib.hid hg2
        have HGL := Lib.hid hgl3
        have HR2 := Lib.hid hr2
        clear hr2 hg2 hgl3 hr hg
        by_cases hm : mdB p = true
        · have HC : Hid (∀ w, Calls Try.prog 84 #[p.val] w fun e w' => e = .returned (.bool true) ∧ Below w.heap.size w w') := Lib.hid fun w => by have := isMade_any p w; rwa [hm] at this
          go_wp2_with ((go_at_call 84; ((with_reducible refine (HC.out _).mono ?_); rintro e w2 ⟨rfl, hbq⟩)))
          refine ⟨?_, ?measure⟩
          (repeat apply Exists.intro)
          refine ⟨?rel, rfl⟩
          case rel => exact ⟨a, j + 1, R, by omega, by omega, rfl, by go_num, hRl, by rw [HN.out hm]; exact HRT.out, HD2.out, RowK.below HR2.out hbq, Nat.lt_of_lt_of_le HGL.out hbq.size, by_trans HG2.out (grownOf hbq)⟩
          case measure => simp [intOf]; omega
        · have hm := Bool.eq_false_iff.2 hm
          have HC : Hid (∀ w, Calls Try.prog 84 #[p.val] w fun e w' => e = .returned (.bool false) ∧ Below w.heap.size w w') := Lib.hid fun w => by have := isMade_any p w; rwa [hm] at this
          go_wp2_with ((go_at_call 84; ((with_reducible refine (HC.out _).mono ?_); rintro e w2 ⟨rfl, hbq⟩)); have PP := ptLoad p ((Has.new wr p.arr 106).below hbq); obtain ⟨S1, hr3, hg3⟩ := PRow.storeAt (RowK.below HR2.out hbq) hRl.symm a (by omega) p; have HR3 := Lib.hid hr3; have HG3 := Lib.hid hg3; clear hr3 hg3)
          refine ⟨?_, ?measure⟩
          (repeat apply Exists.intro)
          refine ⟨?rel, rfl⟩
          case rel => exact ⟨a + 1, j + 1, R.set a p, by omega, by omega, by go_num, by go_num, by simpa using hRl, by rw [HY.out hm, take_set1 R a p (by omega), HRT.out], by rw [List.drop_set_of_lt (by omega)]; exact HD2.out, HR3.out, by rw [sizeCells]; exact Nat.lt_of_lt_of_le HGL.out hbq.size, by_trans (by_trans HG2.out (grownOf hbq)) HG3.out⟩
          case measure => simp [intOf]; omega
      · obtain rfl : j = l.length := by omega
        obtain ⟨zs, hcl⟩ := ptClear hr hRl.symm (i := a) (by omega)
        have hcl2 := RowK.cleared hr (by simpa using hRl.symm) (i := a) (by omega) zs
        have e : (R.map Pt.cells).take a = (l.filter nm).map Pt.cells := by
          rw [← List.map_take, HRT.out, List.take_length]
        rw [e] at hcl2
        have HCL2 := Lib.hid hcl2
        have HG := Lib.hid (by_trans hg (grownCells wr g (a * 27) zs))
        clear hcl2 e hr hg
        go_wp2
        go_ret
        exact ⟨_, rfl, HCL2.out, HG.out⟩
end Go.Proofs.Ytckenfomnenknaa
end
section
namespace Go.Proofs.Ytckenfomnenknaa
open Go.ChangeShapes Go.WideShapes Go.ChangeAt Go.RowKit
set_option linter.unusedSimpArgs false
set_option linter.unusedVariables false
set_option maxHeartbeats 4000000

attribute [local go_sem] VGo_value VGo_skip VGo_enter
/- impl.SolidLeaves -/
theorem nilRow (w : World) (B : Nat) : PRow w B (.slice none 0 0) [] := ⟨⟨rfl, .inl ⟨rfl, rfl⟩⟩, by simp⟩
set_option maxRecDepth 100000 in
theorem delFunc_nil (w : World) : Calls Try.prog 83 #[.slice none 0 0, .func (.func 84) #[] #[]] w fun e w' => e = .returned (.slice none 0 0) ∧ Below w.heap.size w w' := by
  go_enter Try.func83, Try.ntmps83
  go_upto_region 2 with (go_at_call 127; (with_reducible refine (indexFunc_any [] _ _ (PRow.seen (nilRow _ 0)) (by simp)).mono ?_); rintro e w2 ⟨k, rfl, hk, hbq⟩)
  obtain rfl : k = -1 := by
    rcases hk with ⟨rfl, _⟩ | ⟨j, hj, _⟩
    · rfl
    · simp at hj
  go_wp2
  go_ret
  exact ⟨rfl, hbq⟩
theorem nm_lf {l : List Pt} (hF : Form l) : (lvs l).filter nm = lfs l := by
  apply List.filter_congr
  intro p hp
  obtain ⟨i, hi, rfl⟩ := List.mem_map.1 hp
  have hi : i < l.length := List.mem_range.1 hi
  have hP := (hF.2.1 i hi hi).1.1
  rw [← pa_get l i hi] at hP
  have hk : (lv l i).k = (pa l i).k := by
    unfold lv
    split
    · exact leafAt_k _ _
    · rfl
  unfold nm mdB isLf
  rw [hk]
  by_cases h : (pa l i).k ≤ 2
  · rw [decide_eq_true h, decide_eq_false (by omega)]; rfl
  · rw [decide_eq_false h, decide_eq_true (by omega)]; rfl
set_option maxRecDepth 100000 in
theorem iSolidLeaves_any (l : List Pt) (v : Value) (w : World) (hl : PIn w v l) (hn : l.length ≤ 1048576) : Calls Try.prog 37 #[v] w fun e w' => ∃ v', e = .returned v' ∧ PRow w' w.heap.size v' (if dec (SolidP l) then lfs l else []) ∧ Below w.heap.size w w' := by
  have HL := Lib.hid hl
  clear hl
  by_cases hS : SolidP l
  · rw [dec_yes hS]
    have HLEN := Lib.hid (show (lvs l).length = l.length by simp [lvs])
    have HNF := Lib.hid (nm_lf hS.1)
    have h1 : 1 ≤ l.length := hS.1.1.1
    go_enter Try.func37, Try.ntmps37
    go_upto_region 2 with (go_at_call 82; (with_reducible refine (standing_any l _ _ HL.out hn).mono ?_); rintro e w' ⟨(⟨-, vo, rfl, hro⟩ | ⟨hno, rfl⟩), hbq⟩; rotate_left; exact absurd hS hno)
    obtain ⟨A, c, rfl, hA, -⟩ := hro.shape
    rw [List.length_map] at hro hA ⊢
    obtain ⟨g, rfl, hg1, hg2⟩ := hA (by have := HLEN.out; omega)
    go_upto_region 3 with fail
    go_at_call 83; (with_reducible refine (delFunc_any (lvs l) w.heap.size g c _ hro (by have := HLEN.out; omega)).mono ?_); rintro e w3 ⟨v', rfl, hr3, hg3⟩
    go_wp2
    go_ret
    refine ⟨_, rfl, ?_, hbq.grown hg3 hbq.size (fun k hk => by injection hk with hk; omega)⟩
    rw [HNF.out] at hr3
    exact hr3
  · rw [dec_no hS]
    go_enter Try.func37, Try.ntmps37
    go_upto_region 2 with (go_at_call 82; (with_reducible refine (standing_any l _ _ HL.out hn).mono ?_); rintro e w' ⟨(⟨hno, vo, rfl, hro⟩ | ⟨-, rfl⟩), hbq⟩; exact absurd hno hS)
    go_wp2_with (go_at_call 83; (with_reducible refine (delFunc_nil _).mono ?_); rintro e w3 ⟨rfl, hbq2⟩)
    go_ret
    exact ⟨_, rfl, nilRow _ _, lowCall hbq hbq2⟩
end Go.Proofs.Ytckenfomnenknaa
end
section
namespace Go.Proofs.Ytckenfomnenknaa
open Go.ChangeShapes Go.WideShapes Go.ChangeAt Go.RowKit
set_option maxHeartbeats 4000000
set_option maxRecDepth 8000
set_option linter.unusedSimpArgs false
set_option linter.unusedVariables false

attribute [local go_sem] VGo_value VGo_skip VGo_enter
theorem lfs_len {l : List Pt} (h : l.length ≤ 1048576) : (if dec (SolidP l) then lfs l else []).length ≤ 1048576 := by
  split
  · exact Nat.le_trans (List.length_filter_le _ _) (by rw [lvs_len]; exact h)
  · simp
set_option maxRecDepth 100000 in
theorem wFnExactSolidLeaves (l : List Pt) (vl : Value) (w : World) (hl : PIn w vl l) (nl : l.length ≤ 9223372036854775807) :
    Calls Try.prog 7 #[vl] w fun e w' => e = .returned (.bool true) ∧ Below w.heap.size w w' := by
  obtain ⟨Al, cl, el, _⟩ := id hl
  subst el
  have H0l := Lib.hid hl
  by_cases sl : (1048576 : Int) - l.length < 0
  · go_enter Try.func7, Try.ntmps7
    go_wp2_with (first | (go_at_call 34; (with_reducible refine (szPartS_no Al l.length cl (1048576) _ (by omega) (by omega) nl).mono ?_); rintro e w' ⟨rfl, rfl⟩))
    go_ret; refine ⟨rfl, ?_⟩; (repeat' (first | with_reducible exact lowRefl _ | with_reducible apply lowSet | with_reducible apply lowDrew | with_reducible apply lowDrewN | with_reducible apply lowAlloc | (with_reducible refine lowCall ?_ (by assumption)) | (show (_ : Nat) ≤ _; first | (simp; done) | (simp; omega) | omega)))
  have ml : l.length ≤ 1048576 := by omega
  have mR : ((if dec (SolidP l) then lfs l else [])).length ≤ 1048576 := lfs_len ml
  generalize hR : (if dec (SolidP l) then lfs l else []) = R at *
  go_enter Try.func7, Try.ntmps7
  go_upto_region 5 with (first | (go_at_call 34; (with_reducible refine (szPartS_yes Al l.length cl (1048576) _ (by omega) (by omega)).mono ?_); rintro e w' ⟨rfl, rfl⟩))
  clear sl
  have H1l := Lib.hid hl
  clear hl
  go_upto_region 6 with (first | (go_at_call 36; (with_reducible refine (toPartS_any l _ _ (H1l.out) ml).mono ?_); rintro e w4 ⟨t1, rfl, r2, b3⟩) | (go_at_call 35; (with_reducible refine (sSolidLeaves_any l t1 _ (PRow.seen r2) ml).mono ?_); rintro e w5 ⟨v7, rfl, r8, b6⟩; rw [hR] at r8))
  have f9 := Lib.hid (H1l.out.below b3)
  clear H1l
  have L10 := b3
  have f11 := Lib.hid (f9.out.below b6)
  clear f9
  have L12 := lowCall L10 b6
  clear L10
  have lo_v0 : w.heap.size ≤ w.heap.size := Nat.le_refl _
  go_upto_region 7 with (go_at_call 36; (with_reducible refine (toPartS_any l _ _ (f11.out) ml).mono ?_); rintro e w16 ⟨t13, rfl, r14, b15⟩)
  obtain ⟨ap_v0_xl, ap_xl_v0⟩ := apartP r8.own r14.own
  have lo_xl := L12.size
  have f17 := Lib.hid (f11.out.below b15)
  clear f11
  have f18 := r8.below b15
  clear r8
  have L19 := lowCall L12 b15
  clear L12
  go_upto_region 8 with (first | (go_at_call 37; (with_reducible refine (iSolidLeaves_any l t13 _ (PRow.seen r14) ml).mono ?_); rintro e w20 ⟨v22, rfl, r23, b21⟩; rw [hR] at r23))
  obtain ⟨ap_v0_g0, ap_g0_v0⟩ := apartP f18.own r23.own
  obtain ⟨ap_xl_g0, ap_g0_xl⟩ := apartP r14.own r23.own
  have lo_g0 := L19.size
  have f24 := Lib.hid (f17.out.below b21)
  clear f17
  have f25 := f18.below b21
  clear f18
  have f26 := r14.below b21
  clear r14
  have L27 := lowCall L19 b21
  clear L19
  go_upto_region 10 with (go_at_call 38; (with_reducible refine (eqPartS_yes R v22 v7 _ (PRow.seen (r23)) (PRow.seen (f25)) (by omega)).mono ?_); rintro e w29 ⟨rfl, b28⟩)
  have f30 := Lib.hid (f24.out.below b28)
  clear f24
  have f31 := f25.below b28
  clear f25
  have f32 := f26.below b28
  clear f26
  have f33 := r23.below b28
  clear r23
  have L34 := lowCall L27 b28
  clear L27
  go_upto_region 12 with (first | (go_at_call 36; (with_reducible refine (toPartS_any l _ _ (f30.out) ml).mono ?_); rintro e w38 ⟨t35, rfl, r36, b37⟩) | (go_at_call 38; (with_reducible refine (eqPartS_yes l t13 t35 _ (PRow.seen (RowK.below f32 b37)) (PRow.seen (r36)) (by omega)).mono ?_); rintro e w40 ⟨rfl, b39⟩))
  have f41 := Lib.hid (f30.out.below b37)
  clear f30
  have f42 := f31.below b37
  clear f31
  have f43 := f32.below b37
  clear f32
  have f44 := f33.below b37
  clear f33
  have L45 := lowCall L34 b37
  clear L34
  have f46 := Lib.hid (f41.out.below b39)
  clear f41
  have f47 := f42.below b39
  clear f42
  have f48 := f43.below b39
  clear f43
  have f49 := f44.below b39
  clear f44
  have L50 := lowCall L45 b39
  clear L45
  go_upto_region 14 with (go_at_call 39; (with_reducible refine (markPartS_any l t13 _ (1) _ (by omega) (by omega) f48).mono ?_); rintro e w53 ⟨rfl, r52, g51⟩)
  have L54 := L50.grown g51 L50.size (fun g hg => Nat.le_trans lo_xl (f48.own.lt g hg).1)
  have f55 := Lib.hid (H0l.out.grownLow L50 g51 lo_xl f48.own)
  clear f46
  have f56 := f47.kept g51 ap_v0_xl
  clear f47
  have f57 := f49.kept g51 ap_g0_xl
  clear f49
  clear f48 L50 g51
  go_upto_region 16 with (go_at_call 38; (with_reducible refine (eqPartS_yes R v22 v7 _ (PRow.seen (f57)) (PRow.seen (f56)) (by omega)).mono ?_); rintro e w59 ⟨rfl, b58⟩)
  have f60 := Lib.hid (f55.out.below b58)
  clear f55
  have f61 := f56.below b58
  clear f56
  have f62 := r52.below b58
  clear r52
  have f63 := f57.below b58
  clear f57
  have L64 := lowCall L54 b58
  clear L54
  go_upto_region 18 with (go_at_call 39; (with_reducible refine (markPartS_any R v22 _ (1) _ (by omega) (by omega) f63).mono ?_); rintro e w67 ⟨rfl, r66, g65⟩)
  have L68 := L64.grown g65 L64.size (fun g hg => Nat.le_trans lo_g0 (f63.own.lt g hg).1)
  have f69 := Lib.hid (H0l.out.grownLow L64 g65 lo_g0 f63.own)
  clear f60
  have f70 := f61.kept g65 ap_v0_g0
  clear f61
  have f71 := f62.kept g65 ap_xl_g0
  clear f62
  clear f63 L64 g65
  go_upto_region 20 with (go_at_call 40; (with_reducible refine (heldPartS_any R.length v22 1 _ (by omega) (by omega) (PRow.seen r66)).mono ?_); rintro e w' ⟨rfl, rfl⟩)
  go_upto_region 24 with fail
  go_upto_region 25 with (first | (go_at_call 36; (with_reducible refine (toPartS_any l _ _ (f69.out) ml).mono ?_); rintro e w75 ⟨t72, rfl, r73, b74⟩) | (go_at_call 37; (with_reducible refine (iSolidLeaves_any l t72 _ (PRow.seen r73) ml).mono ?_); rintro e w76 ⟨v78, rfl, r79, b77⟩; rw [hR] at r79))
  have f80 := Lib.hid (f69.out.below b74)
  clear f69
  have f81 := f70.below b74
  clear f70
  have f82 := f71.below b74
  clear f71
  have f83 := r66.below b74
  clear r66
  have L84 := lowCall L68 b74
  clear L68
  have f85 := Lib.hid (f80.out.below b77)
  clear f80
  have f86 := f81.below b77
  clear f81
  have f87 := f82.below b77
  clear f82
  have f88 := f83.below b77
  clear f83
  have L89 := lowCall L84 b77
  clear L84
  go_upto_region 27 with (go_at_call 38; (with_reducible refine (eqPartS_yes R v78 v7 _ (PRow.seen (r79)) (PRow.seen (f86)) (by omega)).mono ?_); rintro e w91 ⟨rfl, b90⟩)
  have f92 := Lib.hid (f85.out.below b90)
  clear f85
  have f93 := f86.below b90
  clear f86
  have f94 := f87.below b90
  clear f87
  have f95 := f88.below b90
  clear f88
  have L96 := lowCall L89 b90
  clear L89
  go_wp2_with (go_at_call 40; (with_reducible refine (heldPartS_any R.length v22 1 _ (by omega) (by omega) (PRow.seen f95)).mono ?_); rintro e w' ⟨rfl, rfl⟩)
  go_ret
  exact ⟨rfl, L96⟩
end Go.Proofs.Ytckenfomnenknaa
end
