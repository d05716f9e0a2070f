import Derived.Deep.Cut
import Derived.Test.YtegibpepdndocabGreatHeldNb
import Derived.Test.YtegibpepdndocabGreatMotLb
import Derived.Test.YtegibpepdndocabGreatSpLb
import Derived.Test.YtegibpepdndocabGreatSpTb
section
namespace Go.Proofs.YtegibpepdndocabGreat
open Has renaming new → J0, new1 → J1, new2 → J2, new3 → J3, new4 → J4, drew → J5, drewN → J6, alloc → J7, same → J8, other → J9, cell → Jc, frozen → Jf, below → Jb
open Go.ChangeShapes Go.WideShapes Go.ChangeAt Go.RowKit
set_option linter.unusedSimpArgs false
set_option linter.unusedVariables false
set_option maxHeartbeats 4000000

attribute [local go_sem] VGo_value VGo_skip VGo_enter
attribute [-go_sem] callMethod
attribute [local go_sem] cmHas cmCut cmBox
attribute [local go_sem] Pt.arr0 Pt.arr1 Pt.arr2 Pt.arr3 Pt.arr4 Pt.arr5 Pt.arr6 Pt.arr7 Pt.arr8 Pt.arr9 Pt.arr10 Pt.arr11 Pt.arr12 Pt.arr13 Pt.arr14 Pt.arr15 Pt.arr16 Pt.arr17 Pt.arr18 Pt.arr19 Pt.arr20 Pt.arr21 Pt.arr22 Pt.arr23 Pt.arr24 Pt.arr25 Pt.arr26
attribute [-go_sem] loadVar storeVar
attribute [local go_sem] lvA svA lvVec lvHalf lvBall lvBox lvMot
attribute [local go_sem high] ptLoadNew ptStoreNew
theorem bEither (a b : Sh) (w : World) : (Instr.build 252 #[(0, a.val), (1, b.val)]).run Tryz.prog w = .ok (.agg #[a.val, b.val]) w := by cases a <;> cases b <;> exact run_build w _ _ _ (by kernel_rfl)
theorem bBoth (a b : Sh) (w : World) : (Instr.build 253 #[(0, a.val), (1, b.val)]).run Tryz.prog w = .ok (.agg #[a.val, b.val]) w := by cases a <;> cases b <;> exact run_build w _ _ _ (by kernel_rfl)
theorem bLess (a b : Sh) (w : World) : (Instr.build 254 #[(0, a.val), (1, b.val)]).run Tryz.prog w = .ok (.agg #[a.val, b.val]) w := by cases a <;> cases b <;> exact run_build w _ _ _ (by kernel_rfl)
theorem bHs (q : Qd) (n : Int) (w : World) : (Instr.build 246 #[(0, q.val), (1, .int .i64 n)]).run Tryz.prog w = .ok (Sh.rcv (.half q n)) w := run_build w _ _ _ (by kernel_rfl)
theorem bBs (q : Qd) (n : Int) (w : World) : (Instr.build 248 #[(0, q.val), (1, .int .i64 n)]).run Tryz.prog w = .ok (Sh.rcv (.ball q n)) w := run_build w _ _ _ (by kernel_rfl)
theorem bXs (q : Sx) (n : Int) (w : World) : (Instr.build 250 #[(0, q.val), (1, .int .i64 n)]).run Tryz.prog w = .ok (Sh.rcv (.box q n)) w := run_build w _ _ _ (by kernel_rfl)
attribute [-go_sem] Instr.build
attribute [local go_sem] bEither bBoth bLess bHs bBs bXs
/- the row of shapes that impl.lastShape fills -/
def cellsH (L : List Sh) : Array Value := (L.map Sh.val ++ List.replicate (24 - L.length) Value.nilIface).toArray
theorem cellsH_get (L : List Sh) (i : Nat) (h : i < L.length) : (cellsH L)[i]? = some (L.getD i Sh.none).val := by
  simp [cellsH, List.getElem?_append, h]
theorem cellsH_set (L : List Sh) (s : Sh) (h : L.length < 24) : (cellsH L).setIfInBounds L.length s.val = cellsH (L ++ [s]) := by
  apply Array.ext'
  simp only [cellsH, List.setIfInBounds_toArray, List.length_append, List.length_singleton, List.map_append, List.map_cons, List.map_nil]
  rw [List.set_append_right _ _ (by simp)]
  obtain ⟨m, hm⟩ : ∃ m, 24 - L.length = m + 1 := ⟨24 - L.length - 1, by omega⟩
  rw [hm, show 24 - (L.length + 1) = m by omega]
  simp [List.replicate_succ]
theorem cellsH_size (L : List Sh) (h : L.length ≤ 24) : (cellsH L).size = 24 := by simp [cellsH]; omega
theorem cellsH_nil : cellsH [] = #[.nilIface, .nilIface, .nilIface, .nilIface, .nilIface, .nilIface, .nilIface, .nilIface, .nilIface, .nilIface, .nilIface, .nilIface, .nilIface, .nilIface, .nilIface, .nilIface, .nilIface, .nilIface, .nilIface, .nilIface, .nilIface, .nilIface, .nilIface, .nilIface] := by kernel_rfl
theorem partShape_leaf (p : Pt) (n : Int) (v : Value) (L : List Sh) (w : World) (hk : 0 ≤ p.k ∧ p.k ≤ 2) : Calls Tryz.prog 213 #[p.val, .int .i64 n, v] w fun e w' => e = .returned ((mkSh p n L).val) ∧ Below w.heap.size w w' := by
  obtain h0 | h0 | h0 : p.k = 0 ∨ p.k = 1 ∨ p.k = 2 := by omega
  · have e : mkSh p n L = .half p.h n := by unfold mkSh; rw [if_pos h0]
    rw [e]
    go_enter Tryz.func213, Tryz.ntmps213
    go_wp2
    go_ret; refine ⟨rfl, ?_⟩; (repeat' (first|with_reducible (first|exact lowRefl _|apply lowSet|apply lowDrew|apply lowDrewN|apply lowAlloc)|(with_reducible refine lowCall ?_ (by assumption))|(show (_ : Nat) ≤ _;first|(simp;done)|(simp;omega)|omega)))
  · have e : mkSh p n L = .ball p.b n := by unfold mkSh; rw [if_neg (by omega), if_pos h0]
    rw [e]
    go_enter Tryz.func213, Tryz.ntmps213
    go_wp2
    go_ret; refine ⟨rfl, ?_⟩; (repeat' (first|with_reducible (first|exact lowRefl _|apply lowSet|apply lowDrew|apply lowDrewN|apply lowAlloc)|(with_reducible refine lowCall ?_ (by assumption))|(show (_ : Nat) ≤ _;first|(simp;done)|(simp;omega)|omega)))
  · have e : mkSh p n L = .box p.x n := by unfold mkSh; rw [if_neg (by omega), if_neg (by omega), if_pos h0]
    rw [e]
    go_enter Tryz.func213, Tryz.ntmps213
    go_wp2
    go_ret; refine ⟨rfl, ?_⟩; (repeat' (first|with_reducible (first|exact lowRefl _|apply lowSet|apply lowDrew|apply lowDrewN|apply lowAlloc)|(with_reducible refine lowCall ?_ (by assumption))|(show (_ : Nat) ≤ _;first|(simp;done)|(simp;omega)|omega)))
theorem partShape_3 (p : Pt) (n : Int) (L : List Sh) (g c : Nat) (T : TypeId) (w : World) (hk : p.k = 3) (hL : L.length ≤ 24) (hB : Has w g (cellsH L) T) (a b : Nat) (ha : p.A = a) (hb : p.B = b) (hal : a < L.length) (hbl : b < L.length) :
    Calls Tryz.prog 213 #[p.val, .int .i64 n, .slice (some ⟨g, 0, none⟩) L.length c] w fun e w' => e = .returned ((mkSh p n L).val) ∧ Below w.heap.size w w' := by
  have e : mkSh p n L = .either (L.getD a Sh.none) (L.getD b Sh.none) := by unfold mkSh; rw [if_neg (by omega), if_neg (by omega), if_neg (by omega), if_pos hk, ha, hb]; rfl
  rw [e]
  have qa := cellsH_get L a hal
  have qb := cellsH_get L b hbl
  have hg := hB.lt
  generalize (L.getD a Sh.none) = sa at *
  generalize (L.getD b Sh.none) = sb at *
  have HB := Lib.hid (hB.below (lowAlloc (lowRefl w) (.cells p.arr 49)))
  clear hB
  go_enter Tryz.func213, Tryz.ntmps213
  go_upto_region 9 with fail
  have B0 : Has (w.alloc (.cells p.arr 49)) w.heap.size p.arr 49 := Has.new _ _ _
  have hL0 := lowAlloc (lowRefl w) (.cells p.arr 49)
  generalize w.alloc (.cells p.arr 49) = w1 at *
  (refine wp_region_held0 (by kernel_rfl) (by kernel_rfl) (fun _ _ _ d _ h => by cases d <;> exact h) ?_; intro Fq hFq)
  repeat (first | (refine wpHeld_skip (by rfl) ?_; ((try simp only [Act.put, List.setIfInBounds_toArray, List.set_cons_zero, List.set_cons_succ]))) | (refine wpHeld_run ?_ rfl ?_ ?_; rotate_left; (focus (intro w' hbq Kq hKq; go_simp; (try (rw [IntWalk.i64_in]; rotate_left; focus (constructor <;> omega))); first | exact hKq _ (Below.refl _ _) | (have C0 := Jc (B0.below (undrew hbq)); have CG := Jc (HB.out.below (undrew hbq)); go_simp; exact hKq _ (Below.refl _ _)))); ((try simp only [Act.put, List.setIfInBounds_toArray, List.set_cons_zero, List.set_cons_succ]))))
  (refine wpHeld_nil (hFq _ ?_); clear hFq; intro w' hbq; ((try (have B0 := Jb (b := w.heap.size) (by repeat' (first|with_reducible (first|assumption|apply J0|apply J1|apply J2|apply J3|apply J4|apply J5|apply J6|apply J7|apply J8|apply J9)|(with_reducible show _ ≠ _;first|omega|(simp;done)))) hbq; have C0 := Jc B0; have F0 := Jf B0)); (try (have B1 := Jb (b := w.heap.size + 1) (by repeat' (first|with_reducible (first|assumption|apply J0|apply J1|apply J2|apply J3|apply J4|apply J5|apply J6|apply J7|apply J8|apply J9)|(with_reducible show _ ≠ _;first|omega|(simp;done)))) hbq; have C1 := Jc B1; have F1 := Jf B1))))
  go_wp2
  go_ret; refine ⟨rfl, ?_⟩; (repeat' (first|with_reducible (first|exact lowRefl _|apply lowSet|apply lowDrew|apply lowDrewN|apply lowAlloc)|(with_reducible refine lowCall ?_ (by assumption))|(show (_ : Nat) ≤ _;first|(simp;done)|(simp;omega)|omega)))
theorem partShape_4 (p : Pt) (n : Int) (L : List Sh) (g c : Nat) (T : TypeId) (w : World) (hk : p.k = 4) (hL : L.length ≤ 24) (hB : Has w g (cellsH L) T) (a b : Nat) (ha : p.A = a) (hb : p.B = b) (hal : a < L.length) (hbl : b < L.length) :
    Calls Tryz.prog 213 #[p.val, .int .i64 n, .slice (some ⟨g, 0, none⟩) L.length c] w fun e w' => e = .returned ((mkSh p n L).val) ∧ Below w.heap.size w w' := by
  have e : mkSh p n L = .both (L.getD a Sh.none) (L.getD b Sh.none) := by unfold mkSh; rw [if_neg (by omega), if_neg (by omega), if_neg (by omega), if_neg (by omega), if_pos hk, ha, hb]; rfl
  rw [e]
  have qa := cellsH_get L a hal
  have qb := cellsH_get L b hbl
  have hg := hB.lt
  generalize (L.getD a Sh.none) = sa at *
  generalize (L.getD b Sh.none) = sb at *
  have HB := Lib.hid (hB.below (lowAlloc (lowRefl w) (.cells p.arr 49)))
  clear hB
  go_enter Tryz.func213, Tryz.ntmps213
  go_upto_region 11 with fail
  have B0 : Has (w.alloc (.cells p.arr 49)) w.heap.size p.arr 49 := Has.new _ _ _
  have hL0 := lowAlloc (lowRefl w) (.cells p.arr 49)
  generalize w.alloc (.cells p.arr 49) = w1 at *
  (refine wp_region_held0 (by kernel_rfl) (by kernel_rfl) (fun _ _ _ d _ h => by cases d <;> exact h) ?_; intro Fq hFq)
  repeat (first | (refine wpHeld_skip (by rfl) ?_; ((try simp only [Act.put, List.setIfInBounds_toArray, List.set_cons_zero, List.set_cons_succ]))) | (refine wpHeld_run ?_ rfl ?_ ?_; rotate_left; (focus (intro w' hbq Kq hKq; go_simp; (try (rw [IntWalk.i64_in]; rotate_left; focus (constructor <;> omega))); first | exact hKq _ (Below.refl _ _) | (have C0 := Jc (B0.below (undrew hbq)); have CG := Jc (HB.out.below (undrew hbq)); go_simp; exact hKq _ (Below.refl _ _)))); ((try simp only [Act.put, List.setIfInBounds_toArray, List.set_cons_zero, List.set_cons_succ]))))
  (refine wpHeld_nil (hFq _ ?_); clear hFq; intro w' hbq; ((try (have B0 := Jb (b := w.heap.size) (by repeat' (first|with_reducible (first|assumption|apply J0|apply J1|apply J2|apply J3|apply J4|apply J5|apply J6|apply J7|apply J8|apply J9)|(with_reducible show _ ≠ _;first|omega|(simp;done)))) hbq; have C0 := Jc B0; have F0 := Jf B0)); (try (have B1 := Jb (b := w.heap.size + 1) (by repeat' (first|with_reducible (first|assumption|apply J0|apply J1|apply J2|apply J3|apply J4|apply J5|apply J6|apply J7|apply J8|apply J9)|(with_reducible show _ ≠ _;first|omega|(simp;done)))) hbq; have C1 := Jc B1; have F1 := Jf B1))))
  go_wp2
  go_ret; refine ⟨rfl, ?_⟩; (repeat' (first|with_reducible (first|exact lowRefl _|apply lowSet|apply lowDrew|apply lowDrewN|apply lowAlloc)|(with_reducible refine lowCall ?_ (by assumption))|(show (_ : Nat) ≤ _;first|(simp;done)|(simp;omega)|omega)))
theorem partShape_5 (p : Pt) (n : Int) (L : List Sh) (g c : Nat) (T : TypeId) (w : World) (hk : p.k = 5) (hL : L.length ≤ 24) (hB : Has w g (cellsH L) T) (a b : Nat) (ha : p.A = a) (hb : p.B = b) (hal : a < L.length) (hbl : b < L.length) :
    Calls Tryz.prog 213 #[p.val, .int .i64 n, .slice (some ⟨g, 0, none⟩) L.length c] w fun e w' => e = .returned ((mkSh p n L).val) ∧ Below w.heap.size w w' := by
  have e : mkSh p n L = .less (L.getD a Sh.none) (L.getD b Sh.none) := by unfold mkSh; rw [if_neg (by omega), if_neg (by omega), if_neg (by omega), if_neg (by omega), if_neg (by omega), if_pos hk, ha, hb]; rfl
  rw [e]
  have qa := cellsH_get L a hal
  have qb := cellsH_get L b hbl
  have hg := hB.lt
  generalize (L.getD a Sh.none) = sa at *
  generalize (L.getD b Sh.none) = sb at *
  have HB := Lib.hid (hB.below (lowAlloc (lowRefl w) (.cells p.arr 49)))
  clear hB
  go_enter Tryz.func213, Tryz.ntmps213
  go_upto_region 13 with fail
  have B0 : Has (w.alloc (.cells p.arr 49)) w.heap.size p.arr 49 := Has.new _ _ _
  have hL0 := lowAlloc (lowRefl w) (.cells p.arr 49)
  generalize w.alloc (.cells p.arr 49) = w1 at *
  (refine wp_region_held0 (by kernel_rfl) (by kernel_rfl) (fun _ _ _ d _ h => by cases d <;> exact h) ?_; intro Fq hFq)
  repeat (first | (refine wpHeld_skip (by rfl) ?_; ((try simp only [Act.put, List.setIfInBounds_toArray, List.set_cons_zero, List.set_cons_succ]))) | (refine wpHeld_run ?_ rfl ?_ ?_; rotate_left; (focus (intro w' hbq Kq hKq; go_simp; (try (rw [IntWalk.i64_in]; rotate_left; focus (constructor <;> omega))); first | exact hKq _ (Below.refl _ _) | (have C0 := Jc (B0.below (undrew hbq)); have CG := Jc (HB.out.below (undrew hbq)); go_simp; exact hKq _ (Below.refl _ _)))); ((try simp only [Act.put, List.setIfInBounds_toArray, List.set_cons_zero, List.set_cons_succ]))))
  (refine wpHeld_nil (hFq _ ?_); clear hFq; intro w' hbq; ((try (have B0 := Jb (b := w.heap.size) (by repeat' (first|with_reducible (first|assumption|apply J0|apply J1|apply J2|apply J3|apply J4|apply J5|apply J6|apply J7|apply J8|apply J9)|(with_reducible show _ ≠ _;first|omega|(simp;done)))) hbq; have C0 := Jc B0; have F0 := Jf B0)); (try (have B1 := Jb (b := w.heap.size + 1) (by repeat' (first|with_reducible (first|assumption|apply J0|apply J1|apply J2|apply J3|apply J4|apply J5|apply J6|apply J7|apply J8|apply J9)|(with_reducible show _ ≠ _;first|omega|(simp;done)))) hbq; have C1 := Jc B1; have F1 := Jf B1))))
  go_wp2
  go_ret; refine ⟨rfl, ?_⟩; (repeat' (first|with_reducible (first|exact lowRefl _|apply lowSet|apply lowDrew|apply lowDrewN|apply lowAlloc)|(with_reducible refine lowCall ?_ (by assumption))|(show (_ : Nat) ≤ _;first|(simp;done)|(simp;omega)|omega)))
theorem partShape_6 (p : Pt) (n : Int) (L : List Sh) (g c : Nat) (T : TypeId) (w : World) (hk : p.k = 6) (hL : L.length ≤ 24) (hB : Has w g (cellsH L) T) (a : Nat) (ha : p.A = a) (hal : a < L.length) :
    Calls Tryz.prog 213 #[p.val, .int .i64 n, .slice (some ⟨g, 0, none⟩) L.length c] w fun e w' => e = .returned ((mkSh p n L).val) ∧ Below w.heap.size w w' := by
  have e : mkSh p n L = L.getD a Sh.none := by unfold mkSh; rw [if_neg (by omega), if_neg (by omega), if_neg (by omega), if_neg (by omega), if_neg (by omega), if_neg (by omega), ha]; rfl
  rw [e]
  have qa := cellsH_get L a hal
  generalize (L.getD a Sh.none) = sa at *
  have HB := Lib.hid (hB.below (lowAlloc (lowRefl w) (.cells p.arr 49)))
  clear hB
  go_enter Tryz.func213, Tryz.ntmps213
  go_upto_region 14 with fail
  have B0 : Has (w.alloc (.cells p.arr 49)) w.heap.size p.arr 49 := Has.new _ _ _
  have hL0 := lowAlloc (lowRefl w) (.cells p.arr 49)
  generalize w.alloc (.cells p.arr 49) = w1 at *
  have C0 := Jc B0
  have CG := Jc HB.out
  go_wp2
  go_ret; refine ⟨rfl, ?_⟩; (repeat' (first|with_reducible (first|exact lowRefl _|apply lowSet|apply lowDrew|apply lowDrewN|apply lowAlloc)|(with_reducible refine lowCall ?_ (by assumption))|(show (_ : Nat) ≤ _;first|(simp;done)|(simp;omega)|omega)))
theorem partShape_any (p : Pt) (n : Int) (L : List Sh) (g c : Nat) (T : TypeId) (w : World) (hk : 0 ≤ p.k ∧ p.k ≤ 6) (hL : L.length ≤ 24) (hB : Has w g (cellsH L) T) (ha : 3 ≤ p.k → 0 ≤ p.A ∧ p.A < L.length) (hb : 3 ≤ p.k → p.k ≤ 5 → 0 ≤ p.B ∧ p.B < L.length) :
    Calls Tryz.prog 213 #[p.val, .int .i64 n, .slice (some ⟨g, 0, none⟩) L.length c] w fun e w' => e = .returned ((mkSh p n L).val) ∧ Below w.heap.size w w' := by
  by_cases h2 : p.k ≤ 2
  · exact partShape_leaf p n _ L w ⟨hk.1, h2⟩
  · have h3 := ha (by omega)
    by_cases h5 : p.k ≤ 5
    · have h4 := hb (by omega) h5
      obtain e | e | e : p.k = 3 ∨ p.k = 4 ∨ p.k = 5 := by omega
      · exact partShape_3 p n L g c T w e hL hB p.A.toNat p.B.toNat (by omega) (by omega) (by omega) (by omega)
      · exact partShape_4 p n L g c T w e hL hB p.A.toNat p.B.toNat (by omega) (by omega) (by omega) (by omega)
      · exact partShape_5 p n L g c T w e hL hB p.A.toNat p.B.toNat (by omega) (by omega) (by omega) (by omega)
    · exact partShape_6 p n L g c T w (by omega) hL hB p.A.toNat (by omega) (by omega)
end Go.Proofs.YtegibpepdndocabGreat
end
section
namespace Go.Proofs.YtegibpepdndocabGreat
open Has renaming new → J0, new1 → J1, new2 → J2, new3 → J3, new4 → J4, drew → J5, drewN → J6, alloc → J7, same → J8, other → J9, cell → Jc, frozen → Jf, below → Jb
open Go.ChangeShapes Go.WideShapes Go.ChangeAt Go.RowKit
set_option linter.unusedSimpArgs false
set_option linter.unusedVariables false
set_option maxHeartbeats 4000000

attribute [local go_sem] VGo_value VGo_skip VGo_enter
attribute [-go_sem] callMethod
attribute [local go_sem] cmHas cmCut cmBox
attribute [local go_sem] Pt.arr0 Pt.arr5 Pt.arr6 Pt.arr24 Pt.arr25 Pt.arr26
attribute [-go_sem] loadVar storeVar
attribute [local go_sem] lvA svA lvVec lvHalf lvBall lvBox lvMot
attribute [local go_sem high] ptLoadNew ptStoreNew
theorem svCell (g i : Nat) (s : Sh) {w : World} {cs : Array Value} {T : TypeId} (h : Has w g cs T) (hi : i < cs.size) : (storeVar 135 ⟨g, i, none⟩ s.val).run Tryz.prog w = .ok () (w.setCell ⟨g, i, none⟩ s.val) := by
  obtain ⟨old, ho⟩ : ∃ old, cs[i]? = some old := ⟨cs[i], Array.getElem?_eq_getElem hi⟩
  have h1 := Jc h i
  rw [ho] at h1
  have h2 := Jf h i
  cases s <;> simp [storeVar, Sh.val, Tryz.sizeOf135, storeCells, Value.cells, h1, h2, go_sem]
/- the shape of the last one of parts that stand -/
set_option maxRecDepth 100000 in
theorem lastShape_any (ps : List Pt) (m : Nat) (v : Value) (w : World) (hl : PIn w v ps) (hw : Wf ps) (hm : ps.length = m + 1) (h24 : ps.length ≤ 24) : Calls Tryz.prog 148 #[v] w fun e w' => e = .returned ((shp ps m).val) ∧ Below w.heap.size w w' := by
  obtain ⟨A, c, rfl, hA⟩ := id hl
  obtain ⟨b, off, rfl, -⟩ := hA (by omega)
  clear hA
  have HL := Lib.hid hl
  have HW := Lib.hid hw
  have HS := Lib.hid (shs_get ps)
  clear hl hw
  go_enter Tryz.func148, Tryz.ntmps148
  go_upto_region 2 with fail
  rw [← cellsH_nil]
  have BH := Has.new w (cellsH []) 232
  have hb0 := lowAlloc (lowRefl w) (.cells (cellsH []) 232)
  generalize hw1 : w.alloc (.cells (cellsH []) 232) = w1 at *
  clear hw1
  go_wp2
  go_loopw [8] (fun i wr => ∃ (j : Nat), j ≤ ps.length ∧ i = .int .i64 j ∧ Has wr w.heap.size (cellsH (shs ps j)) 232 ∧ Below w.heap.size w wr) (fun i _ => ps.length - (intOf i).toNat)
  case atStart => exact ⟨0, by omega, rfl, BH, hb0⟩
  case round =>
    clear BH hb0
    obtain ⟨j, hj, rfl, BH, hb⟩ := hrel
    by_cases hc : j < ps.length
    · obtain ⟨A', c', hv, hA⟩ := HL.out.below hb
      injection hv with e1 e2 e3
      obtain ⟨b', off', e4, hf⟩ := hA (by omega)
      rw [e4] at e1
      injection e1 with e1
      injection e1 with e5 e6
      subst e5 e6
      have LD := Pat.load (hf j hc)
      obtain ⟨hk, hka, hkb, -⟩ := HW.out j hc
      have hlen := shs_len ps j
      have hsucc : shs ps (j + 1) = shs ps j ++ [mkSh ps[j] ((j : Int) + 1) (shs ps j)] := by
        simp only [shs, List.getD_eq_getElem?_getD, List.getElem?_eq_getElem hc]; rfl
      have hset := cellsH_set (shs ps j) (mkSh ps[j] ((j : Int) + 1) (shs ps j)) (by omega)
      rw [← hsucc, hlen] at hset
      have HSET := Lib.hid hset
      have hsz := cellsH_size (shs ps j) (by omega)
      clear hf hA e4 e2 e3 hset hsucc
      generalize ps[j] = p at LD hk hka hkb HSET
      generalize shs ps j = L at BH hlen HSET hsz
      go_upto_region 5 with fail
      have BP := Has.new wr p.arr 49
      have BH2 := Has.alloc BH (.cells p.arr 49)
      have hb2 := lowAlloc hb (.cells p.arr 49)
      have hne : w.heap.size ≠ wr.heap.size := Nat.ne_of_lt BH.lt
      clear BH hb LD
      generalize wr.alloc (.cells p.arr 49) = ws at *
      generalize wr.heap.size = bP at *
      have HPS : Hid (∀ w1 : World, Has w1 w.heap.size (cellsH L) 232 → Calls Tryz.prog 213 #[p.val, .int .i64 ((j : Int) + 1), .slice (some ⟨w.heap.size, 0, none⟩) j 24] w1 fun e w' => e = .returned (mkSh p ((j : Int) + 1) L).val ∧ Below w1.heap.size w1 w') := Lib.hid fun w1 h => by
        have := partShape_any p ((j : Int) + 1) L w.heap.size 24 232 w1 hk (by omega) h (by rw [hlen]; exact hka) (by rw [hlen]; exact hkb)
        rwa [hlen] at this
      generalize mkSh p ((j : Int) + 1) L = s at HPS HSET
      have hj24 : j ≤ 24 := by omega
      have hj25 : (j : Int) ≤ 24 := by omega
      have hj23 : j < 24 := by omega
      have hj26 : (j : Int) < 24 := by omega
      have hj0 : ¬ ((j : Int) < 0) := by omega
      have hj1 : ¬ (24 < (j : Int)) := by omega
      (refine wp_region_held1 8 (by kernel_rfl) (by kernel_rfl) rfl (fun _ _ _ d _ h => by cases d <;> exact h) ?_; intro Fq hFq; simp only [List.take_succ_cons, List.take_zero])
      repeat (first | (refine wpHeld_skip (by rfl) ?_; ((try simp only [Act.put, List.setIfInBounds_toArray, List.set_cons_zero, List.set_cons_succ]))) | (refine wpHeld_run ?_ rfl ?_ ?_; rotate_left; (focus (intro w' hbq Kq hKq; go_simp; (try (rw [IntWalk.i64_in]; rotate_left; focus (constructor <;> omega))); first | exact hKq _ (Below.refl _ _) | first | (go_at_call 213; ((with_reducible refine (HPS.out _ (BH2.below (undrew hbq))).mono ?_); rintro e w2 ⟨rfl, hbr⟩; refine back ?_; exact hKq _ hbr)) | (have PL := ptLoad p (BP.below (undrew hbq)); go_simp; exact hKq _ (Below.refl _ _)))); ((try simp only [Act.put, List.setIfInBounds_toArray, List.set_cons_zero, List.set_cons_succ]))))
      (refine wpHeld_nil (hFq _ ?_); clear hFq; intro w' hbq; ((try (have B0 := Jb (b := w.heap.size) (by repeat' (first|with_reducible (first|assumption|apply J0|apply J1|apply J2|apply J3|apply J4|apply J5|apply J6|apply J7|apply J8|apply J9)|(with_reducible show _ ≠ _;first|omega|(simp;done)))) hbq; have C0 := Jc B0; have F0 := Jf B0)); (try (have B1 := Jb (b := w.heap.size + 1) (by repeat' (first|with_reducible (first|assumption|apply J0|apply J1|apply J2|apply J3|apply J4|apply J5|apply J6|apply J7|apply J8|apply J9)|(with_reducible show _ ≠ _;first|omega|(simp;done)))) hbq; have C1 := Jc B1; have F1 := Jf B1))))
      have hu := undrew hbq
      have BH3 := BH2.below hu
      have hb3 := lowCall hb2 hu
      have SC := svCell w.heap.size j s BH3 (by omega)
      have BH4 : Has (w'.setCell ⟨w.heap.size, j, none⟩ s.val) w.heap.size (cellsH (shs ps (j + 1))) 232 := by
        rw [← HSET.out]; exact Has.same BH3 j _
      have B4 := Lib.hid BH4
      clear BH4 BH2 BP
      go_wp2
      first | exact ⟨⟨j + 1, by omega, by go_num, B4.out, by repeat' (first|with_reducible (first|exact lowRefl _|apply lowSet|apply lowDrew|apply lowDrewN|apply lowAlloc)|(with_reducible refine lowCall ?_ (by assumption))|(show (_ : Nat) ≤ _;first|(simp;done)|(simp;omega)|omega))⟩, by simp [intOf]; omega⟩ | (refine ⟨?_, by simp [intOf]; omega⟩; (repeat apply Exists.intro); exact ⟨⟨j + 1, by omega, by go_num, B4.out, by repeat' (first|with_reducible (first|exact lowRefl _|apply lowSet|apply lowDrew|apply lowDrewN|apply lowAlloc)|(with_reducible refine lowCall ?_ (by assumption))|(show (_ : Nat) ≤ _;first|(simp;done)|(simp;omega)|omega))⟩, rfl⟩)
    · obtain rfl : j = ps.length := by omega
      have hlen := shs_len ps ps.length
      have q := cellsH_get (shs ps ps.length) m (by omega)
      rw [HS.out _ _ (by omega)] at q
      have QM : wr.cell? ⟨w.heap.size, m, none⟩ = some (shp ps m).val := by rw [Jc BH, q]
      clear q
      have hmi : (ps.length : Int) - 1 = m := by omega
      have hm24 : m < 24 := by omega
      have hm25 : (m : Int) < 24 := by omega
      have hm0 : ¬ ((m : Int) < 0) := by omega
      go_wp2
      go_ret; refine ⟨rfl, ?_⟩; (repeat' (first|with_reducible (first|exact lowRefl _|apply lowSet|apply lowDrew|apply lowDrewN|apply lowAlloc)|(with_reducible refine lowCall ?_ (by assumption))|(show (_ : Nat) ≤ _;first|(simp;done)|(simp;omega)|omega)))
/- the shape of a solid -/
set_option maxRecDepth 100000 in
theorem shapeOf_yes (l : List Pt) (m : Nat) (v : Value) (w : World) (hl : PIn w v l) (hn : l.length ≤ 1048576) (hS : SolidP l) (hm : l.length = m + 1) : Calls Tryz.prog 94 #[v] w fun e w' => e = .returned (.tuple #[(shp (lvs l) m).val, .bool true]) ∧ Below w.heap.size w w' := by
  have HL := Lib.hid hl
  have HW := Lib.hid (wf_lvs hS)
  have h24 := hS.1.1.2
  have hlen := lvs_len l
  clear hl
  go_enter Tryz.func94, Tryz.ntmps94
  go_upto_region 2 with (go_at_call 95; (with_reducible refine (standing_any l _ _ HL.out hn).mono ?_); rintro e w' ⟨(⟨-, vo, rfl, hro⟩ | ⟨hno, rfl⟩), hbq⟩; rotate_left; exact absurd hS hno)
  go_wp2_with (go_at_call 148; (with_reducible refine (lastShape_any (lvs l) m _ _ (PRow.seen hro) HW.out (by omega) (by omega)).mono ?_); rintro e w3 ⟨rfl, hb3⟩)
  refine bodyPost_ret ?hres rfl ⟨rfl, lowCall hbq hb3⟩
  simp [results, Tryz.results94, go_sem]
theorem shapeOf_no (l : List Pt) (v : Value) (w : World) (hl : PIn w v l) (hn : l.length ≤ 1048576) (hS : ¬ SolidP l) : Calls Tryz.prog 94 #[v] w fun e w' => e = .returned (.tuple #[.nilIface, .bool false]) ∧ Below w.heap.size w w' := by
  have HL := Lib.hid hl
  clear hl
  go_enter Tryz.func94, Tryz.ntmps94
  go_upto_region 2 with (go_at_call 95; (with_reducible refine (standing_any l _ _ HL.out hn).mono ?_); rintro e w' ⟨(⟨hno, vo, rfl, hro⟩ | ⟨-, rfl⟩), hbq⟩; exact absurd hno hS)
  go_wp2
  refine bodyPost_ret ?hres rfl ⟨rfl, hbq⟩
  simp [results, Tryz.results94, go_sem]
end Go.Proofs.YtegibpepdndocabGreat
end
section
namespace Go.Proofs.YtegibpepdndocabGreat
open Go.ChangeShapes Go.WideShapes Go.ChangeAt Go.RowKit
set_option linter.unusedSimpArgs false
set_option linter.unusedVariables false
set_option maxHeartbeats 4000000

attribute [local go_sem] VGo_value VGo_skip VGo_enter
attribute [local go_sem] Pt.arr0 Pt.arr1 Pt.arr2 Pt.arr3 Pt.arr4 Pt.arr5 Pt.arr6 Pt.arr7 Pt.arr8 Pt.arr9 Pt.arr10 Pt.arr11 Pt.arr12 Pt.arr13 Pt.arr14 Pt.arr15 Pt.arr16 Pt.arr17 Pt.arr18 Pt.arr19 Pt.arr20 Pt.arr21 Pt.arr22 Pt.arr23 Pt.arr24 Pt.arr25 Pt.arr26
attribute [-go_sem] loadVar storeVar
attribute [local go_sem] lvA svA lvVec lvHalf lvBall lvBox lvMot
attribute [local go_sem high] ptLoadNew ptStoreNew
theorem ptStoreNew1 (p : Pt) (cs : Array Value) (o : Obj) (w : World) (hs : cs.size = 27) : (storeVar 49 ⟨w.heap.size + 1, 0, none⟩ p.val).run Tryz.prog ((w.alloc o).alloc (.cells cs 49)) = .ok () ((w.alloc o).alloc (.cells p.arr 49)) := by
  have := ptStoreNew p cs (w.alloc o) hs
  rwa [World.size_alloc] at this
theorem ptLoadNew1 (p : Pt) (o : Obj) (w : World) : (loadVar 49 ⟨w.heap.size + 1, 0, none⟩).run Tryz.prog ((w.alloc o).alloc (.cells p.arr 49)) = .ok p.val ((w.alloc o).alloc (.cells p.arr 49)) := by
  have := ptLoadNew p (w.alloc o)
  rwa [World.size_alloc] at this
attribute [local go_sem high] ptStoreNew1 ptLoadNew1
end Go.Proofs.YtegibpepdndocabGreat
end
