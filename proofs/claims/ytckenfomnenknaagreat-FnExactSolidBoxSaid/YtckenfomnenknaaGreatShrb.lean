import Derived.Test.YtckenfomnenknaaGreatHeldAb
import Derived.Test.YtckenfomnenknaaGreatPrtb
import Derived.Test.YtckenfomnenknaaGreatRdBb
import Derived.Test.YtckenfomnenknaaGreatSpTb
namespace Go.Proofs.YtckenfomnenknaaGreat
open Go.ChangeShapes Go.WideShapes Go.ChangeAt Go.RowKit
set_option linter.unusedSimpArgs false
set_option linter.unusedVariables false
set_option maxHeartbeats 4000000

attribute [local go_sem] VGo_value VGo_skip VGo_enter
attribute [-go_sem] callMethod
attribute [local go_sem] cmHas cmCut cmBox
attribute [local go_sem] Pt.arr0 Pt.arr1 Pt.arr2 Pt.arr3 Pt.arr4 Pt.arr5 Pt.arr6 Pt.arr7 Pt.arr8 Pt.arr9 Pt.arr10 Pt.arr11 Pt.arr12 Pt.arr13 Pt.arr14 Pt.arr15 Pt.arr16 Pt.arr17 Pt.arr18 Pt.arr19 Pt.arr20 Pt.arr21 Pt.arr22 Pt.arr23 Pt.arr24 Pt.arr25 Pt.arr26
attribute [-go_sem] loadVar storeVar
attribute [local go_sem] lvA svA lvVec lvHalf lvBall lvBox lvMot
attribute [local go_sem high] ptLoadNew ptStoreNew
theorem bEither (a b : Sh) (w : World) : (Instr.build 225 #[(0, a.val), (1, b.val)]).run Tryz.prog w = .ok (.agg #[a.val, b.val]) w := by cases a <;> cases b <;> exact run_build w _ _ _ (by kernel_rfl)
theorem bBoth (a b : Sh) (w : World) : (Instr.build 226 #[(0, a.val), (1, b.val)]).run Tryz.prog w = .ok (.agg #[a.val, b.val]) w := by cases a <;> cases b <;> exact run_build w _ _ _ (by kernel_rfl)
theorem bLess (a b : Sh) (w : World) : (Instr.build 227 #[(0, a.val), (1, b.val)]).run Tryz.prog w = .ok (.agg #[a.val, b.val]) w := by cases a <;> cases b <;> exact run_build w _ _ _ (by kernel_rfl)
theorem bHs (q : Qd) (n : Int) (w : World) : (Instr.build 219 #[(0, q.val), (1, .int .i64 n)]).run Tryz.prog w = .ok (Sh.rcv (.half q n)) w := run_build w _ _ _ (by kernel_rfl)
theorem bBs (q : Qd) (n : Int) (w : World) : (Instr.build 221 #[(0, q.val), (1, .int .i64 n)]).run Tryz.prog w = .ok (Sh.rcv (.ball q n)) w := run_build w _ _ _ (by kernel_rfl)
theorem bXs (q : Sx) (n : Int) (w : World) : (Instr.build 223 #[(0, q.val), (1, .int .i64 n)]).run Tryz.prog w = .ok (Sh.rcv (.box q n)) w := run_build w _ _ _ (by kernel_rfl)
attribute [-go_sem] Instr.build
attribute [local go_sem] bEither bBoth bLess bHs bBs bXs
/- the row of shapes that impl.lastShape fills -/
def cellsH (L : List Sh) : Array Value := (L.map Sh.val ++ List.replicate (24 - L.length) Value.nilIface).toArray
theorem cellsH_get (L : List Sh) (i : Nat) (h : i < L.length) : (cellsH L)[i]? = some (L.getD i Sh.none).val := by
  simp [cellsH, List.getElem?_append, h]
theorem cellsH_set (L : List Sh) (s : Sh) (h : L.length < 24) : (cellsH L).setIfInBounds L.length s.val = cellsH (L ++ [s]) := by
  apply Array.ext'
  simp only [cellsH, List.setIfInBounds_toArray, List.length_append, List.length_singleton, List.map_append, List.map_cons, List.map_nil]
  rw [List.set_append_right _ _ (by simp)]
  obtain ⟨m, hm⟩ : ∃ m, 24 - L.length = m + 1 := ⟨24 - L.length - 1, by omega⟩
  rw [hm, show 24 - (L.length + 1) = m by omega]
  simp [List.replicate_succ]
theorem cellsH_size (L : List Sh) (h : L.length ≤ 24) : (cellsH L).size = 24 := by simp [cellsH]; omega
theorem cellsH_nil : cellsH [] = #[.nilIface, .nilIface, .nilIface, .nilIface, .nilIface, .nilIface, .nilIface, .nilIface, .nilIface, .nilIface, .nilIface, .nilIface, .nilIface, .nilIface, .nilIface, .nilIface, .nilIface, .nilIface, .nilIface, .nilIface, .nilIface, .nilIface, .nilIface, .nilIface] := by kernel_rfl
theorem partShape_leaf (p : Pt) (n : Int) (v : Value) (L : List Sh) (w : World) (hk : 0 ≤ p.k ∧ p.k ≤ 2) : Calls Tryz.prog 164 #[p.val, .int .i64 n, v] w fun e w' => e = .returned ((mkSh p n L).val) ∧ Below w.heap.size w w' := by
  obtain h0 | h0 | h0 : p.k = 0 ∨ p.k = 1 ∨ p.k = 2 := by omega
  · have e : mkSh p n L = .half p.h n := by unfold mkSh; rw [if_pos h0]
    rw [e]
    go_enter Tryz.func164, Tryz.ntmps164
    go_wp2
    go_ret; refine ⟨rfl, ?_⟩; (repeat' (first | with_reducible exact lowRefl _ | with_reducible apply lowSet | with_reducible apply lowDrew | with_reducible apply lowDrewN | with_reducible apply lowAlloc | (with_reducible refine lowCall ?_ (by assumption)) | (show (_ : Nat) ≤ _; first | (simp; done) | (simp; omega) | omega)))
  · have e : mkSh p n L = .ball p.b n := by unfold mkSh; rw [if_neg (by omega), if_pos h0]
    rw [e]
    go_enter Tryz.func164, Tryz.ntmps164
    go_wp2
    go_ret; refine ⟨rfl, ?_⟩; (repeat' (first | with_reducible exact lowRefl _ | with_reducible apply lowSet | with_reducible apply lowDrew | with_reducible apply lowDrewN | with_reducible apply lowAlloc | (with_reducible refine lowCall ?_ (by assumption)) | (show (_ : Nat) ≤ _; first | (simp; done) | (simp; omega) | omega)))
  · have e : mkSh p n L = .box p.x n := by unfold mkSh; rw [if_neg (by omega), if_neg (by omega), if_pos h0]
    rw [e]
    go_enter Tryz.func164, Tryz.ntmps164
    go_wp2
    go_ret; refine ⟨rfl, ?_⟩; (repeat' (first | with_reducible exact lowRefl _ | with_reducible apply lowSet | with_reducible apply lowDrew | with_reducible apply lowDrewN | with_reducible apply lowAlloc | (with_reducible refine lowCall ?_ (by assumption)) | (show (_ : Nat) ≤ _; first | (simp; done) | (simp; omega) | omega)))
theorem partShape_3 (p : Pt) (n : Int) (L : List Sh) (g c : Nat) (T : TypeId) (w : World) (hk : p.k = 3) (hL : L.length ≤ 24) (hB : Has w g (cellsH L) T) (a b : Nat) (ha : p.A = a) (hb : p.B = b) (hal : a < L.length) (hbl : b < L.length) :
    Calls Tryz.prog 164 #[p.val, .int .i64 n, .slice (some ⟨g, 0, none⟩) L.length c] w fun e w' => e = .returned ((mkSh p n L).val) ∧ Below w.heap.size w w' := by
  have e : mkSh p n L = .either (L.getD a Sh.none) (L.getD b Sh.none) := by unfold mkSh; rw [if_neg (by omega), if_neg (by omega), if_neg (by omega), if_pos hk, ha, hb]; rfl
  rw [e]
  have qa := cellsH_get L a hal
  have qb := cellsH_get L b hbl
  have hg := hB.lt
  generalize (L.getD a Sh.none) = sa at *
  generalize (L.getD b Sh.none) = sb at *
  have HB := Lib.hid (hB.below (lowAlloc (lowRefl w) (.cells p.arr 95)))
  clear hB
  go_enter Tryz.func164, Tryz.ntmps164
  go_upto_region 9 with fail
  have B0 : Has (w.alloc (.cells p.arr 95)) w.heap.size p.arr 95 := Has.new _ _ _
  have hL0 := lowAlloc (lowRefl w) (.cells p.arr 95)
  generalize w.alloc (.cells p.arr 95) = w1 at *
  (refine wp_region_held0 (by kernel_rfl) (by kernel_rfl) (fun _ _ _ d _ h => by cases d <;> exact h) ?_; intro Fq hFq)
  repeat (first | (refine wpHeld_skip (by rfl) ?_; ((try simp only [Act.put, List.setIfInBounds_toArray, List.set_cons_zero, List.set_cons_succ]))) | (refine wpHeld_run ?_ rfl ?_ ?_; rotate_left; (focus (intro w' hbq Kq hKq; go_simp; (try (rw [IntWalk.i64_in]; rotate_left; focus (constructor <;> omega))); first | exact hKq _ (Below.refl _ _) | (have C0 := Has.cell (B0.below (undrew hbq)); have CG := Has.cell (HB.out.below (undrew hbq)); go_simp; exact hKq _ (Below.refl _ _)))); ((try simp only [Act.put, List.setIfInBounds_toArray, List.set_cons_zero, List.set_cons_succ]))))
  (refine wpHeld_nil (hFq _ ?_); clear hFq; intro w' hbq; ((try (have B0 := Has.below (b := w.heap.size) (by repeat' (first | with_reducible assumption | with_reducible apply Has.new | with_reducible apply Has.new1 | with_reducible apply Has.new2 | with_reducible apply Has.new3 | with_reducible apply Has.new4 | with_reducible apply Has.drew | with_reducible apply Has.drewN | with_reducible apply Has.alloc | with_reducible apply Has.same | with_reducible apply Has.other | (with_reducible show _ ≠ _; first | omega | (simp; done)))) hbq; have C0 := Has.cell B0; have F0 := Has.frozen B0)); (try (have B1 := Has.below (b := w.heap.size + 1) (by repeat' (first | with_reducible assumption | with_reducible apply Has.new | with_reducible apply Has.new1 | with_reducible apply Has.new2 | with_reducible apply Has.new3 | with_reducible apply Has.new4 | with_reducible apply Has.drew | with_reducible apply Has.drewN | with_reducible apply Has.alloc | with_reducible apply Has.same | with_reducible apply Has.other | (with_reducible show _ ≠ _; first | omega | (simp; done)))) hbq; have C1 := Has.cell B1; have F1 := Has.frozen B1))))
  go_wp2
  go_ret; refine ⟨rfl, ?_⟩; (repeat' (first | with_reducible exact lowRefl _ | with_reducible apply lowSet | with_reducible apply lowDrew | with_reducible apply lowDrewN | with_reducible apply lowAlloc | (with_reducible refine lowCall ?_ (by assumption)) | (show (_ : Nat) ≤ _; first | (simp; done) | (simp; omega) | omega)))
theorem partShape_4 (p : Pt) (n : Int) (L : List Sh) (g c : Nat) (T : TypeId) (w : World) (hk : p.k = 4) (hL : L.length ≤ 24) (hB : Has w g (cellsH L) T) (a b : Nat) (ha : p.A = a) (hb : p.B = b) (hal : a < L.length) (hbl : b < L.length) :
    Calls Tryz.prog 164 #[p.val, .int .i64 n, .slice (some ⟨g, 0, none⟩) L.length c] w fun e w' => e = .returned ((mkSh p n L).val) ∧ Below w.heap.size w w' := by
  have e : mkSh p n L = .both (L.getD a Sh.none) (L.getD b Sh.none) := by unfold mkSh; rw [if_neg (by omega), if_neg (by omega), if_neg (by omega), if_neg (by omega), if_pos hk, ha, hb]; rfl
  rw [e]
  have qa := cellsH_get L a hal
  have qb := cellsH_get L b hbl
  have hg := hB.lt
  generalize (L.getD a Sh.none) = sa at *
  generalize (L.getD b Sh.none) = sb at *
  have HB := Lib.hid (hB.below (lowAlloc (lowRefl w) (.cells p.arr 95)))
  clear hB
  go_enter Tryz.func164, Tryz.ntmps164
  go_upto_region 11 with fail
  have B0 : Has (w.alloc (.cells p.arr 95)) w.heap.size p.arr 95 := Has.new _ _ _
  have hL0 := lowAlloc (lowRefl w) (.cells p.arr 95)
  generalize w.alloc (.cells p.arr 95) = w1 at *
  (refine wp_region_held0 (by kernel_rfl) (by kernel_rfl) (fun _ _ _ d _ h => by cases d <;> exact h) ?_; intro Fq hFq)
  repeat (first | (refine wpHeld_skip (by rfl) ?_; ((try simp only [Act.put, List.setIfInBounds_toArray, List.set_cons_zero, List.set_cons_succ]))) | (refine wpHeld_run ?_ rfl ?_ ?_; rotate_left; (focus (intro w' hbq Kq hKq; go_simp; (try (rw [IntWalk.i64_in]; rotate_left; focus (constructor <;> omega))); first | exact hKq _ (Below.refl _ _) | (have C0 := Has.cell (B0.below (undrew hbq)); have CG := Has.cell (HB.out.below (undrew hbq)); go_simp; exact hKq _ (Below.refl _ _)))); ((try simp only [Act.put, List.setIfInBounds_toArray, List.set_cons_zero, List.set_cons_succ]))))
  (refine wpHeld_nil (hFq _ ?_); clear hFq; intro w' hbq; ((try (have B0 := Has.below (b := w.heap.size) (by repeat' (first | with_reducible assumption | with_reducible apply Has.new | with_reducible apply Has.new1 | with_reducible apply Has.new2 | with_reducible apply Has.new3 | with_reducible apply Has.new4 | with_reducible apply Has.drew | with_reducible apply Has.drewN | with_reducible apply Has.alloc | with_reducible apply Has.same | with_reducible apply Has.other | (with_reducible show _ ≠ _; first | omega | (simp; done)))) hbq; have C0 := Has.cell B0; have F0 := Has.frozen B0)); (try (have B1 := Has.below (b := w.heap.size + 1) (by repeat' (first | with_reducible assumption | with_reducible apply Has.new | with_reducible apply Has.new1 | with_reducible apply Has.new2 | with_reducible apply Has.new3 | with_reducible apply Has.new4 | with_reducible apply Has.drew | with_reducible apply Has.drewN | with_reducible apply Has.alloc | with_reducible apply Has.same | with_reducible apply Has.other | (with_reducible show _ ≠ _; first | omega | (simp; done)))) hbq; have C1 := Has.cell B1; have F1 := Has.frozen B1))))
  go_wp2
  go_ret; refine ⟨rfl, ?_⟩; (repeat' (first | with_reducible exact lowRefl _ | with_reducible apply lowSet | with_reducible apply lowDrew | with_reducible apply lowDrewN | with_reducible apply lowAlloc | (with_reducible refine lowCall ?_ (by assumption)) | (show (_ : Nat) ≤ _; first | (simp; done) | (simp; omega) | omega)))
theorem partShape_5 (p : Pt) (n : Int) (L : List Sh) (g c : Nat) (T : TypeId) (w : World) (hk : p.k = 5) (hL : L.length ≤ 24) (hB : Has w g (cellsH L) T) (a b : Nat) (ha : p.A = a) (hb : p.B = b) (hal : a < L.length) (hbl : b < L.length) :
    Calls Tryz.prog 164 #[p.val, .int .i64 n, .slice (some ⟨g, 0, none⟩) L.length c] w fun e w' => e = .returned ((mkSh p n L).val) ∧ Below w.heap.size w w' := by
  have e : mkSh p n L = .less (L.getD a Sh.none) (L.getD b Sh.none) := by unfold mkSh; rw [if_neg (by omega), if_neg (by omega), if_neg (by omega), if_neg (by omega), if_neg (by omega), if_pos hk, ha, hb]; rfl
  rw [e]
  have qa := cellsH_get L a hal
  have qb := cellsH_get L b hbl
  have hg := hB.lt
  generalize (L.getD a Sh.none) = sa at *
  generalize (L.getD b Sh.none) = sb at *
  have HB := Lib.hid (hB.below (lowAlloc (lowRefl w) (.cells p.arr 95)))
  clear hB
  go_enter Tryz.func164, Tryz.ntmps164
  go_upto_region 13 with fail
  have B0 : Has (w.alloc (.cells p.arr 95)) w.heap.size p.arr 95 := Has.new _ _ _
  have hL0 := lowAlloc (lowRefl w) (.cells p.arr 95)
  generalize w.alloc (.cells p.arr 95) = w1 at *
  (refine wp_region_held0 (by kernel_rfl) (by kernel_rfl) (fun _ _ _ d _ h => by cases d <;> exact h) ?_; intro Fq hFq)
  repeat (first | (refine wpHeld_skip (by rfl) ?_; ((try simp only [Act.put, List.setIfInBounds_toArray, List.set_cons_zero, List.set_cons_succ]))) | (refine wpHeld_run ?_ rfl ?_ ?_; rotate_left; (focus (intro w' hbq Kq hKq; go_simp; (try (rw [IntWalk.i64_in]; rotate_left; focus (constructor <;> omega))); first | exact hKq _ (Below.refl _ _) | (have C0 := Has.cell (B0.below (undrew hbq)); have CG := Has.cell (HB.out.below (undrew hbq)); go_simp; exact hKq _ (Below.refl _ _)))); ((try simp only [Act.put, List.setIfInBounds_toArray, List.set_cons_zero, List.set_cons_succ]))))
  (refine wpHeld_nil (hFq _ ?_); clear hFq; intro w' hbq; ((try (have B0 := Has.below (b := w.heap.size) (by repeat' (first | with_reducible assumption | with_reducible apply Has.new | with_reducible apply Has.new1 | with_reducible apply Has.new2 | with_reducible apply Has.new3 | with_reducible apply Has.new4 | with_reducible apply Has.drew | with_reducible apply Has.drewN | with_reducible apply Has.alloc | with_reducible apply Has.same | with_reducible apply Has.other | (with_reducible show _ ≠ _; first | omega | (simp; done)))) hbq; have C0 := Has.cell B0; have F0 := Has.frozen B0)); (try (have B1 := Has.below (b := w.heap.size + 1) (by repeat' (first | with_reducible assumption | with_reducible apply Has.new | with_reducible apply Has.new1 | with_reducible apply Has.new2 | with_reducible apply Has.new3 | with_reducible apply Has.new4 | with_reducible apply Has.drew | with_reducible apply Has.drewN | with_reducible apply Has.alloc | with_reducible apply Has.same | with_reducible apply Has.other | (with_reducible show _ ≠ _; first | omega | (simp; done)))) hbq; have C1 := Has.cell B1; have F1 := Has.frozen B1))))
  go_wp2
  go_ret; refine ⟨rfl, ?_⟩; (repeat' (first | with_reducible exact lowRefl _ | with_reducible apply lowSet | with_reducible apply lowDrew | with_reducible apply lowDrewN | with_reducible apply lowAlloc | (with_reducible refine lowCall ?_ (by assumption)) | (show (_ : Nat) ≤ _; first | (simp; done) | (simp; omega) | omega)))
theorem partShape_6 (p : Pt) (n : Int) (L : List Sh) (g c : Nat) (T : TypeId) (w : World) (hk : p.k = 6) (hL : L.length ≤ 24) (hB : Has w g (cellsH L) T) (a : Nat) (ha : p.A = a) (hal : a < L.length) :
    Calls Tryz.prog 164 #[p.val, .int .i64 n, .slice (some ⟨g, 0, none⟩) L.length c] w fun e w' => e = .returned ((mkSh p n L).val) ∧ Below w.heap.size w w' := by
  have e : mkSh p n L = L.getD a Sh.none := by unfold mkSh; rw [if_neg (by omega), if_neg (by omega), if_neg (by omega), if_neg (by omega), if_neg (by omega), if_neg (by omega), ha]; rfl
  rw [e]
  have qa := cellsH_get L a hal
  generalize (L.getD a Sh.none) = sa at *
  have HB := Lib.hid (hB.below (lowAlloc (lowRefl w) (.cells p.arr 95)))
  clear hB
  go_enter Tryz.func164, Tryz.ntmps164
  go_upto_region 14 with fail
  have B0 : Has (w.alloc (.cells p.arr 95)) w.heap.size p.arr 95 := Has.new _ _ _
  have hL0 := lowAlloc (lowRefl w) (.cells p.arr 95)
  generalize w.alloc (.cells p.arr 95) = w1 at *
  have C0 := Has.cell B0
  have CG := Has.cell HB.out
  go_wp2
  go_ret; refine ⟨rfl, ?_⟩; (repeat' (first | with_reducible exact lowRefl _ | with_reducible apply lowSet | with_reducible apply lowDrew | with_reducible apply lowDrewN | with_reducible apply lowAlloc | (with_reducible refine lowCall ?_ (by assumption)) | (show (_ : Nat) ≤ _; first | (simp; done) | (simp; omega) | omega)))
theorem partShape_any (p : Pt) (n : Int) (L : List Sh) (g c : Nat) (T : TypeId) (w : World) (hk : 0 ≤ p.k ∧ p.k ≤ 6) (hL : L.length ≤ 24) (hB : Has w g (cellsH L) T) (ha : 3 ≤ p.k → 0 ≤ p.A ∧ p.A < L.length) (hb : 3 ≤ p.k → p.k ≤ 5 → 0 ≤ p.B ∧ p.B < L.length) :
    Calls Tryz.prog 164 #[p.val, .int .i64 n, .slice (some ⟨g, 0, none⟩) L.length c] w fun e w' => e = .returned ((mkSh p n L).val) ∧ Below w.heap.size w w' := by
  by_cases h2 : p.k ≤ 2
  · exact partShape_leaf p n _ L w ⟨hk.1, h2⟩
  · have h3 := ha (by omega)
    by_cases h5 : p.k ≤ 5
    · have h4 := hb (by omega) h5
      obtain e | e | e : p.k = 3 ∨ p.k = 4 ∨ p.k = 5 := by omega
      · exact partShape_3 p n L g c T w e hL hB p.A.toNat p.B.toNat (by omega) (by omega) (by omega) (by omega)
      · exact partShape_4 p n L g c T w e hL hB p.A.toNat p.B.toNat (by omega) (by omega) (by omega) (by omega)
      · exact partShape_5 p n L g c T w e hL hB p.A.toNat p.B.toNat (by omega) (by omega) (by omega) (by omega)
    · exact partShape_6 p n L g c T w (by omega) hL hB p.A.toNat (by omega) (by omega)
end Go.Proofs.YtckenfomnenknaaGreat
