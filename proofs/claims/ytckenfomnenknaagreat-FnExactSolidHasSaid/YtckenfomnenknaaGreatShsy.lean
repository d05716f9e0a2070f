import Derived.Deep.Cut
import Derived.Test.YtckenfomnenknaaGreatShry
namespace Go.Proofs.YtckenfomnenknaaGreat
open Go.ChangeShapes Go.WideShapes Go.ChangeAt Go.RowKit
set_option linter.unusedSimpArgs false
set_option linter.unusedVariables false
set_option maxHeartbeats 4000000

attribute [local go_sem] VGo_value VGo_skip VGo_enter
attribute [-go_sem] callMethod
attribute [local go_sem] cmHas cmCut cmBox
attribute [local go_sem] Pt.arr0 Pt.arr5 Pt.arr6 Pt.arr24 Pt.arr25 Pt.arr26
attribute [-go_sem] loadVar storeVar
attribute [local go_sem] lvA svA lvVec lvHalf lvBall lvBox lvMot
attribute [local go_sem high] ptLoadNew ptStoreNew
theorem svCell (g i : Nat) (s : Sh) {w : World} {cs : Array Value} {T : TypeId} (h : Has w g cs T) (hi : i < cs.size) : (storeVar 105 ⟨g, i, none⟩ s.val).run Tryz.prog w = .ok () (w.setCell ⟨g, i, none⟩ s.val) := by
  obtain ⟨old, ho⟩ : ∃ old, cs[i]? = some old := ⟨cs[i], Array.getElem?_eq_getElem hi⟩
  have h1 := Has.cell h i
  rw [ho] at h1
  have h2 := Has.frozen h i
  cases s <;> simp [storeVar, Sh.val, Tryz.sizeOf105, storeCells, Value.cells, h1, h2, go_sem]
/- the shape of the last one of parts that stand -/
set_option maxRecDepth 100000 in
theorem lastShape_any (ps : List Pt) (m : Nat) (v : Value) (w : World) (hl : PIn w v ps) (hw : Wf ps) (hm : ps.length = m + 1) (h24 : ps.length ≤ 24) : Calls Tryz.prog 109 #[v] w fun e w' => e = .returned ((shp ps m).val) ∧ Below w.heap.size w w' := by
  obtain ⟨A, c, rfl, hA⟩ := id hl
  obtain ⟨b, off, rfl, -⟩ := hA (by omega)
  clear hA
  have HL := Lib.hid hl
  have HW := Lib.hid hw
  have HS := Lib.hid (shs_get ps)
  clear hl hw
  go_enter Tryz.func109, Tryz.ntmps109
  go_upto_region 2 with fail
  rw [← cellsH_nil]
  have BH := Has.new w (cellsH []) 193
  have hb0 := lowAlloc (lowRefl w) (.cells (cellsH []) 193)
  generalize hw1 : w.alloc (.cells (cellsH []) 193) = w1 at *
  clear hw1
  go_wp2
  go_loopw [8] (fun i wr => ∃ (j : Nat), j ≤ ps.length ∧ i = .int .i64 j ∧ Has wr w.heap.size (cellsH (shs ps j)) 193 ∧ Below w.heap.size w wr) (fun i _ => ps.length - (intOf i).toNat)
  case atStart => exact ⟨0, by omega, rfl, BH, hb0⟩
  case round =>
    clear BH hb0
    obtain ⟨j, hj, rfl, BH, hb⟩ := hrel
    by_cases hc : j < ps.length
    · obtain ⟨A', c', hv, hA⟩ := HL.out.below hb
      injection hv with e1 e2 e3
      obtain ⟨b', off', e4, hf⟩ := hA (by omega)
      rw [e4] at e1
      injection e1 with e1
      injection e1 with e5 e6
      subst e5 e6
      have LD := Pat.load (hf j hc)
      obtain ⟨hk, hka, hkb, -⟩ := HW.out j hc
      have hlen := shs_len ps j
      have hsucc : shs ps (j + 1) = shs ps j ++ [mkSh ps[j] ((j : Int) + 1) (shs ps j)] := by
        simp only [shs, List.getD_eq_getElem?_getD, List.getElem?_eq_getElem hc]; rfl
      have hset := cellsH_set (shs ps j) (mkSh ps[j] ((j : Int) + 1) (shs ps j)) (by omega)
      rw [← hsucc, hlen] at hset
      have HSET := Lib.hid hset
      have hsz := cellsH_size (shs ps j) (by omega)
      clear hf hA e4 e2 e3 hset hsucc
      generalize ps[j] = p at LD hk hka hkb HSET
      generalize shs ps j = L at BH hlen HSET hsz
      go_upto_region 5 with fail
      have BP := Has.new wr p.arr 95
      have BH2 := Has.alloc BH (.cells p.arr 95)
      have hb2 := lowAlloc hb (.cells p.arr 95)
      have hne : w.heap.size ≠ wr.heap.size := Nat.ne_of_lt BH.lt
      clear BH hb LD
      generalize wr.alloc (.cells p.arr 95) = ws at *
      generalize wr.heap.size = bP at *
      have HPS : Hid (∀ w1 : World, Has w1 w.heap.size (cellsH L) 193 → Calls Tryz.prog 164 #[p.val, .int .i64 ((j : Int) + 1), .slice (some ⟨w.heap.size, 0, none⟩) j 24] w1 fun e w' => e = .returned (mkSh p ((j : Int) + 1) L).val ∧ Below w1.heap.size w1 w') := Lib.hid fun w1 h => by
        have := partShape_any p ((j : Int) + 1) L w.heap.size 24 193 w1 hk (by omega) h (by rw [hlen]; exact hka) (by rw [hlen]; exact hkb)
        rwa [hlen] at this
      generalize mkSh p ((j : Int) + 1) L = s at HPS HSET
      have hj24 : j ≤ 24 := by omega
      have hj25 : (j : Int) ≤ 24 := by omega
      have hj23 : j < 24 := by omega
      have hj26 : (j : Int) < 24 := by omega
      have hj0 : ¬ ((j : Int) < 0) := by omega
      have hj1 : ¬ (24 < (j : Int)) := by omega
      (refine wp_region_held1 8 (by kernel_rfl) (by kernel_rfl) rfl (fun _ _ _ d _ h => by cases d <;> exact h) ?_; intro Fq hFq; simp only [List.take_succ_cons, List.take_zero])
      repeat (first | (refine wpHeld_skip (by rfl) ?_; ((try simp only [Act.put, List.setIfInBounds_toArray, List.set_cons_zero, List.set_cons_succ]))) | (refine wpHeld_run ?_ rfl ?_ ?_; rotate_left; (focus (intro w' hbq Kq hKq; go_simp; (try (rw [IntWalk.i64_in]; rotate_left; focus (constructor <;> omega))); first | exact hKq _ (Below.refl _ _) | first | (go_at_call 164; ((with_reducible refine (HPS.out _ (BH2.below (undrew hbq))).mono ?_); rintro e w2 ⟨rfl, hbr⟩; refine back ?_; exact hKq _ hbr)) | (have PL := ptLoad p (BP.below (undrew hbq)); go_simp; exact hKq _ (Below.refl _ _)))); ((try simp only [Act.put, List.setIfInBounds_toArray, List.set_cons_zero, List.set_cons_succ]))))
      (refine wpHeld_nil (hFq _ ?_); clear hFq; intro w' hbq; ((try (have B0 := Has.below (b := w.heap.size) (by repeat' (first | with_reducible assumption | with_reducible apply Has.new | with_reducible apply Has.new1 | with_reducible apply Has.new2 | with_reducible apply Has.new3 | with_reducible apply Has.new4 | with_reducible apply Has.drew | with_reducible apply Has.drewN | with_reducible apply Has.alloc | with_reducible apply Has.same | with_reducible apply Has.other | (with_reducible show _ ≠ _; first | omega | (simp; done)))) hbq; have C0 := Has.cell B0; have F0 := Has.frozen B0)); (try (have B1 := Has.below (b := w.heap.size + 1) (by repeat' (first | with_reducible assumption | with_reducible apply Has.new | with_reducible apply Has.new1 | with_reducible apply Has.new2 | with_reducible apply Has.new3 | with_reducible apply Has.new4 | with_reducible apply Has.drew | with_reducible apply Has.drewN | with_reducible apply Has.alloc | with_reducible apply Has.same | with_reducible apply Has.other | (with_reducible show _ ≠ _; first | omega | (simp; done)))) hbq; have C1 := Has.cell B1; have F1 := Has.frozen B1))))
      have hu := undrew hbq
      have BH3 := BH2.below hu
      have hb3 := lowCall hb2 hu
      have SC := svCell w.heap.size j s BH3 (by omega)
      have BH4 : Has (w'.setCell ⟨w.heap.size, j, none⟩ s.val) w.heap.size (cellsH (shs ps (j + 1))) 193 := by
        rw [← HSET.out]; exact Has.same BH3 j _
      have B4 := Lib.hid BH4
      clear BH4 BH2 BP
      go_wp2
      first | exact ⟨⟨j + 1, by omega, by go_num, B4.out, by repeat' (first | with_reducible exact lowRefl _ | with_reducible apply lowSet | with_reducible apply lowDrew | with_reducible apply lowDrewN | with_reducible apply lowAlloc | (with_reducible refine lowCall ?_ (by assumption)) | (show (_ : Nat) ≤ _; first | (simp; done) | (simp; omega) | omega))⟩, by simp [intOf]; omega⟩ | (refine ⟨?_, by simp [intOf]; omega⟩; (repeat apply Exists.intro); exact ⟨⟨j + 1, by omega, by go_num, B4.out, by repeat' (first | with_reducible exact lowRefl _ | with_reducible apply lowSet | with_reducible apply lowDrew | with_reducible apply lowDrewN | with_reducible apply lowAlloc | (with_reducible refine lowCall ?_ (by assumption)) | (show (_ : Nat) ≤ _; first | (simp; done) | (simp; omega) | omega))⟩, rfl⟩)
    · obtain rfl : j = ps.length := by omega
      have hlen := shs_len ps ps.length
      have q := cellsH_get (shs ps ps.length) m (by omega)
      rw [HS.out _ _ (by omega)] at q
      have QM : wr.cell? ⟨w.heap.size, m, none⟩ = some (shp ps m).val := by rw [Has.cell BH, q]
      clear q
      have hmi : (ps.length : Int) - 1 = m := by omega
      have hm24 : m < 24 := by omega
      have hm25 : (m : Int) < 24 := by omega
      have hm0 : ¬ ((m : Int) < 0) := by omega
      go_wp2
      go_ret; refine ⟨rfl, ?_⟩; (repeat' (first | with_reducible exact lowRefl _ | with_reducible apply lowSet | with_reducible apply lowDrew | with_reducible apply lowDrewN | with_reducible apply lowAlloc | (with_reducible refine lowCall ?_ (by assumption)) | (show (_ : Nat) ≤ _; first | (simp; done) | (simp; omega) | omega)))
/- the shape of a solid -/
set_option maxRecDepth 100000 in
theorem shapeOf_yes (l : List Pt) (m : Nat) (v : Value) (w : World) (hl : PIn w v l) (hn : l.length ≤ 1048576) (hS : SolidP l) (hm : l.length = m + 1) : Calls Tryz.prog 59 #[v] w fun e w' => e = .returned (.tuple #[(shp (lvs l) m).val, .bool true]) ∧ Below w.heap.size w w' := by
  have HL := Lib.hid hl
  have HW := Lib.hid (wf_lvs hS)
  have h24 := hS.1.1.2
  have hlen := lvs_len l
  clear hl
  go_enter Tryz.func59, Tryz.ntmps59
  go_upto_region 2 with (go_at_call 63; (with_reducible refine (standing_any l _ _ HL.out hn).mono ?_); rintro e w' ⟨(⟨-, vo, rfl, hro⟩ | ⟨hno, rfl⟩), hbq⟩; rotate_left; exact absurd hS hno)
  go_wp2_with (go_at_call 109; (with_reducible refine (lastShape_any (lvs l) m _ _ (PRow.seen hro) HW.out (by omega) (by omega)).mono ?_); rintro e w3 ⟨rfl, hb3⟩)
  refine bodyPost_ret ?hres rfl ⟨rfl, lowCall hbq hb3⟩
  simp [results, Tryz.results59, go_sem]
theorem shapeOf_no (l : List Pt) (v : Value) (w : World) (hl : PIn w v l) (hn : l.length ≤ 1048576) (hS : ¬ SolidP l) : Calls Tryz.prog 59 #[v] w fun e w' => e = .returned (.tuple #[.nilIface, .bool false]) ∧ Below w.heap.size w w' := by
  have HL := Lib.hid hl
  clear hl
  go_enter Tryz.func59, Tryz.ntmps59
  go_upto_region 2 with (go_at_call 63; (with_reducible refine (standing_any l _ _ HL.out hn).mono ?_); rintro e w' ⟨(⟨hno, vo, rfl, hro⟩ | ⟨-, rfl⟩), hbq⟩; exact absurd hno hS)
  go_wp2
  refine bodyPost_ret ?hres rfl ⟨rfl, hbq⟩
  simp [results, Tryz.results59, go_sem]
/- whether a solid has a place -/
def SHas (l : List Pt) (x y z : Int) : Prop := SolidP l ∧ Vok x y z 800 ∧ (shp (lvs l) (l.length - 1)).has x y z = true
theorem iSolidHas_any (l : List Pt) (v : Value) (x y z : Int) (w : World) (hl : PIn w v l) (hn : l.length ≤ 1048576) : Calls Tryz.prog 22 #[v, .agg #[.int .i64 (x), .int .i64 (y), .int .i64 (z)]] w fun e w' => e = .returned (.bool (dec (SHas l x y z))) ∧ Below w.heap.size w w' := by
  have HL := Lib.hid hl
  by_cases hS : SolidP l
  · obtain ⟨m, hm⟩ : ∃ m, l.length = m + 1 := ⟨l.length - 1, by have := hS.1.1.1; omega⟩
    have HSO : Hid (∀ w, PIn w v l → Calls Tryz.prog 59 #[v] w fun e w' => e = .returned (.tuple #[(shp (lvs l) m).val, .bool true]) ∧ Below w.heap.size w w') := Lib.hid fun w h => shapeOf_yes l m v w h hn hS hm
    have hok : (shp (lvs l) m).ok := shp_ok (wf_lvs hS) (m + 1) m (by omega) (by rw [lvs_len]; omega)
    by_cases hv : Vok x y z 800
    · have e : dec (SHas l x y z) = (shp (lvs l) m).has x y z := by
        cases h : (shp (lvs l) m).has x y z
        · exact dec_no fun k => by have := k.2.2; rw [hm, Nat.add_sub_cancel, h] at this; cases this
        · exact dec_yes ⟨hS, hv, by rw [hm, Nat.add_sub_cancel]; exact h⟩
      rw [e]
      have HH := Lib.hid (fun w => has_any x y z hv (shp (lvs l) m) hok w)
      have HV := Lib.hid hv
      clear hl hm hok hS hv e
      generalize shp (lvs l) m = s at *
      go_enter Tryz.func22, Tryz.ntmps22
      go_wp2_with (first | (go_at_call 59; (with_reducible refine (HSO.out _ (HL.out.below (lowAlloc (lowRefl w) _))).mono ?_); rintro e w' ⟨rfl, hbq⟩; (try (have B0 := Has.below (b := w.heap.size) (by repeat' (first | with_reducible assumption | with_reducible apply Has.new | with_reducible apply Has.new1 | with_reducible apply Has.new2 | with_reducible apply Has.new3 | with_reducible apply Has.new4 | with_reducible apply Has.drew | with_reducible apply Has.drewN | with_reducible apply Has.alloc | with_reducible apply Has.same | with_reducible apply Has.other | (with_reducible show _ ≠ _; first | omega | (simp; done)))) hbq; have C0 := Has.cell B0; have F0 := Has.frozen B0)); (try (have B1 := Has.below (b := w.heap.size + 1) (by repeat' (first | with_reducible assumption | with_reducible apply Has.new | with_reducible apply Has.new1 | with_reducible apply Has.new2 | with_reducible apply Has.new3 | with_reducible apply Has.new4 | with_reducible apply Has.drew | with_reducible apply Has.drewN | with_reducible apply Has.alloc | with_reducible apply Has.same | with_reducible apply Has.other | (with_reducible show _ ≠ _; first | omega | (simp; done)))) hbq; have C1 := Has.cell B1; have F1 := Has.frozen B1))) | (go_at_call 30; ((with_reducible refine (ivecOk_yes _ _ _ _ _ (by omega) (by omega) HV.out).mono ?_); rintro e w' ⟨rfl, hbq⟩; (try (have B0 := Has.below (b := w.heap.size) (by repeat' (first | with_reducible assumption | with_reducible apply Has.new | with_reducible apply Has.new1 | with_reducible apply Has.new2 | with_reducible apply Has.new3 | with_reducible apply Has.new4 | with_reducible apply Has.drew | with_reducible apply Has.drewN | with_reducible apply Has.alloc | with_reducible apply Has.same | with_reducible apply Has.other | (with_reducible show _ ≠ _; first | omega | (simp; done)))) hbq; have C0 := Has.cell B0; have F0 := Has.frozen B0)); (try (have B1 := Has.below (b := w.heap.size + 1) (by repeat' (first | with_reducible assumption | with_reducible apply Has.new | with_reducible apply Has.new1 | with_reducible apply Has.new2 | with_reducible apply Has.new3 | with_reducible apply Has.new4 | with_reducible apply Has.drew | with_reducible apply Has.drewN | with_reducible apply Has.alloc | with_reducible apply Has.same | with_reducible apply Has.other | (with_reducible show _ ≠ _; first | omega | (simp; done)))) hbq; have C1 := Has.cell B1; have F1 := Has.frozen B1)))) | (go_at_fn (Sh.hasF s); (with_reducible refine (HH.out _).mono ?_); rintro e w' ⟨rfl, hbq⟩; (try (have B0 := Has.below (b := w.heap.size) (by repeat' (first | with_reducible assumption | with_reducible apply Has.new | with_reducible apply Has.new1 | with_reducible apply Has.new2 | with_reducible apply Has.new3 | with_reducible apply Has.new4 | with_reducible apply Has.drew | with_reducible apply Has.drewN | with_reducible apply Has.alloc | with_reducible apply Has.same | with_reducible apply Has.other | (with_reducible show _ ≠ _; first | omega | (simp; done)))) hbq; have C0 := Has.cell B0; have F0 := Has.frozen B0)); (try (have B1 := Has.below (b := w.heap.size + 1) (by repeat' (first | with_reducible assumption | with_reducible apply Has.new | with_reducible apply Has.new1 | with_reducible apply Has.new2 | with_reducible apply Has.new3 | with_reducible apply Has.new4 | with_reducible apply Has.drew | with_reducible apply Has.drewN | with_reducible apply Has.alloc | with_reducible apply Has.same | with_reducible apply Has.other | (with_reducible show _ ≠ _; first | omega | (simp; done)))) hbq; have C1 := Has.cell B1; have F1 := Has.frozen B1))))
      go_ret; refine ⟨rfl, ?_⟩; (repeat' (first | with_reducible exact lowRefl _ | with_reducible apply lowSet | with_reducible apply lowDrew | with_reducible apply lowDrewN | with_reducible apply lowAlloc | (with_reducible refine lowCall ?_ (by assumption)) | (show (_ : Nat) ≤ _; first | (simp; done) | (simp; omega) | omega)))
    · rw [dec_no (fun k => hv k.2.1)]
      have HV := Lib.hid hv
      clear hl hm hok hS hv
      go_enter Tryz.func22, Tryz.ntmps22
      go_wp2_with (first | (go_at_call 59; (with_reducible refine (HSO.out _ (HL.out.below (lowAlloc (lowRefl w) _))).mono ?_); rintro e w' ⟨rfl, hbq⟩; (try (have B0 := Has.below (b := w.heap.size) (by repeat' (first | with_reducible assumption | with_reducible apply Has.new | with_reducible apply Has.new1 | with_reducible apply Has.new2 | with_reducible apply Has.new3 | with_reducible apply Has.new4 | with_reducible apply Has.drew | with_reducible apply Has.drewN | with_reducible apply Has.alloc | with_reducible apply Has.same | with_reducible apply Has.other | (with_reducible show _ ≠ _; first | omega | (simp; done)))) hbq; have C0 := Has.cell B0; have F0 := Has.frozen B0)); (try (have B1 := Has.below (b := w.heap.size + 1) (by repeat' (first | with_reducible assumption | with_reducible apply Has.new | with_reducible apply Has.new1 | with_reducible apply Has.new2 | with_reducible apply Has.new3 | with_reducible apply Has.new4 | with_reducible apply Has.drew | with_reducible apply Has.drewN | with_reducible apply Has.alloc | with_reducible apply Has.same | with_reducible apply Has.other | (with_reducible show _ ≠ _; first | omega | (simp; done)))) hbq; have C1 := Has.cell B1; have F1 := Has.frozen B1))) | (go_at_call 30; ((with_reducible refine (ivecOk_no _ _ _ _ _ (by omega) (by omega) HV.out).mono ?_); rintro e w' ⟨rfl, hbq⟩; (try (have B0 := Has.below (b := w.heap.size) (by repeat' (first | with_reducible assumption | with_reducible apply Has.new | with_reducible apply Has.new1 | with_reducible apply Has.new2 | with_reducible apply Has.new3 | with_reducible apply Has.new4 | with_reducible apply Has.drew | with_reducible apply Has.drewN | with_reducible apply Has.alloc | with_reducible apply Has.same | with_reducible apply Has.other | (with_reducible show _ ≠ _; first | omega | (simp; done)))) hbq; have C0 := Has.cell B0; have F0 := Has.frozen B0)); (try (have B1 := Has.below (b := w.heap.size + 1) (by repeat' (first | with_reducible assumption | with_reducible apply Has.new | with_reducible apply Has.new1 | with_reducible apply Has.new2 | with_reducible apply Has.new3 | with_reducible apply Has.new4 | with_reducible apply Has.drew | with_reducible apply Has.drewN | with_reducible apply Has.alloc | with_reducible apply Has.same | with_reducible apply Has.other | (with_reducible show _ ≠ _; first | omega | (simp; done)))) hbq; have C1 := Has.cell B1; have F1 := Has.frozen B1)))))
      go_ret; refine ⟨rfl, ?_⟩; (repeat' (first | with_reducible exact lowRefl _ | with_reducible apply lowSet | with_reducible apply lowDrew | with_reducible apply lowDrewN | with_reducible apply lowAlloc | (with_reducible refine lowCall ?_ (by assumption)) | (show (_ : Nat) ≤ _; first | (simp; done) | (simp; omega) | omega)))
  · rw [dec_no (fun k => hS k.1)]
    have HSO : Hid (∀ w, PIn w v l → Calls Tryz.prog 59 #[v] w fun e w' => e = .returned (.tuple #[.nilIface, .bool false]) ∧ Below w.heap.size w w') := Lib.hid fun w h => shapeOf_no l v w h hn hS
    clear hl hS
    go_enter Tryz.func22, Tryz.ntmps22
    go_wp2_with (first | (go_at_call 59; (with_reducible refine (HSO.out _ (HL.out.below (lowAlloc (lowRefl w) _))).mono ?_); rintro e w' ⟨rfl, hbq⟩; (try (have B0 := Has.below (b := w.heap.size) (by repeat' (first | with_reducible assumption | with_reducible apply Has.new | with_reducible apply Has.new1 | with_reducible apply Has.new2 | with_reducible apply Has.new3 | with_reducible apply Has.new4 | with_reducible apply Has.drew | with_reducible apply Has.drewN | with_reducible apply Has.alloc | with_reducible apply Has.same | with_reducible apply Has.other | (with_reducible show _ ≠ _; first | omega | (simp; done)))) hbq; have C0 := Has.cell B0; have F0 := Has.frozen B0)); (try (have B1 := Has.below (b := w.heap.size + 1) (by repeat' (first | with_reducible assumption | with_reducible apply Has.new | with_reducible apply Has.new1 | with_reducible apply Has.new2 | with_reducible apply Has.new3 | with_reducible apply Has.new4 | with_reducible apply Has.drew | with_reducible apply Has.drewN | with_reducible apply Has.alloc | with_reducible apply Has.same | with_reducible apply Has.other | (with_reducible show _ ≠ _; first | omega | (simp; done)))) hbq; have C1 := Has.cell B1; have F1 := Has.frozen B1))))
    go_ret; refine ⟨rfl, ?_⟩; (repeat' (first | with_reducible exact lowRefl _ | with_reducible apply lowSet | with_reducible apply lowDrew | with_reducible apply lowDrewN | with_reducible apply lowAlloc | (with_reducible refine lowCall ?_ (by assumption)) | (show (_ : Nat) ≤ _; first | (simp; done) | (simp; omega) | omega)))
end Go.Proofs.YtckenfomnenknaaGreat
