import Derived.Test.YtckenfomnenknaaGreatMrkc
import Derived.Test.YtckenfomnenknaaGreatSpTc
namespace Go.Proofs.YtckenfomnenknaaGreat
open Go.ChangeShapes Go.WideShapes Go.ChangeAt Go.RowKit
set_option linter.unusedSimpArgs false
set_option linter.unusedVariables false
set_option maxHeartbeats 8000000

attribute [local go_sem] VGo_value VGo_skip VGo_enter
/- the numbers from K on in a part -/
def b3 (k : Int) : Bool := k % 3 == 0
def pm (K : Int) : Pt := ⟨K, ⟨K + 1, K + 2, K + 3, K + 4⟩, ⟨K + 5, K + 6, K + 7, K + 8⟩, ⟨K + 9, K + 10, K + 11, K + 12, K + 13, K + 14⟩, ⟨K + 15, K + 16, K + 17, b3 (K + 18), b3 (K + 19), b3 (K + 20), K + 21, K + 22, K + 23⟩, K + 24, K + 25, K + 26⟩
def pms (K : Int) (n : Nat) : List Pt := (List.range n).map fun (j : Nat) => pm (K + 27 * j)
theorem pms_len (K : Int) (n : Nat) : (pms K n).length = n := by simp [pms]
theorem pms_succ (K : Int) (n : Nat) : pms K (n + 1) = pms K n ++ [pm (K + 27 * n)] := by simp [pms, List.range_succ]
theorem pms_set (K : Int) (l : List Pt) (j : Nat) (h : j < l.length) : (pms K j ++ l.drop j).set j (pm (K + 27 * j)) = pms K (j + 1) ++ l.drop (j + 1) := by
  rw [List.set_append_right _ _ (by rw [pms_len]; exact Nat.le_refl _), pms_len, Nat.sub_self, List.drop_eq_getElem_cons h, List.set_cons_zero, pms_succ, List.append_assoc]
  rfl
theorem pm_ax (K : Int) (t : Nat) (h : t < 3) : (pm K).cells[15 + t]? = some (.int .i64 (K + 15 + t)) := by
  obtain rfl | rfl | rfl : t = 0 ∨ t = 1 ∨ t = 2 := by omega
  · show some (Value.int .i64 (K + 15)) = _; congr 2; omega
  · show some (Value.int .i64 (K + 16)) = _; congr 2; omega
  · show some (Value.int .i64 (K + 17)) = _; congr 2; omega
theorem pm_bk (K : Int) (t : Nat) (h : t < 3) : (pm K).cells[18 + t]? = some (.bool (b3 (K + 18 + t))) := by
  obtain rfl | rfl | rfl : t = 0 ∨ t = 1 ∨ t = 2 := by omega
  · show some (Value.bool (b3 (K + 18))) = _; rw [show K + 18 + ((0 : Nat) : Int) = K + 18 by omega]
  · show some (Value.bool (b3 (K + 19))) = _; rw [show K + 18 + ((1 : Nat) : Int) = K + 19 by omega]
  · show some (Value.bool (b3 (K + 20))) = _; rw [show K + 18 + ((2 : Nat) : Int) = K + 20 by omega]
set_option maxRecDepth 100000 in
theorem markPartS_any (l : List Pt) (v : Value) (B : Nat) (K : Int) (w : World) (h0 : 0 ≤ K) (hl : K + 27 * l.length ≤ 9223372036854775807) (hA : PRow w B v l) :
    Calls Tryz.prog 47 #[v, .int .i64 K] w fun e w' => e = .returned (.int .i64 (K + 27 * l.length)) ∧ PRow w' B v (pms K l.length) ∧ w.grownBy w' v.ownBlock := by
  obtain ⟨A, c, rfl, fA, -⟩ := hA.shape
  rw [List.length_map] at hA fA ⊢
  go_enter Tryz.func47, Tryz.ntmps47
  go_wp2
  go_loopw [1, 5] (fun k i wr => ∃ j : Nat, j ≤ l.length ∧ i = .int .i64 j ∧ k = .int .i64 (K + 27 * j) ∧ PRow wr B (.slice A l.length c) (pms K j ++ l.drop j) ∧ w.grownBy wr (Value.slice A l.length c).ownBlock) (fun _ i _ => l.length - (intOf i).toNat)
  case atStart => exact ⟨0, by omega, rfl, by simp, by simpa [pms] using hA, World.grownBy.refl _ _⟩
  case round =>
    obtain ⟨j, hj, rfl, rfl, hr, hg⟩ := hrel
    by_cases hc : j < l.length
    · obtain ⟨g, rfl, _, _⟩ := fA (by omega)
      have hlen : l.length = ((pms K j ++ l.drop j).map Pt.cells).length := by simp [pms_len]; omega
      have hjl : j < ((pms K j ++ l.drop j).map Pt.cells).length := by omega
      have hms := pms_set K l j hc
      have hd := Mk.start hr hjl (M := (pm (K + 27 * j)).cells)
      have hgw : w.grownBy wr (some g) := hg
      have HMS := Lib.hid hms
      have HLEN := Lib.hid hlen
      have HJL := Lib.hid hjl
      have hK1 : 0 ≤ K + 27 * (j : Int) := by omega
      have hK2 : K + 27 * (j : Int) + 27 ≤ 9223372036854775807 := by omega
      clear hr hg hlen hjl hms
      generalize hkj : K + 27 * (j : Int) = kj at hd hK1 hK2 HMS ⊢
      have HKJ := Lib.hid hkj
      have hlb : (l.length : Int) ≤ 400000000000000000 := by omega
      clear hkj hA fA h0 hl
      obtain ⟨o0, q0⟩ := Mk.cell hd HLEN.out HJL.out 0 (by omega)
      have z0 := Mk.frozen hd HLEN.out
      have s0 := Mk.step hd HLEN.out HJL.out (c := 0) (by omega) (.int .i64 kj) rfl
      rw [Nat.add_zero] at q0 s0
      have S0 := Lib.hid s0
      clear s0
      go_upto_region 5 with fail
      refine (fun (k : ∀ wm, Mk wm B 95 27 (.slice (some ⟨g, 0, none⟩) l.length c) ((pms K j ++ l.drop j).map Pt.cells) j (pm kj).cells 1 → w.grownBy wm (some g) → Code.wp _ _ _ _ wm) => k _ S0.out.1 (by_trans hgw S0.out.2)) ?_
      clear S0 q0 z0 hd hgw
      clear wr
      intro wr hd hgw
      go_upto_region 6 with fail
      obtain ⟨o1, q1⟩ := Mk.cell hd HLEN.out HJL.out 1 (by omega)
      have z1 := Mk.frozen hd HLEN.out
      have s1 := Mk.step hd HLEN.out HJL.out (c := 1) (by omega) (.int .i64 (kj + 1)) rfl
      have S1 := Lib.hid s1
      clear s1
      go_upto_region 7 with fail
      refine (fun (k : ∀ wm, Mk wm B 95 27 (.slice (some ⟨g, 0, none⟩) l.length c) ((pms K j ++ l.drop j).map Pt.cells) j (pm kj).cells 2 → w.grownBy wm (some g) → Code.wp _ _ _ _ wm) => k _ S1.out.1 (by_trans hgw S1.out.2)) ?_
      clear S1 q1 z1 hd hgw
      clear wr
      intro wr hd hgw
      go_upto_region 8 with fail
      rw [show kj + 1 + 1 = kj + 2 by omega]
      obtain ⟨o2, q2⟩ := Mk.cell hd HLEN.out HJL.out 2 (by omega)
      have z2 := Mk.frozen hd HLEN.out
      have s2 := Mk.step hd HLEN.out HJL.out (c := 2) (by omega) (.int .i64 (kj + 2)) rfl
      have S2 := Lib.hid s2
      clear s2
      go_upto_region 9 with fail
      refine (fun (k : ∀ wm, Mk wm B 95 27 (.slice (some ⟨g, 0, none⟩) l.length c) ((pms K j ++ l.drop j).map Pt.cells) j (pm kj).cells 3 → w.grownBy wm (some g) → Code.wp _ _ _ _ wm) => k _ S2.out.1 (by_trans hgw S2.out.2)) ?_
      clear S2 q2 z2 hd hgw
      clear wr
      intro wr hd hgw
      go_upto_region 10 with fail
      rw [show kj + 2 + 1 = kj + 3 by omega]
      obtain ⟨o3, q3⟩ := Mk.cell hd HLEN.out HJL.out 3 (by omega)
      have z3 := Mk.frozen hd HLEN.out
      have s3 := Mk.step hd HLEN.out HJL.out (c := 3) (by omega) (.int .i64 (kj + 3)) rfl
      have S3 := Lib.hid s3
      clear s3
      go_upto_region 11 with fail
      refine (fun (k : ∀ wm, Mk wm B 95 27 (.slice (some ⟨g, 0, none⟩) l.length c) ((pms K j ++ l.drop j).map Pt.cells) j (pm kj).cells 4 → w.grownBy wm (some g) → Code.wp _ _ _ _ wm) => k _ S3.out.1 (by_trans hgw S3.out.2)) ?_
      clear S3 q3 z3 hd hgw
      clear wr
      intro wr hd hgw
      go_upto_region 12 with fail
      rw [show kj + 3 + 1 = kj + 4 by omega]
      obtain ⟨o4, q4⟩ := Mk.cell hd HLEN.out HJL.out 4 (by omega)
      have z4 := Mk.frozen hd HLEN.out
      have s4 := Mk.step hd HLEN.out HJL.out (c := 4) (by omega) (.int .i64 (kj + 4)) rfl
      have S4 := Lib.hid s4
      clear s4
      go_upto_region 13 with fail
      refine (fun (k : ∀ wm, Mk wm B 95 27 (.slice (some ⟨g, 0, none⟩) l.length c) ((pms K j ++ l.drop j).map Pt.cells) j (pm kj).cells 5 → w.grownBy wm (some g) → Code.wp _ _ _ _ wm) => k _ S4.out.1 (by_trans hgw S4.out.2)) ?_
      clear S4 q4 z4 hd hgw
      clear wr
      intro wr hd hgw
      go_upto_region 14 with fail
      rw [show kj + 4 + 1 = kj + 5 by omega]
      obtain ⟨o5, q5⟩ := Mk.cell hd HLEN.out HJL.out 5 (by omega)
      have z5 := Mk.frozen hd HLEN.out
      have s5 := Mk.step hd HLEN.out HJL.out (c := 5) (by omega) (.int .i64 (kj + 5)) rfl
      have S5 := Lib.hid s5
      clear s5
      go_upto_region 15 with fail
      refine (fun (k : ∀ wm, Mk wm B 95 27 (.slice (some ⟨g, 0, none⟩) l.length c) ((pms K j ++ l.drop j).map Pt.cells) j (pm kj).cells 6 → w.grownBy wm (some g) → Code.wp _ _ _ _ wm) => k _ S5.out.1 (by_trans hgw S5.out.2)) ?_
      clear S5 q5 z5 hd hgw
      clear wr
      intro wr hd hgw
      go_upto_region 16 with fail
      rw [show kj + 5 + 1 = kj + 6 by omega]
      obtain ⟨o6, q6⟩ := Mk.cell hd HLEN.out HJL.out 6 (by omega)
      have z6 := Mk.frozen hd HLEN.out
      have s6 := Mk.step hd HLEN.out HJL.out (c := 6) (by omega) (.int .i64 (kj + 6)) rfl
      have S6 := Lib.hid s6
      clear s6
      go_upto_region 17 with fail
      refine (fun (k : ∀ wm, Mk wm B 95 27 (.slice (some ⟨g, 0, none⟩) l.length c) ((pms K j ++ l.drop j).map Pt.cells) j (pm kj).cells 7 → w.grownBy wm (some g) → Code.wp _ _ _ _ wm) => k _ S6.out.1 (by_trans hgw S6.out.2)) ?_
      clear S6 q6 z6 hd hgw
      clear wr
      intro wr hd hgw
      go_upto_region 18 with fail
      rw [show kj + 6 + 1 = kj + 7 by omega]
      obtain ⟨o7, q7⟩ := Mk.cell hd HLEN.out HJL.out 7 (by omega)
      have z7 := Mk.frozen hd HLEN.out
      have s7 := Mk.step hd HLEN.out HJL.out (c := 7) (by omega) (.int .i64 (kj + 7)) rfl
      have S7 := Lib.hid s7
      clear s7
      go_upto_region 19 with fail
      refine (fun (k : ∀ wm, Mk wm B 95 27 (.slice (some ⟨g, 0, none⟩) l.length c) ((pms K j ++ l.drop j).map Pt.cells) j (pm kj).cells 8 → w.grownBy wm (some g) → Code.wp _ _ _ _ wm) => k _ S7.out.1 (by_trans hgw S7.out.2)) ?_
      clear S7 q7 z7 hd hgw
      clear wr
      intro wr hd hgw
      go_upto_region 20 with fail
      rw [show kj + 7 + 1 = kj + 8 by omega]
      obtain ⟨o8, q8⟩ := Mk.cell hd HLEN.out HJL.out 8 (by omega)
      have z8 := Mk.frozen hd HLEN.out
      have s8 := Mk.step hd HLEN.out HJL.out (c := 8) (by omega) (.int .i64 (kj + 8)) rfl
      have S8 := Lib.hid s8
      clear s8
      go_upto_region 21 with fail
      refine (fun (k : ∀ wm, Mk wm B 95 27 (.slice (some ⟨g, 0, none⟩) l.length c) ((pms K j ++ l.drop j).map Pt.cells) j (pm kj).cells 9 → w.grownBy wm (some g) → Code.wp _ _ _ _ wm) => k _ S8.out.1 (by_trans hgw S8.out.2)) ?_
      clear S8 q8 z8 hd hgw
      clear wr
      intro wr hd hgw
      go_upto_region 22 with fail
      rw [show kj + 8 + 1 = kj + 9 by omega]
      obtain ⟨o9, q9⟩ := Mk.cell hd HLEN.out HJL.out 9 (by omega)
      have z9 := Mk.frozen hd HLEN.out
      have s9 := Mk.step hd HLEN.out HJL.out (c := 9) (by omega) (.int .i64 (kj + 9)) rfl
      have S9 := Lib.hid s9
      clear s9
      go_upto_region 23 with fail
      refine (fun (k : ∀ wm, Mk wm B 95 27 (.slice (some ⟨g, 0, none⟩) l.length c) ((pms K j ++ l.drop j).map Pt.cells) j (pm kj).cells 10 → w.grownBy wm (some g) → Code.wp _ _ _ _ wm) => k _ S9.out.1 (by_trans hgw S9.out.2)) ?_
      clear S9 q9 z9 hd hgw
      clear wr
      intro wr hd hgw
      go_upto_region 24 with fail
      rw [show kj + 9 + 1 = kj + 10 by omega]
      obtain ⟨o10, q10⟩ := Mk.cell hd HLEN.out HJL.out 10 (by omega)
      have z10 := Mk.frozen hd HLEN.out
      have s10 := Mk.step hd HLEN.out HJL.out (c := 10) (by omega) (.int .i64 (kj + 10)) rfl
      have S10 := Lib.hid s10
      clear s10
      go_upto_region 25 with fail
      refine (fun (k : ∀ wm, Mk wm B 95 27 (.slice (some ⟨g, 0, none⟩) l.length c) ((pms K j ++ l.drop j).map Pt.cells) j (pm kj).cells 11 → w.grownBy wm (some g) → Code.wp _ _ _ _ wm) => k _ S10.out.1 (by_trans hgw S10.out.2)) ?_
      clear S10 q10 z10 hd hgw
      clear wr
      intro wr hd hgw
      go_upto_region 26 with fail
      rw [show kj + 10 + 1 = kj + 11 by omega]
      obtain ⟨o11, q11⟩ := Mk.cell hd HLEN.out HJL.out 11 (by omega)
      have z11 := Mk.frozen hd HLEN.out
      have s11 := Mk.step hd HLEN.out HJL.out (c := 11) (by omega) (.int .i64 (kj + 11)) rfl
      have S11 := Lib.hid s11
      clear s11
      go_upto_region 27 with fail
      refine (fun (k : ∀ wm, Mk wm B 95 27 (.slice (some ⟨g, 0, none⟩) l.length c) ((pms K j ++ l.drop j).map Pt.cells) j (pm kj).cells 12 → w.grownBy wm (some g) → Code.wp _ _ _ _ wm) => k _ S11.out.1 (by_trans hgw S11.out.2)) ?_
      clear S11 q11 z11 hd hgw
      clear wr
      intro wr hd hgw
      go_upto_region 28 with fail
      rw [show kj + 11 + 1 = kj + 12 by omega]
      obtain ⟨o12, q12⟩ := Mk.cell hd HLEN.out HJL.out 12 (by omega)
      have z12 := Mk.frozen hd HLEN.out
      have s12 := Mk.step hd HLEN.out HJL.out (c := 12) (by omega) (.int .i64 (kj + 12)) rfl
      have S12 := Lib.hid s12
      clear s12
      go_upto_region 29 with fail
      refine (fun (k : ∀ wm, Mk wm B 95 27 (.slice (some ⟨g, 0, none⟩) l.length c) ((pms K j ++ l.drop j).map Pt.cells) j (pm kj).cells 13 → w.grownBy wm (some g) → Code.wp _ _ _ _ wm) => k _ S12.out.1 (by_trans hgw S12.out.2)) ?_
      clear S12 q12 z12 hd hgw
      clear wr
      intro wr hd hgw
      go_upto_region 30 with fail
      rw [show kj + 12 + 1 = kj + 13 by omega]
      obtain ⟨o13, q13⟩ := Mk.cell hd HLEN.out HJL.out 13 (by omega)
      have z13 := Mk.frozen hd HLEN.out
      have s13 := Mk.step hd HLEN.out HJL.out (c := 13) (by omega) (.int .i64 (kj + 13)) rfl
      have S13 := Lib.hid s13
      clear s13
      go_upto_region 31 with fail
      refine (fun (k : ∀ wm, Mk wm B 95 27 (.slice (some ⟨g, 0, none⟩) l.length c) ((pms K j ++ l.drop j).map Pt.cells) j (pm kj).cells 14 → w.grownBy wm (some g) → Code.wp _ _ _ _ wm) => k _ S13.out.1 (by_trans hgw S13.out.2)) ?_
      clear S13 q13 z13 hd hgw
      clear wr
      intro wr hd hgw
      go_upto_region 32 with fail
      rw [show kj + 13 + 1 = kj + 14 by omega]
      obtain ⟨o14, q14⟩ := Mk.cell hd HLEN.out HJL.out 14 (by omega)
      have z14 := Mk.frozen hd HLEN.out
      have s14 := Mk.step hd HLEN.out HJL.out (c := 14) (by omega) (.int .i64 (kj + 14)) rfl
      have S14 := Lib.hid s14
      clear s14
      go_upto_region 33 with fail
      refine (fun (k : ∀ wm, Mk wm B 95 27 (.slice (some ⟨g, 0, none⟩) l.length c) ((pms K j ++ l.drop j).map Pt.cells) j (pm kj).cells 15 → w.grownBy wm (some g) → Code.wp _ _ _ _ wm) => k _ S14.out.1 (by_trans hgw S14.out.2)) ?_
      clear S14 q14 z14 hd hgw
      clear wr
      intro wr hd hgw
      go_upto_region 34 with fail
      rw [show kj + 14 + 1 = kj + 15 by omega]
      go_wp2
      go_loopw [1, 6] (fun kv tv wm => ∃ t : Nat, t ≤ 3 ∧ tv = .int .i64 t ∧ kv = .int .i64 (kj + 15 + t) ∧ Mk wm B 95 27 (.slice (some ⟨g, 0, none⟩) l.length c) ((pms K j ++ l.drop j).map Pt.cells) j (pm kj).cells (15 + t) ∧ w.grownBy wm (some g)) (fun _ tv _ => 3 - (intOf tv).toNat)
      case atStart => exact ⟨0, by omega, rfl, by simp, hd, hgw⟩
      case round =>
        clear hd hgw
        obtain ⟨t, ht, rfl, rfl, hd, hgw⟩ := hrel
        by_cases h3 : t < 3
        · obtain ⟨ot, qt⟩ := Mk.cell hd HLEN.out HJL.out (15 + t) (by omega)
          have zt := Mk.frozen hd HLEN.out
          have st := Mk.step hd HLEN.out HJL.out (c := 15 + t) (by omega) (.int .i64 (kj + 15 + t)) (pm_ax kj t h3)
          rw [← Nat.add_assoc] at qt
          rw [← Nat.add_assoc (j * 27)] at st
          have ST := Lib.hid st
          clear st
          go_wp2
          go_roundw
          case rel => exact ⟨t + 1, by omega, by go_num, by go_num, ST.out.1, by_trans hgw ST.out.2⟩
          case measure => simp [intOf]; omega
        · obtain rfl : t = 3 := by omega
          rw [show kj + 15 + ((3 : Nat) : Int) = kj + 18 by omega]
          go_upto_region 39 with fail
          go_wp2
          go_loopw [1, 7] (fun kv tv wm => ∃ t : Nat, t ≤ 3 ∧ tv = .int .i64 t ∧ kv = .int .i64 (kj + 18 + t) ∧ Mk wm B 95 27 (.slice (some ⟨g, 0, none⟩) l.length c) ((pms K j ++ l.drop j).map Pt.cells) j (pm kj).cells (18 + t) ∧ w.grownBy wm (some g)) (fun _ tv _ => 3 - (intOf tv).toNat)
          case atStart => exact ⟨0, by omega, rfl, by simp, hd, hgw⟩
          case round =>
            clear hd hgw
            obtain ⟨t, ht, rfl, rfl, hd, hgw⟩ := hrel
            by_cases h3 : t < 3
            · obtain ⟨ot, qt⟩ := Mk.cell hd HLEN.out HJL.out (18 + t) (by omega)
              have zt := Mk.frozen hd HLEN.out
              have st := Mk.step hd HLEN.out HJL.out (c := 18 + t) (by omega) (.bool (b3 (kj + 18 + t))) (pm_bk kj t h3)
              rw [show j * 27 + (18 + t) = j * 27 + 15 + 3 + t by omega] at qt st
              have ST := Lib.hid st
              clear st
              go_wp2
              go_roundw
              case rel => exact ⟨t + 1, by omega, by go_num, by go_num, ST.out.1, by_trans hgw ST.out.2⟩
              case measure => simp [intOf]; omega
            · obtain rfl : t = 3 := by omega
              rw [show kj + 18 + ((3 : Nat) : Int) = kj + 21 by omega]
              go_upto_region 44 with fail
              obtain ⟨o21, q21⟩ := Mk.cell hd HLEN.out HJL.out 21 (by omega)
              have z21 := Mk.frozen hd HLEN.out
              have s21 := Mk.step hd HLEN.out HJL.out (c := 21) (by omega) (.int .i64 (kj + 21)) rfl
              have S21 := Lib.hid s21
              clear s21
              go_upto_region 45 with fail
              refine (fun (k : ∀ wm, Mk wm B 95 27 (.slice (some ⟨g, 0, none⟩) l.length c) ((pms K j ++ l.drop j).map Pt.cells) j (pm kj).cells 22 → w.grownBy wm (some g) → Code.wp _ _ _ _ wm) => k _ S21.out.1 (by_trans hgw S21.out.2)) ?_
              clear S21 q21 z21 hd hgw
              clear wr
              intro wr hd hgw
              go_upto_region 46 with fail
              rw [show kj + 21 + 1 = kj + 22 by omega]
              obtain ⟨o22, q22⟩ := Mk.cell hd HLEN.out HJL.out 22 (by omega)
              have z22 := Mk.frozen hd HLEN.out
              have s22 := Mk.step hd HLEN.out HJL.out (c := 22) (by omega) (.int .i64 (kj + 22)) rfl
              have S22 := Lib.hid s22
              clear s22
              go_upto_region 47 with fail
              refine (fun (k : ∀ wm, Mk wm B 95 27 (.slice (some ⟨g, 0, none⟩) l.length c) ((pms K j ++ l.drop j).map Pt.cells) j (pm kj).cells 23 → w.grownBy wm (some g) → Code.wp _ _ _ _ wm) => k _ S22.out.1 (by_trans hgw S22.out.2)) ?_
              clear S22 q22 z22 hd hgw
              clear wr
              intro wr hd hgw
              go_upto_region 48 with fail
              rw [show kj + 22 + 1 = kj + 23 by omega]
              obtain ⟨o23, q23⟩ := Mk.cell hd HLEN.out HJL.out 23 (by omega)
              have z23 := Mk.frozen hd HLEN.out
              have s23 := Mk.step hd HLEN.out HJL.out (c := 23) (by omega) (.int .i64 (kj + 23)) rfl
              have S23 := Lib.hid s23
              clear s23
              go_upto_region 49 with fail
              refine (fun (k : ∀ wm, Mk wm B 95 27 (.slice (some ⟨g, 0, none⟩) l.length c) ((pms K j ++ l.drop j).map Pt.cells) j (pm kj).cells 24 → w.grownBy wm (some g) → Code.wp _ _ _ _ wm) => k _ S23.out.1 (by_trans hgw S23.out.2)) ?_
              clear S23 q23 z23 hd hgw
              clear wr
              intro wr hd hgw
              go_upto_region 50 with fail
              rw [show kj + 23 + 1 = kj + 24 by omega]
              obtain ⟨o24, q24⟩ := Mk.cell hd HLEN.out HJL.out 24 (by omega)
              have z24 := Mk.frozen hd HLEN.out
              have s24 := Mk.step hd HLEN.out HJL.out (c := 24) (by omega) (.int .i64 (kj + 24)) rfl
              have S24 := Lib.hid s24
              clear s24
              go_upto_region 51 with fail
              refine (fun (k : ∀ wm, Mk wm B 95 27 (.slice (some ⟨g, 0, none⟩) l.length c) ((pms K j ++ l.drop j).map Pt.cells) j (pm kj).cells 25 → w.grownBy wm (some g) → Code.wp _ _ _ _ wm) => k _ S24.out.1 (by_trans hgw S24.out.2)) ?_
              clear S24 q24 z24 hd hgw
              clear wr
              intro wr hd hgw
              go_upto_region 52 with fail
              rw [show kj + 24 + 1 = kj + 25 by omega]
              obtain ⟨o25, q25⟩ := Mk.cell hd HLEN.out HJL.out 25 (by omega)
              have z25 := Mk.frozen hd HLEN.out
              have s25 := Mk.step hd HLEN.out HJL.out (c := 25) (by omega) (.int .i64 (kj + 25)) rfl
              have S25 := Lib.hid s25
              clear s25
              go_upto_region 53 with fail
              refine (fun (k : ∀ wm, Mk wm B 95 27 (.slice (some ⟨g, 0, none⟩) l.length c) ((pms K j ++ l.drop j).map Pt.cells) j (pm kj).cells 26 → w.grownBy wm (some g) → Code.wp _ _ _ _ wm) => k _ S25.out.1 (by_trans hgw S25.out.2)) ?_
              clear S25 q25 z25 hd hgw
              clear wr
              intro wr hd hgw
              go_upto_region 54 with fail
              rw [show kj + 25 + 1 = kj + 26 by omega]
              obtain ⟨o26, q26⟩ := Mk.cell hd HLEN.out HJL.out 26 (by omega)
              have z26 := Mk.frozen hd HLEN.out
              have s26 := Mk.step hd HLEN.out HJL.out (c := 26) (by omega) (.int .i64 (kj + 26)) rfl
              have S26 := Lib.hid s26
              clear s26
              go_upto_region 55 with fail
              refine (fun (k : ∀ wm, Mk wm B 95 27 (.slice (some ⟨g, 0, none⟩) l.length c) ((pms K j ++ l.drop j).map Pt.cells) j (pm kj).cells 27 → w.grownBy wm (some g) → Code.wp _ _ _ _ wm) => k _ S26.out.1 (by_trans hgw S26.out.2)) ?_
              clear S26 q26 z26 hd hgw
              clear wr
              intro wr hd hgw
              have hrow := Mk.done hd rfl
              rw [← List.map_set, HMS.out] at hrow
              go_wp2
              go_roundw
              case rel => exact ⟨j + 1, by omega, by go_num, by have := HKJ.out; simp; omega, hrow, hgw⟩
              case measure => simp [intOf]; omega
    · obtain rfl : j = l.length := by omega
      rw [List.drop_length, List.append_nil] at hr
      go_wp2
      go_ret
      exact ⟨rfl, hr, hg⟩
end Go.Proofs.YtckenfomnenknaaGreat
