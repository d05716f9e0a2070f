import Derived.Deep.Cut
import Derived.Test.YtegibpepdndocabGreatSpAk
namespace Go.Proofs.YtegibpepdndocabGreat
open Go.ChangeShapes Go.WideShapes Go.ChangeAt Go.RowKit
set_option linter.unusedSimpArgs false
set_option linter.unusedVariables false
set_option maxHeartbeats 2000000

attribute [local go_sem] VGo_value VGo_skip VGo_enter
attribute [local go_sem] Pt.arr0 Pt.arr1 Pt.arr2 Pt.arr3 Pt.arr4 Pt.arr5 Pt.arr6 Pt.arr7 Pt.arr8 Pt.arr9 Pt.arr10 Pt.arr11 Pt.arr12 Pt.arr13 Pt.arr14 Pt.arr15 Pt.arr16 Pt.arr17 Pt.arr18 Pt.arr19 Pt.arr20 Pt.arr21 Pt.arr22 Pt.arr23 Pt.arr24 Pt.arr25 Pt.arr26
attribute [-go_sem] loadVar storeVar
attribute [local go_sem] lvA svA lvMot
attribute [local go_sem high] ptLoadNew ptStoreNew
/- the model's form: the program's, and what moves is moved by motions -/
def SForm (l : List Pt) : Prop := Form l ∧ ∀ i, i < l.length → (pa l i).k = 6 → (pa l i).m.ok
theorem SForm.solid {l : List Pt} (h : SolidP l) : SForm l := ⟨h.1, fun i hi hk => (h.2.1 i hi hk).1⟩
theorem infoB : (Tryz.prog.info? 4).map (fun i => (i.zero, i.size, i.bytes)) = some (some (.bool false), 1, 1) := by kernel_rfl
/- a row that fills its block -/
theorem RowK.whole {w : World} {B K g n : Nat} {T : TypeId} {L : List (List Value)} (h : RowK w B T K (.slice (some ⟨g, 0, none⟩) n n) L) (hn : L.length = n) : ∃ cur, Has w g cur T ∧ cur.toList = L.flatten := by
  rcases h.own.2 with ⟨h0, _⟩ | ⟨g2, cap, cur, h0, _, hh, _, _, hs, ht⟩
  · cases h0
  · simp only [Value.slice.injEq, Option.some.injEq, Addr.mk.injEq] at h0
    obtain ⟨⟨rfl, _⟩, _, rfl⟩ := h0
    refine ⟨cur, hh, ?_⟩
    rw [← ht, hn, List.take_of_length_le (by rw [Array.length_toList, hs]; exact Nat.le_refl _)]
theorem cellsB_new (n : Nat) : (List.replicate n [Value.bool false]).flatten.toArray = cellsB n fun _ => false := by
  apply Array.ext'
  simp only [cellsB]
  induction n with
  | zero => rfl
  | succ n ih =>
    rw [List.replicate_succ', List.flatten_append, List.range_succ, List.map_append]
    simp only [List.flatten_cons, List.flatten_nil, List.append_nil, List.map_cons, List.map_nil]
    exact congrArg (· ++ [Value.bool false]) ih
set_option maxRecDepth 100000 in
theorem l7Form_any (l : List Pt) (v : Value) (w : World) (hl : PIn w v l) (hn : l.length ≤ 1048576) : Calls Tryz.prog 96 #[v] w fun e w' => e = .returned (.bool (dec (SForm l))) ∧ Below w.heap.size w w' := by
  obtain ⟨A, c, rfl, hf⟩ := hl
  have HF := Lib.hid hf
  clear hf
  go_enter Tryz.func96, Tryz.ntmps96
  go_wp2_with (refine make_k _ rfl _ _ 202 4 1 1 _ rfl Tryz.underlying202 infoB _ rfl rfl (by omega) w.heap.size l.length rfl rfl (by omega) (by omega) (Nat.le_refl _) ?_)
  intro w1 hr hg
  have hb := grown_none (lowRefl w) hg
  obtain ⟨cur, hcur, hce⟩ := hr.whole (by simp)
  have hB0 : Has w1 w.heap.size (cellsB l.length fun _ => false) 4 := Has.as hcur (by rw [← cellsB_new, ← hce])
  clear hg hr hcur hce
  go_wp2
  go_loopw [4] (fun i wr => ∃ j : Nat, j ≤ l.length ∧ i = .int .i64 j ∧ (∀ x, x < j → Good l x ∧ ((pa l x).k = 6 → (pa l x).m.ok)) ∧ Has wr w.heap.size (cellsB l.length (usd l j)) 4 ∧ Below w.heap.size w wr) (fun i _ => l.length - (intOf i).toNat)
  case atStart => exact ⟨0, by omega, rfl, fun x h => by omega, hB0, hb⟩
  case round =>
    clear hb hB0
    obtain ⟨j, hj, rfl, hg, hu, hb⟩ := hrel
    have HG := Lib.hid hg
    clear hg
    by_cases hc : j < l.length
    · obtain ⟨b, off, rfl, hr⟩ := HF.out (by omega)
      have LD := ((hr j hc).below hb).load
      have hpa := pa_get l j hc
      clear hr
      have hno : ¬ (Good l j ∧ ((pa l j).k = 6 → (pa l j).m.ok)) → dec (SForm l) = false := fun h => dec_no fun k => h ⟨k.1.2.1 j hc, k.2 j hc⟩
      generalize hp : l[j] = p at LD hpa
      have hgd : Good l j ↔ PtP p ∧ Lks (usd l j) j (made p) := ⟨fun h => by have := h hc; rwa [hp] at this, fun h _ => by rw [hp]; exact h⟩
      rw [hpa, hgd] at hno
      have HNO := Lib.hid hno
      have HGD := Lib.hid hgd
      have HPA := Lib.hid hpa
      have HP := Lib.hid hp
      clear hno hgd hpa hp
      by_cases hk : 0 ≤ p.k ∧ p.k ≤ 6
      · obtain ⟨hk0, hk6⟩ := hk
        have HC := Lib.hid (fun w => l7Bare_any p w ⟨hk0, hk6⟩)
        by_cases hbr : peq p p.bare = true
        · have HBR := Lib.hid hbr
          have HC2 : Hid (∀ w, Calls Tryz.prog 166 #[p.val] w fun e w' => e = .returned (.bool true) ∧ Below w.heap.size w w') := Lib.hid fun w => by have := HC.out w; rwa [hbr] at this
          clear hbr HC
          by_cases hS : 0 ≤ p.S ∧ p.S ≤ 7
          · obtain ⟨hS0, hS7⟩ := hS
            go_upto_region 8 with (first | (go_at_call 72; ((with_reducible refine (l1In_yes p.k _ _ _ hk0 hk6).mono ?_); rintro e w' ⟨rfl, rfl⟩)) | ((go_at_call 166; ((with_reducible refine (HC2.out _).mono ?_); rintro e w2 ⟨rfl, hbq⟩)); have CP := Has.cell ((Has.new wr p.arr 49).below hbq)) | (go_at_call 72; ((with_reducible refine (l1In_yes p.S _ _ _ hS0 hS7).mono ?_); rintro e w' ⟨rfl, rfl⟩)))
            have hbw := lowAlloc hb (.cells p.arr 49)
            have BP := (Has.new wr p.arr 49).below hbq
            have BU := (hu.alloc (.cells p.arr 49)).below hbq
            have hL := lowCall hbw hbq
            have hlt := hu.lt
            clear hbq CP hbw hu hb LD HC2
            generalize wr.heap.size = bP at BP hlt ⊢
            clear wr
            have CP := Has.cell BP
            have PP := ptLoad _ BP
            have LMM := ptMove BP
            by_cases h2 : p.k ≤ 2
            · have hmd := made_none p (.inl (by omega))
              by_cases hlf : LeafP p
              · have HC3 : Hid (∀ w, Calls Tryz.prog 98 #[p.val] w fun e w' => e = .returned (.bool true) ∧ Below w.heap.size w w') := Lib.hid fun w => by have := l7Leaf_any p w ⟨hk0, h2⟩; rwa [dec_yes hlf] at this
                have HG1 := Lib.hid (HGD.out.2 ⟨⟨⟨hk0, hk6⟩, fun _ => ⟨⟨hS0, hS7⟩, hlf⟩, HBR.out⟩, by rw [hmd]; trivial⟩)
                have HU1 : Hid (usd l (j + 1) = usd l j) := Lib.hid (by rw [usd_succ l j hc, HP.out, hmd]; rfl)
                clear hlf hmd
                go_wp2_with ((go_at_call 98; ((with_reducible refine (HC3.out _).mono ?_); rintro e w2 ⟨rfl, hbq⟩)))
                go_roundw
                case rel => exact ⟨j + 1, by omega, by go_num, fun x hx => by
                  by_cases e : x = j
                  · subst e; exact ⟨HG1.out, fun h6 => by rw [HPA.out] at h6; omega⟩
                  · exact HG.out x (by omega), by rw [HU1.out]; exact BU.below hbq, lowCall hL hbq⟩
                case measure => simp [intOf]; omega
              · have HC3 : Hid (∀ w, Calls Tryz.prog 98 #[p.val] w fun e w' => e = .returned (.bool false) ∧ Below w.heap.size w w') := Lib.hid fun w => by have := l7Leaf_any p w ⟨hk0, h2⟩; rwa [dec_no hlf] at this
                have HN := Lib.hid (HNO.out fun k => hlf (k.1.1.2.1 h2).2)
                clear hlf hmd
                go_wp2_with ((go_at_call 98; ((with_reducible refine (HC3.out _).mono ?_); rintro e w2 ⟨rfl, hbq⟩)))
                go_ret
                exact ⟨by rw [HN.out]; rfl, lowCall hL hbq⟩
            · have h3 : 3 ≤ p.k := by omega
              have hPt : PtP p := ⟨⟨hk0, hk6⟩, fun h => by omega, HBR.out⟩
              have HPt := Lib.hid hPt
              clear hPt
              by_cases hr : 0 ≤ p.A ∧ p.A < j
              · obtain ⟨an, han⟩ : ∃ an : Nat, p.A = an := ⟨p.A.toNat, by omega⟩
                have haj : an < j := by omega
                have CU := (Has.cell BU an).trans (cellsB_get l.length _ an (by omega))
                by_cases hv : usd l j an = true
                · have HN := Lib.hid (HNO.out fun k => by
                    have h4 := k.1.2
                    by_cases h6 : p.k = 6
                    · rw [made_one p h6, Lks, han] at h4
                      have h5 := h4.2.1
                      rw [Int.toNat_natCast, hv] at h5; cases h5
                    · rw [made_two p h3 (by omega), Lks, han] at h4
                      have h5 := h4.2.1
                      rw [Int.toNat_natCast, hv] at h5; cases h5)
                  rw [hv] at CU
                  clear hv hr
                  go_wp2_with ((go_at_call 72; ((with_reducible refine (l1In_yes _ _ _ _ (by omega) (by omega)).mono ?_); rintro e w' ⟨rfl, rfl⟩)))
                  go_ret
                  exact ⟨by rw [HN.out]; rfl, hL⟩
                · have hv2 : usd l j an = false := by simpa using hv
                  rw [hv2] at CU
                  have HV := Lib.hid hv2
                  have HAN := Lib.hid han
                  have FU := Has.frozen BU
                  clear hr hv hv2
                  by_cases h6 : p.k = 6
                  · have hmd := Lib.hid (made_one p h6)
                    by_cases hmo : p.m.ok
                    · have HC4 : Hid (∀ w, Calls Tryz.prog 167 #[p.m.val] w fun e w' => e = .returned (.bool true) ∧ Below w.heap.size w w') := Lib.hid fun w => smotOk_yes _ _ _ _ _ _ _ _ _ w hmo
                      have HMO := Lib.hid hmo
                      clear hmo
                      go_upto_region 13 with (first | (go_at_call 72; ((with_reducible refine (l1In_yes _ _ _ _ (by omega) (by omega)).mono ?_); rintro e w' ⟨rfl, rfl⟩)) | (go_at_call 167; ((with_reducible refine (HC4.out _).mono ?_); rintro e w2 ⟨rfl, hbq⟩)))
                      have BP2 := BP.below hbq
                      have BU2 := BU.below hbq
                      have hL2 := lowCall hL hbq
                      clear BP BU hL hbq CP PP LMM CU FU
                      have CP := Has.cell BP2
                      have CU := Has.cell BU2 an
                      rw [cellsB_get l.length _ an (by omega)] at CU
                      have FU := Has.frozen BU2
                      go_wp2_with ((go_at_call 118; ((with_reducible refine (l7Two_no _ _ (.inr (by omega))).mono ?_); rintro e w' ⟨rfl, rfl⟩)))
                      go_roundw
                      case rel => exact ⟨j + 1, by omega, by go_num, fun x hx => by
                        by_cases e : x = j
                        · subst e
                          refine ⟨HGD.out.2 ⟨HPt.out, ?_⟩, fun _ => by rw [HPA.out]; exact HMO.out⟩
                          rw [hmd.out, Lks]
                          exact ⟨⟨by have := HAN.out; omega, by have := HAN.out; omega⟩, by rw [HAN.out, Int.toNat_natCast]; exact HV.out, trivial⟩
                        · exact HG.out x (by omega), by
                          rw [usd_succ l j hc, HP.out, hmd.out]
                          exact Has.as (BU2.same _ _) (cellsB_set _ _ _ _ HAN.out.symm), lowSet hL2 (Nat.le_refl _) _⟩
                      case measure => simp [intOf]; omega
                    · have HC4 : Hid (∀ w, Calls Tryz.prog 167 #[p.m.val] w fun e w' => e = .returned (.bool false) ∧ Below w.heap.size w w') := Lib.hid fun w => smotOk_no _ _ _ _ _ _ _ _ _ w hmo
                      have HN := Lib.hid (HNO.out fun k => hmo (k.2 h6))
                      clear hmo
                      go_wp2_with (first | (go_at_call 72; ((with_reducible refine (l1In_yes _ _ _ _ (by omega) (by omega)).mono ?_); rintro e w' ⟨rfl, rfl⟩)) | (go_at_call 167; ((with_reducible refine (HC4.out _).mono ?_); rintro e w2 ⟨rfl, hbq⟩)))
                      go_ret
                      exact ⟨by rw [HN.out]; rfl, lowCall hL hbq⟩
                  · have h5 : p.k ≤ 5 := by omega
                    have hmd := Lib.hid (made_two p h3 h5)
                    go_upto_region 15 with (first | (go_at_call 72; ((with_reducible refine (l1In_yes _ _ _ _ (by omega) (by omega)).mono ?_); rintro e w' ⟨rfl, rfl⟩)) | (go_at_call 118; ((with_reducible refine (l7Two_yes _ _ h3 h5).mono ?_); rintro e w' ⟨rfl, rfl⟩)))
                    have hL2 := lowSet (p := ⟨w.heap.size, an, none⟩) hL (Nat.le_refl _) (.bool true)
                    have BU2 := Has.as (BU.same an (.bool true)) (cellsB_set _ _ _ _ HAN.out.symm)
                    have BP2 := Has.other (b' := w.heap.size) (by omega) BP an (.bool true)
                    clear BP BU hL CP PP LMM CU FU
                    generalize w2.setCell ⟨w.heap.size, an, none⟩ (.bool true) = V at BU2 BP2 hL2 ⊢
                    clear w2
                    have CP := Has.cell BP2
                    by_cases hr2 : 0 ≤ p.B ∧ p.B < j
                    · obtain ⟨bn, hbn⟩ : ∃ bn : Nat, p.B = bn := ⟨p.B.toNat, by omega⟩
                      have hbj : bn < j := by omega
                      have CU := (Has.cell BU2 bn).trans (cellsB_get l.length _ bn (by omega))
                      by_cases hv : mrk (usd l j) p.A bn = true
                      · have HN := Lib.hid (HNO.out fun k => by
                          have h4 := k.1.2
                          rw [hmd.out, Lks, Lks, hbn] at h4
                          have h5 := h4.2.2.2.1
                          rw [Int.toNat_natCast, hv] at h5; cases h5)
                        rw [hv] at CU
                        clear hv hr2
                        go_wp2_with ((go_at_call 72; ((with_reducible refine (l1In_yes _ _ _ _ (by omega) (by omega)).mono ?_); rintro e w' ⟨rfl, rfl⟩)))
                        go_ret
                        exact ⟨by rw [HN.out]; rfl, hL2⟩
                      · have hv2 : mrk (usd l j) p.A bn = false := by simpa using hv
                        rw [hv2] at CU
                        have HV2 := Lib.hid hv2
                        have HBN := Lib.hid hbn
                        have FU := Has.frozen BU2
                        clear hr2 hv hv2
                        go_wp2_with ((go_at_call 72; ((with_reducible refine (l1In_yes _ _ _ _ (by omega) (by omega)).mono ?_); rintro e w' ⟨rfl, rfl⟩)))
                        go_roundw
                        case rel => exact ⟨j + 1, by omega, by go_num, fun x hx => by
                          by_cases e : x = j
                          · subst e
                            refine ⟨HGD.out.2 ⟨HPt.out, ?_⟩, fun h => by rw [HPA.out] at h; omega⟩
                            rw [hmd.out, Lks, Lks]
                            exact ⟨⟨by have := HAN.out; omega, by have := HAN.out; omega⟩, by rw [HAN.out, Int.toNat_natCast]; exact HV.out, ⟨by have := HBN.out; omega, by have := HBN.out; omega⟩, by rw [HBN.out, Int.toNat_natCast]; exact HV2.out, trivial⟩
                          · exact HG.out x (by omega), by
                            rw [usd_succ l j hc, HP.out, hmd.out]
                            exact Has.as (BU2.same _ _) (cellsB_set _ _ _ _ HBN.out.symm), lowSet hL2 (Nat.le_refl _) _⟩
                        case measure => simp [intOf]; omega
                    · have HN := Lib.hid (HNO.out fun k => hr2 (by
                        have h4 := k.1.2
                        rw [hmd.out, Lks, Lks] at h4
                        exact h4.2.2.1))
                      have hr' : p.B < 0 ∨ (j : Int) - 1 < p.B := by omega
                      clear hr2
                      go_wp2_with ((go_at_call 72; ((with_reducible refine (l1In_no _ _ _ _ hr').mono ?_); rintro e w' ⟨rfl, rfl⟩)))
                      go_ret
                      exact ⟨by rw [HN.out]; rfl, hL2⟩
              · have HN := Lib.hid (HNO.out fun k => hr (by
                  have h4 := k.1.2
                  by_cases h6 : p.k = 6
                  · rw [made_one p h6, Lks] at h4; exact h4.1
                  · rw [made_two p h3 (by omega), Lks] at h4; exact h4.1))
                have hr' : p.A < 0 ∨ (j : Int) - 1 < p.A := by omega
                clear hr
                go_wp2_with ((go_at_call 72; ((with_reducible refine (l1In_no _ _ _ _ hr').mono ?_); rintro e w' ⟨rfl, rfl⟩)))
                go_ret
                exact ⟨by rw [HN.out]; rfl, hL⟩
          · have HN := Lib.hid (HNO.out fun k => hS (by
              by_cases h2 : p.k ≤ 2
              · exact (k.1.1.2.1 h2).1
              · have e := HBR.out
                have : p.S = p.bare.S := by unfold peq at e; simp at e; exact e.2.2.2.2.2.2.2
                unfold Pt.bare at this
                rw [if_neg (by omega), if_neg (by omega), if_neg (by omega)] at this
                split at this <;> (simp only at this; omega)))
            have hS' : p.S < 0 ∨ 7 < p.S := by omega
            clear hS
            go_wp2_with (first | (go_at_call 72; ((with_reducible refine (l1In_yes p.k _ _ _ hk0 hk6).mono ?_); rintro e w' ⟨rfl, rfl⟩)) | ((go_at_call 166; ((with_reducible refine (HC2.out _).mono ?_); rintro e w2 ⟨rfl, hbq⟩)); have CP := Has.cell ((Has.new wr p.arr 49).below hbq)) | (go_at_call 72; ((with_reducible refine (l1In_no p.S _ _ _ hS').mono ?_); rintro e w' ⟨rfl, rfl⟩)))
            go_ret
            exact ⟨by rw [HN.out]; rfl, lowCall (lowAlloc hb _) hbq⟩
        · have hbr2 : peq p p.bare = false := by simpa using hbr
          have HC2 : Hid (∀ w, Calls Tryz.prog 166 #[p.val] w fun e w' => e = .returned (.bool false) ∧ Below w.heap.size w w') := Lib.hid fun w => by have := HC.out w; rwa [hbr2] at this
          have HN := Lib.hid (HNO.out fun k => hbr k.1.1.2.2)
          clear hbr hbr2 HC
          go_wp2_with (first | (go_at_call 72; ((with_reducible refine (l1In_yes p.k _ _ _ hk0 hk6).mono ?_); rintro e w' ⟨rfl, rfl⟩)) | ((go_at_call 166; ((with_reducible refine (HC2.out _).mono ?_); rintro e w2 ⟨rfl, hbq⟩)); have CP := Has.cell ((Has.new wr p.arr 49).below hbq)))
          go_ret
          exact ⟨by rw [HN.out]; rfl, lowCall (lowAlloc hb _) hbq⟩
      · have HN := Lib.hid (HNO.out fun k => hk k.1.1.1)
        have hk' : p.k < 0 ∨ 6 < p.k := by omega
        clear hk
        go_wp2_with ((go_at_call 72; ((with_reducible refine (l1In_no _ _ _ _ hk').mono ?_); rintro e w' ⟨rfl, rfl⟩)))
        go_ret
        exact ⟨by rw [HN.out]; rfl, lowAlloc hb _⟩
    · obtain rfl : j = l.length := by omega
      have HU := Lib.hid hu
      clear hu
      go_wp2
      go_loop [6] (fun i => ∃ x : Nat, x ≤ l.length ∧ i = .int .i64 x ∧ ∀ y, y < x → y + 1 < l.length → usd l l.length y = true) (fun i => l.length - (intOf i).toNat)
      case atStart => exact ⟨0, by omega, rfl, fun y h _ => by omega⟩
      case round =>
        obtain ⟨x, hx, rfl, ha⟩ := hrel
        have HA := Lib.hid ha
        clear ha
        by_cases hx2 : x + 1 < l.length
        · have CU := (Has.cell HU.out x).trans (cellsB_get l.length _ x (by omega))
          by_cases hv : usd l l.length x = true
          · rw [hv] at CU
            have HV := Lib.hid hv
            clear hv
            go_wp2
            go_round
            case rel => exact ⟨x + 1, by omega, by go_num, fun y hy h2 => by
              by_cases e : y = x
              · subst e; exact HV.out
              · exact HA.out y (by omega) h2⟩
            case measure => simp [intOf]; omega
          · have hv2 : usd l l.length x = false := by simpa using hv
            rw [hv2] at CU
            have HN := Lib.hid (dec_no (p := SForm l) fun k => by have := k.1.2.2 x hx2; rw [hv2] at this; cases this)
            clear hv hv2
            go_wp2
            go_ret
            exact ⟨by rw [HN.out]; rfl, hb⟩
        · by_cases hin : 1 ≤ l.length ∧ l.length ≤ 24
          · obtain ⟨i1, i2⟩ := hin
            have HN := Lib.hid (dec_yes (p := SForm l) ⟨⟨⟨i1, i2⟩, fun x hx => (HG.out x hx).1, fun y hy => HA.out y (by omega) hy⟩, fun x hx => (HG.out x hx).2⟩)
            go_wp2_with ((go_at_call 72; ((with_reducible refine (l1In_yes _ _ _ _ (by omega) (by omega)).mono ?_); rintro e w' ⟨rfl, rfl⟩)))
            go_ret
            exact ⟨by rw [HN.out]; rfl, hb⟩
          · have HN := Lib.hid (dec_no (p := SForm l) fun k => hin k.1.1)
            have hin' : (l.length : Int) < 1 ∨ 24 < (l.length : Int) := by omega
            clear hin
            go_wp2_with ((go_at_call 72; ((with_reducible refine (l1In_no _ _ _ _ hin').mono ?_); rintro e w' ⟨rfl, rfl⟩)))
            go_ret
            exact ⟨by rw [HN.out]; rfl, hb⟩
end Go.Proofs.YtegibpepdndocabGreat
