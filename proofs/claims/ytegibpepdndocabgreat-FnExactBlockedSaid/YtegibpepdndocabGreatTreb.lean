import Derived.Deep.Cut
import Derived.Test.YtegibpepdndocabGreatMrkb
namespace Go.Proofs.YtegibpepdndocabGreat
open Go.ChangeShapes Go.WideShapes Go.ChangeAt Go.RowKit
set_option linter.unusedSimpArgs false
set_option linter.unusedVariables false
set_option maxHeartbeats 1000000

attribute [local go_sem] VGo_value VGo_skip VGo_enter
/- whether a row of bools has false -/
theorem indexB_any (b n c : Nat) (N : Nat) (U : Nat → Bool) (T : TypeId) (w : World) (hB : Has w b (cellsB N U) T) (hn : n ≤ N) (hN : N ≤ 1000000000) :
    Calls Tryz.prog 239 #[.slice (some ⟨b, 0, none⟩) n c, .bool false] w fun e w' => (∃ r : Int, e = .returned (.int .i64 r) ∧ (0 ≤ r ↔ ∃ x, x < n ∧ U x = false)) ∧ w = w' := by
  have HB := Lib.hid hB
  clear hB
  go_enter Tryz.func239, Tryz.ntmps239
  go_wp2
  go_loop [8] (fun i => ∃ j : Nat, j ≤ n ∧ i = .int .i64 j ∧ ∀ x, x < j → U x = true) (fun i => n - (intOf i).toNat)
  case atStart => exact ⟨0, by omega, rfl, fun x h => by omega⟩
  case round =>
    obtain ⟨j, hj, rfl, ha⟩ := hrel
    have HA := Lib.hid ha
    clear ha
    by_cases hc : j < n
    · have C := (Has.cell HB.out j).trans (cellsB_get N U j (by omega))
      by_cases hu : U j = true
      · rw [hu] at C
        have HU := Lib.hid hu
        clear hu
        go_wp2
        go_round
        case rel => exact ⟨j + 1, by omega, by go_num, fun x hx => by
          by_cases e : x = j
          · subst e; exact HU.out
          · exact HA.out x (by omega)⟩
        case measure => simp [intOf]; omega
      · have hu2 : U j = false := by simpa using hu
        rw [hu2] at C
        have HU := Lib.hid hu2
        clear hu hu2
        go_wp2
        go_ret
        exact ⟨⟨_, rfl, ⟨fun _ => ⟨j, hc, HU.out⟩, fun _ => by omega⟩⟩, rfl⟩
    · obtain rfl : j = n := by omega
      go_wp2
      go_ret
      exact ⟨⟨_, rfl, ⟨fun h => by omega, fun ⟨x, h1, h2⟩ => by rw [HA.out x h1] at h2; cases h2⟩⟩, rfl⟩
theorem containsB_any (b n c : Nat) (N : Nat) (U : Nat → Bool) (T : TypeId) (w : World) (hB : Has w b (cellsB N U) T) (hn : n ≤ N) (hN : N ≤ 1000000000) :
    Calls Tryz.prog 221 #[.slice (some ⟨b, 0, none⟩) n c, .bool false] w fun e w' => e = .returned (.bool (dec (∃ x, x < n ∧ U x = false))) ∧ w = w' := by
  have HB := Lib.hid hB
  clear hB
  go_enter Tryz.func221, Tryz.ntmps221
  go_wp2_with (go_at_call 239; (with_reducible refine (indexB_any b n c N U T _ HB.out hn hN).mono ?_); rintro e w' ⟨⟨r, rfl, hr⟩, rfl⟩; have HR := Lib.hid hr; clear hr)
  go_ret
  refine ⟨congrArg (fun z => Ending.returned (.bool z)) ?_, rfl⟩
  by_cases h : 0 ≤ r
  · rw [dec_yes (HR.out.1 h)]; simpa using h
  · rw [dec_no (fun k => h (HR.out.2 k))]; simpa using h
attribute [local go_sem] Pt.arr0 Pt.arr1 Pt.arr2 Pt.arr3 Pt.arr4 Pt.arr5 Pt.arr6 Pt.arr7 Pt.arr8 Pt.arr9 Pt.arr10 Pt.arr11 Pt.arr12 Pt.arr13 Pt.arr14 Pt.arr15 Pt.arr16 Pt.arr17 Pt.arr18 Pt.arr19 Pt.arr20 Pt.arr21 Pt.arr22 Pt.arr23 Pt.arr24 Pt.arr25 Pt.arr26
attribute [-go_sem] loadVar storeVar
attribute [local go_sem] lvA svA lvVec lvHalf lvBall lvBox lvMot
attribute [local go_sem high] ptLoadNew ptStoreNew
theorem isTree_out (l : List Pt) (A : Option Addr) (c : Nat) (w : World) (h : l.length = 0 ∨ 24 < l.length) (hn : l.length ≤ 1000000000) :
    Calls Tryz.prog 158 #[.slice A l.length c] w fun e w' => e = .returned (.bool (dec (Form l))) ∧ Below w.heap.size w w' := by
  rw [dec_no (fun k => by have := k.1; omega)]
  go_enter Tryz.func158, Tryz.ntmps158
  go_wp2_with ((go_at_call 79; ((with_reducible refine (within_no _ _ _ _ (by omega)).mono ?_); rintro e w' ⟨rfl, rfl⟩)))
  go_ret; refine ⟨rfl, ?_⟩; (repeat' (first|with_reducible (first|exact lowRefl _|apply lowSet|apply lowDrew|apply lowDrewN|apply lowAlloc)|(with_reducible refine lowCall ?_ (by assumption))|(show (_ : Nat) ≤ _;first|(simp;done)|(simp;omega)|omega)))
set_option maxRecDepth 100000 in
theorem isTree_in (l : List Pt) (b off c : Nat) (w : World) (h1 : 1 ≤ l.length) (h2 : l.length ≤ 24) (hr : ∀ i (h : i < l.length), Pat w b (off + i * 27) l[i]) :
    Calls Tryz.prog 158 #[.slice (some ⟨b, off, none⟩) l.length c] w fun e w' => e = .returned (.bool (dec (Form l))) ∧ Below w.heap.size w w' := by
  have HR := Lib.hid hr
  clear hr
  go_enter Tryz.func158, Tryz.ntmps158
  go_wp2_with ((go_at_call 79; ((with_reducible refine (within_yes _ _ _ _ (by omega) (by omega)).mono ?_); rintro e w' ⟨rfl, rfl⟩)))
  go_loopw [14] (fun i wr => ∃ j : Nat, j ≤ l.length ∧ i = .int .i64 j ∧ (∀ x, x < j → Good l x) ∧ Has wr w.heap.size (cellsB 24 (usd l j)) 236 ∧ Below w.heap.size w wr) (fun i _ => l.length - (intOf i).toNat)
  case atStart => exact ⟨0, by omega, rfl, fun x h => by omega, Has.as (Has.new w _ _) rfl, lowAlloc (lowRefl w) _⟩
  case round =>
    obtain ⟨j, hj, rfl, hg, hu, hb⟩ := hrel
    have HG := Lib.hid hg
    clear hg
    by_cases hc : j < l.length
    · have LD := ((HR.out j hc).below hb).load
      have HU := Lib.hid hu
      clear hu
      by_cases hp : PtP l[j]
      · have hpc : ∀ w, Calls Tryz.prog 220 #[l[j].val] w fun e w' => e = .returned (.bool true) ∧ Below w.heap.size w w' := fun w => by have := partOk_any l[j] w; rwa [dec_yes hp] at this
        have HPC := Lib.hid hpc
        have HP := Lib.hid hp
        have HK6 := Lib.hid hp.1
        clear hp hpc
        go_upto_region 9 with ((go_at_call 220; ((with_reducible refine (HPC.out _).mono ?_); rintro e w2 ⟨rfl, hbq⟩)))
        have BP := (Has.new wr l[j].arr 49).below hbq
        have BU := (HU.out.alloc (.cells l[j].arr 49)).below hbq
        have hL := lowCall (lowAlloc hb (.cells l[j].arr 49)) hbq
        have hP : w.heap.size < wr.heap.size := Has.lt HU.out
        clear LD HU hb hbq
        generalize wr.heap.size = bP at BP hP ⊢
        clear wr
        have P0 := ptLoad _ BP
        go_wp2_with ((go_at_call 163; ((with_reducible refine (madeOf_any l[j] _ HK6.out).mono ?_); rintro e w3 ⟨vk, rfl, ⟨Ak, ck, rfl, hk⟩, hbq⟩)))
        have BU2 := BU.below hbq
        have hL2 := lowCall hL hbq
        have hlo : w.heap.size < w2.heap.size := BU.lt
        clear BP BU hL hbq P0
        have hk3 := made_len l[j]
        generalize hks : made l[j] = ks at *
        have HKS := Lib.hid hks
        clear hks
        have HK : Hid (0 < ks.length → ∃ g, Ak = some ⟨g, 0, none⟩ ∧ Has w3 g (kints ks) 3 ∧ w.heap.size < g) := Lib.hid fun h => by
          obtain ⟨g, e, hg, hle⟩ := hk h
          exact ⟨g, e, hg, by omega⟩
        clear hk hlo
        go_loopw [25] (fun i2 wi => ∃ t : Nat, t ≤ ks.length ∧ i2 = .int .i64 t ∧ (Lks (usd l j) j ks ↔ Lks (mrks (usd l j) (ks.take t)) j (ks.drop t)) ∧ Has wi w.heap.size (cellsB 24 (mrks (usd l j) (ks.take t))) 236 ∧ (∀ g, Has w3 g (kints ks) 3 → w.heap.size < g → Has wi g (kints ks) 3) ∧ Below w.heap.size w wi) (fun i2 _ => ks.length - (intOf i2).toNat)
        case atStart => exact ⟨0, by omega, rfl, Iff.rfl, BU2, fun g h _ => h, hL2⟩
        case round =>
          clear BU2 hL2
          obtain ⟨t, ht, rfl, hq, hu, hkk, hb⟩ := hrel
          have HQ := Lib.hid hq
          clear hq
          by_cases hc2 : t < ks.length
          · obtain ⟨g, rfl, hg, hlt⟩ := HK.out (by omega)
            have CK := (Has.cell (hkk g hg hlt) t).trans (kints_get ks t hc2)
            have hdr : ks.drop t = ks[t] :: ks.drop (t + 1) := List.drop_eq_getElem_cons hc2
            have HD := Lib.hid hdr
            clear hdr
            by_cases hr : 0 ≤ ks[t] ∧ ks[t] < j
            · obtain ⟨kn, hkn⟩ : ∃ kn : Nat, ks[t] = kn := ⟨ks[t].toNat, by omega⟩
              have hkj : kn < j := by omega
              have CU := (Has.cell hu kn).trans (cellsB_get 24 _ kn (by omega))
              by_cases hv : mrks (usd l j) (ks.take t) kn = true
              · rw [hv] at CU
                have HF := Lib.hid (dec_no (p := Form l) fun k => by
                  have h1 := (k.2.1 j hc hc).2
                  rw [HKS.out] at h1
                  have h2 := HQ.out.1 h1
                  rw [HD.out, Lks, hkn] at h2
                  have h3 := h2.2.1
                  rw [Int.toNat_natCast, hv] at h3
                  cases h3)
                clear hr hu hv
                go_wp2_with ((go_at_call 79; ((with_reducible refine (within_yes _ _ _ _ (by omega) (by omega)).mono ?_); rintro e w' ⟨rfl, rfl⟩)))
                go_ret
                exact ⟨by rw [HF.out]; rfl, hb⟩
              · have hv2 : mrks (usd l j) (ks.take t) kn = false := by simpa using hv
                rw [hv2] at CU
                have FU := Has.frozen hu
                have HU := Lib.hid hu
                have HV := Lib.hid hv2
                have HKN := Lib.hid hkn
                clear hr hu hv hv2
                go_wp2_with ((go_at_call 79; ((with_reducible refine (within_yes _ _ _ _ (by omega) (by omega)).mono ?_); rintro e w' ⟨rfl, rfl⟩)))
                go_roundw
                case rel =>
                  refine ⟨t + 1, by omega, by go_num, ?_, ?_, ?_, lowSet hb (Nat.le_refl _) _⟩
                  · rw [HQ.out, HD.out, mrks_take _ _ _ hc2, Lks]
                    exact ⟨fun k => k.2.2, fun k => ⟨⟨by have := HKN.out; omega, by have := HKN.out; omega⟩, by rw [HKN.out, Int.toNat_natCast]; exact HV.out, k⟩⟩
                  · rw [mrks_take _ _ _ hc2]
                    exact Has.as (HU.out.same _ _) (cellsB_set _ _ _ _ HKN.out.symm)
                  · intro g2 h2 h3
                    exact Has.other (by omega) (hkk g2 h2 h3) _ _
                case measure => simp [intOf]; omega
            · have HF := Lib.hid (dec_no (p := Form l) fun k => by
                have h1 := (k.2.1 j hc hc).2
                rw [HKS.out] at h1
                have h2 := HQ.out.1 h1
                rw [HD.out, Lks] at h2
                exact hr h2.1)
              go_wp2_with ((go_at_call 79; ((with_reducible refine (within_no _ _ _ _ (by omega)).mono ?_); rintro e w' ⟨rfl, rfl⟩)))
              go_ret
              exact ⟨by rw [HF.out]; rfl, hb⟩
          · obtain rfl : t = ks.length := by omega
            have HGJ : Good l j := fun _ => ⟨HP.out, by rw [HKS.out, HQ.out, List.drop_length]; trivial⟩
            have HUS : usd l (j + 1) = mrks (usd l j) ks := by rw [usd_succ l j hc, HKS.out]
            rw [List.take_length] at hu
            have HG2 := Lib.hid HGJ
            have HU2 := Lib.hid HUS
            have HU := Lib.hid hu
            clear HGJ HUS hu hkk
            go_wp2
            refine ⟨⟨j + 1, by omega, by go_num, fun x hx => ?_, ?_, hb⟩, by simp [intOf]; omega⟩
            · by_cases e : x = j
              · subst e; exact HG2.out
              · exact HG.out x (by omega)
            · rw [HU2.out]; exact HU.out
      · have hpc : ∀ w, Calls Tryz.prog 220 #[l[j].val] w fun e w' => e = .returned (.bool false) ∧ Below w.heap.size w w' := fun w => by have := partOk_any l[j] w; rwa [dec_no hp] at this
        have HPC := Lib.hid hpc
        have HP := Lib.hid (dec_no (p := Form l) fun k => hp (k.2.1 j hc hc).1)
        clear hp hpc
        go_wp2_with ((go_at_call 220; ((with_reducible refine (HPC.out _).mono ?_); rintro e w2 ⟨rfl, hbq⟩)))
        go_ret
        refine ⟨by rw [HP.out]; rfl, ?_⟩
        have hbw : Below w.heap.size w (wr.alloc (.cells l[j].arr 49)) := lowAlloc hb _
        exact lowCall hbw hbq
    · obtain rfl : j = l.length := by omega
      have HU := Lib.hid hu
      clear hu
      go_upto_region 17 with fail
      obtain ⟨v, hv⟩ : ∃ v, dec (∃ x, x < l.length - 1 ∧ usd l l.length x = false) = v := ⟨_, rfl⟩
      have HF : dec (Form l) = !v := by
        rw [← hv]
        by_cases h : ∃ x, x < l.length - 1 ∧ usd l l.length x = false
        · have h5 := dec_yes h
          obtain ⟨x, h3, h4⟩ := h
          rw [h5, dec_no (p := Form l) fun k => by have := k.2.2 x (by omega); rw [h4] at this; cases this]; rfl
        · rw [dec_no h, dec_yes (p := Form l) ⟨⟨h1, h2⟩, HG.out, fun x hx => by
            cases hb : usd l l.length x
            · exact absurd ⟨x, by omega, hb⟩ h
            · rfl⟩]; rfl
      have HC := Lib.hid (show Calls Tryz.prog 221 #[.slice (some ⟨w.heap.size, 0, none⟩) (l.length - 1) 24, .bool false] wr fun e w' => e = .returned (.bool v) ∧ wr = w' by
        rw [← hv]; exact containsB_any w.heap.size (l.length - 1) 24 24 (usd l l.length) _ wr HU.out (by omega) (by omega))
      have HF2 := Lib.hid HF
      have hs : (Instr.sliceAt 236 (.pointer (some ⟨w.heap.size, 0, none⟩)) none (some (.int .i64 ((l.length : Int) - 1))) none).run Tryz.prog wr = .ok (.slice (some ⟨w.heap.size, 0, none⟩) (l.length - 1) 24) wr := by
        have h24 : Tryz.prog.arrayLen 236 = 24 := by kernel_rfl
        rw [run_sliceAt_array_h (P := Tryz.prog) wr 236 ⟨w.heap.size, 0, none⟩ Tryz.underlying236 .i64 ((l.length : Int) - 1) (by omega) (by rw [h24]; omega), h24, show Tryz.prog.elem 236 = 4 by kernel_rfl, Tryz.sizeOf4, Result.andThen_ok, slicedAt, show ((l.length : Int) - 1).toNat = l.length - 1 by omega]
        simp [Addr.add_zero']
      clear HF hv
      go_wp2_with (go_at_call 221; (with_reducible refine HC.out.mono ?_); rintro e w' ⟨rfl, rfl⟩)
      go_ret
      exact ⟨by rw [HF2.out]; rfl, hb⟩
theorem isTree_any (l : List Pt) (v : Value) (w : World) (hl : PIn w v l) (hn : l.length ≤ 1000000000) : Calls Tryz.prog 158 #[v] w fun e w' => e = .returned (.bool (dec (Form l))) ∧ Below w.heap.size w w' := by
  obtain ⟨A, c, rfl, hf⟩ := hl
  by_cases h : 1 ≤ l.length ∧ l.length ≤ 24
  · obtain ⟨b, off, rfl, hr⟩ := hf (by omega)
    exact isTree_in l b off c w h.1 h.2 hr
  · exact isTree_out l A c w (by omega) hn
end Go.Proofs.YtegibpepdndocabGreat
