import Derived.Test.YtegibpepdndocabGreatSpLk
import Derived.Test.YtegibpepdndocabGreatStdk
namespace Go.Proofs.YtegibpepdndocabGreat
open Go.ChangeShapes Go.WideShapes Go.ChangeAt Go.RowKit
set_option linter.unusedSimpArgs false
set_option linter.unusedVariables false
set_option maxHeartbeats 4000000

attribute [local go_sem] VGo_value VGo_skip VGo_enter
attribute [local go_sem] Pt.arr0 Pt.arr1 Pt.arr2 Pt.arr3 Pt.arr4 Pt.arr5 Pt.arr6 Pt.arr7 Pt.arr8 Pt.arr9 Pt.arr10 Pt.arr11 Pt.arr12 Pt.arr13 Pt.arr14 Pt.arr15 Pt.arr16 Pt.arr17 Pt.arr18 Pt.arr19 Pt.arr20 Pt.arr21 Pt.arr22 Pt.arr23 Pt.arr24 Pt.arr25 Pt.arr26
attribute [-go_sem] loadVar storeVar
attribute [local go_sem] lvA svA
attribute [local go_sem high] ptLoadNew ptStoreNew moStoreNew
theorem PRow.pat {w : World} {B g n c : Nat} {l : List Pt} (h : PRow w B (.slice (some ⟨g, 0, none⟩) n c) l) (hn : n = l.length) (i : Nat) (hi : i < l.length) : Pat w g (i * 27) l[i] := fun j v hj => by
  have hj27 : j < 27 := (List.getElem?_eq_some_iff.1 hj).1
  rw [RowK.cell h (by simpa using hn) i j (by simpa using hi) hj27]; simpa using hj
theorem leafAt_k (m : Mo) (p : Pt) : (leafAt m p).k = p.k := by unfold leafAt; split <;> (try split) <;> (try split) <;> rfl
/- impl.SolidOk -/
theorem iSolidOk_any (l : List Pt) (v : Value) (w : World) (hl : PIn w v l) (hn : l.length ≤ 1048576) : Calls Tryz.prog 38 #[v] w fun e w' => e = .returned (.bool (dec (SolidP l))) ∧ Below w.heap.size w w' := by
  have HL := Lib.hid hl
  clear hl
  go_enter Tryz.func38, Tryz.ntmps38
  by_cases hS : SolidP l
  · go_wp2_with (go_at_call 95; (with_reducible refine (standing_any l _ _ HL.out hn).mono ?_); rintro e w' ⟨(⟨-, vo, rfl, hro⟩ | ⟨hno, rfl⟩), hbq⟩; rotate_left; exact absurd hS hno)
    rw [dec_yes hS]
    go_ret
    exact ⟨rfl, hbq⟩
  · go_wp2_with (go_at_call 95; (with_reducible refine (standing_any l _ _ HL.out hn).mono ?_); rintro e w' ⟨(⟨hno, vo, rfl, hro⟩ | ⟨-, rfl⟩), hbq⟩; exact absurd hno hS)
    rw [dec_no hS]
    go_ret
    exact ⟨rfl, hbq⟩
/- spec.SolidOk -/
set_option maxRecDepth 100000 in
theorem sSolidOk_any (l : List Pt) (v : Value) (w : World) (hl : PIn w v l) (hn : l.length ≤ 1048576) : Calls Tryz.prog 39 #[v] w fun e w' => e = .returned (.bool (dec (SolidP l))) ∧ Below w.heap.size w w' := by
  have HL := Lib.hid hl
  clear hl
  go_enter Tryz.func39, Tryz.ntmps39
  by_cases hF : SForm l
  · by_cases hM : ∀ i, i < l.length → MOk l i
    · have HF := Lib.hid hF
      have HM := Lib.hid hM
      clear hF hM
      have HC1 : Hid (∀ w, PIn w v l → Calls Tryz.prog 96 #[v] w fun e w' => e = .returned (.bool true) ∧ Below w.heap.size w w') := Lib.hid fun w h => by have := l7Form_any l v w h hn; rwa [dec_yes HF.out] at this
      have HC2 : Hid (∀ w, PIn w v l → Calls Tryz.prog 97 #[v] w fun e w' => ∃ v', e = .returned (.tuple #[v', .bool true]) ∧ Below w.heap.size w w') := Lib.hid fun w h => (l7Motions_any l v w h HF.out).mono (by rintro e w2 ⟨v', rfl, -, hb⟩; exact ⟨v', by rw [dec_yes HM.out], hb⟩)
      go_upto_region 7 with (first | ((go_at_call 96; ((with_reducible refine (HC1.out _ HL.out).mono ?_); rintro e w2 ⟨rfl, hbq⟩)); have hl2 := HL.out.below hbq) | (go_at_call 97; (with_reducible refine (HC2.out _ hl2).mono ?_); rintro e w3 ⟨vm, rfl, hbq2⟩; have hl3 := hl2.below hbq2) | (go_at_call 85; (with_reducible refine (l7Leaves_any l _ _ hl3 HF.out HM.out).mono ?_); rintro e w4 ⟨vl, rfl, hro, hbq3⟩))
      have h1 : 1 ≤ l.length := HF.out.1.1.1
      have hlen : (lvs l).length = l.length := by simp [lvs]
      have hb : Below w.heap.size w w4 := lowCall (lowCall (lowCall (lowRefl w) hbq) hbq2) hbq3
      obtain ⟨A, c, rfl, hA, -⟩ := hro.shape
      rw [List.length_map, hlen] at hro hA
      obtain ⟨g, rfl, hg1, hg2⟩ := hA h1
      rw [List.length_map, hlen]
      have hgw : w.heap.size ≤ w3.heap.size := by have := hbq.size; have := hbq2.size; omega
      clear hA hbq hbq2 hbq3 hl2 hl3 HC1 HC2
      generalize w3.heap.size = B at hro hg1 hgw
      go_wp2
      go_loopw [6] (fun i wr => ∃ j : Nat, j ≤ l.length ∧ i = .int .i64 j ∧ (∀ x, x < j → (pa l x).k ≤ 2 → LeafP (leafAt (mo l x) (pa l x))) ∧ PRow wr B (.slice (some ⟨g, 0, none⟩) l.length c) (lvs l) ∧ Below w.heap.size w wr) (fun i _ => l.length - (intOf i).toNat)
      case atStart => exact ⟨0, by omega, rfl, fun x h => by omega, hro, hb⟩
      case round =>
        clear hro hb hg2
        obtain ⟨j, hj, rfl, hx, hro, hb⟩ := hrel
        have HX := Lib.hid hx
        clear hx
        by_cases hc : j < l.length
        · have CK := (hro.pat hlen.symm j (by omega)).k
          have LD := hro.load hlen.symm j (by omega)
          have hlv : (lvs l)[j]'(by omega) = lv l j := by simp [lvs]
          rw [hlv] at CK LD
          have hk0 : 0 ≤ (pa l j).k := by have := (HF.out.1.2.1 j hc hc).1.1.1; rwa [← pa_get l j hc] at this
          by_cases hk2 : (pa l j).k ≤ 2
          · have e : lv l j = leafAt (mo l j) (pa l j) := if_pos hk2
            have hlk : (leafAt (mo l j) (pa l j)).k = (pa l j).k := leafAt_k _ _
            rw [e] at CK LD
            have hk0' := hk0
            have hk2' := hk2
            rw [← hlk] at hk0' hk2'
            have HEQ : Hid (LeafP (leafAt (mo l j) (pa l j)) ↔ LeafP (leafAt (mo l j) (pa l j))) := Lib.hid Iff.rfl
            by_cases hlf : LeafP (leafAt (mo l j) (pa l j))
            · have HLF := Lib.hid hlf
              have HC : Hid (∀ w, Calls Tryz.prog 98 #[(leafAt (mo l j) (pa l j)).val] w fun e w' => e = .returned (.bool true) ∧ Below w.heap.size w w') := Lib.hid fun w => by have := l7Leaf_any (leafAt (mo l j) (pa l j)) w ⟨hk0', hk2'⟩; rwa [dec_yes hlf] at this
              clear hlf e hlk hlv HEQ
              generalize hq : leafAt (mo l j) (pa l j) = q at CK LD hk2' HC HLF
              have HQ := Lib.hid hq
              clear hq hk0'
              go_wp2_with ((go_at_call 98; ((with_reducible refine (HC.out _).mono ?_); rintro e w2 ⟨rfl, hbq⟩)))
              go_roundw
              case rel => exact ⟨j + 1, by omega, by go_num, fun x hx => by
                by_cases e : x = j
                · subst e; rw [HQ.out]; exact fun _ => HLF.out
                · exact HX.out x (by omega), RowK.below hro hbq, lowCall hb hbq⟩
              case measure => simp [intOf]; omega
            · have hS : ¬ SolidP l := fun k => hlf (k.2.2 j hc hk2)
              have HS := Lib.hid hS
              have HC : Hid (∀ w, Calls Tryz.prog 98 #[(leafAt (mo l j) (pa l j)).val] w fun e w' => e = .returned (.bool false) ∧ Below w.heap.size w w') := Lib.hid fun w => by have := l7Leaf_any (leafAt (mo l j) (pa l j)) w ⟨hk0', hk2'⟩; rwa [dec_no hlf] at this
              clear hlf e hlk hlv HEQ hS
              generalize hq : leafAt (mo l j) (pa l j) = q at CK LD hk2' HC
              clear hq hk0'
              go_wp2_with ((go_at_call 98; ((with_reducible refine (HC.out _).mono ?_); rintro e w2 ⟨rfl, hbq⟩)))
              rw [dec_no HS.out]
              go_ret
              exact ⟨rfl, lowCall hb hbq⟩
          · have e : lv l j = pa l j := if_neg hk2
            rw [e] at CK LD
            clear e hlv
            go_wp2
            exact ⟨⟨j + 1, by omega, by go_num, fun x hx => by
              by_cases e : x = j
              · subst e; exact fun h => absurd h hk2
              · exact HX.out x (by omega), hro, hb⟩, by simp [intOf]; omega⟩
        · obtain rfl : j = l.length := by omega
          have hS : SolidP l := ⟨HF.out.1, HM.out, fun i hi hk => HX.out i hi hk⟩
          go_wp2
          rw [dec_yes hS]
          go_ret
          exact ⟨rfl, hb⟩
    · have HF := Lib.hid hF
      have hS : ¬ SolidP l := fun k => hM k.2.1
      have HS := Lib.hid hS
      have HC1 : Hid (∀ w, PIn w v l → Calls Tryz.prog 96 #[v] w fun e w' => e = .returned (.bool true) ∧ Below w.heap.size w w') := Lib.hid fun w h => by have := l7Form_any l v w h hn; rwa [dec_yes HF.out] at this
      have HC2 : Hid (∀ w, PIn w v l → Calls Tryz.prog 97 #[v] w fun e w' => ∃ v', e = .returned (.tuple #[v', .bool false]) ∧ Below w.heap.size w w') := Lib.hid fun w h => (l7Motions_any l v w h HF.out).mono (by rintro e w2 ⟨v', rfl, -, hb⟩; exact ⟨v', by rw [dec_no hM], hb⟩)
      clear hF hM hS
      go_wp2_with (first | ((go_at_call 96; ((with_reducible refine (HC1.out _ HL.out).mono ?_); rintro e w2 ⟨rfl, hbq⟩)); have hl2 := HL.out.below hbq) | (go_at_call 97; (with_reducible refine (HC2.out _ hl2).mono ?_); rintro e w3 ⟨vm, rfl, hbq2⟩))
      rw [dec_no HS.out]
      go_ret
      exact ⟨rfl, lowCall (lowCall (lowRefl w) hbq) hbq2⟩
  · go_wp2_with (go_at_call 96; (with_reducible refine (l7Form_any l _ _ HL.out hn).mono ?_); rintro e w2 ⟨rfl, hb⟩; rw [dec_no hF])
    have hS : ¬ SolidP l := fun k => hF (.solid k)
    rw [dec_no hS]
    go_ret
    exact ⟨rfl, hb⟩
end Go.Proofs.YtegibpepdndocabGreat
