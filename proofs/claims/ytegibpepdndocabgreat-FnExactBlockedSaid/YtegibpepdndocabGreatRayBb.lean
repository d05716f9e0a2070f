import Derived.Test.YtegibpepdndocabGreatRayHb
import Derived.Test.YtegibpepdndocabGreatSpLb
import Derived.Test.YtegibpepdndocabGreatStdb
section
namespace Go.Proofs.YtegibpepdndocabGreat
open Go.ChangeShapes Go.WideShapes Go.ChangeAt Go.RowKit
set_option linter.unusedSimpArgs false
set_option linter.unusedVariables false
set_option maxHeartbeats 4000000

attribute [local go_sem] VGo_value VGo_skip VGo_enter
attribute [local go_sem] Pt.arr0 Pt.arr1 Pt.arr2 Pt.arr3 Pt.arr4 Pt.arr5 Pt.arr6 Pt.arr7 Pt.arr8 Pt.arr9 Pt.arr10 Pt.arr11 Pt.arr12 Pt.arr13 Pt.arr14 Pt.arr15 Pt.arr16 Pt.arr17 Pt.arr18 Pt.arr19 Pt.arr20 Pt.arr21 Pt.arr22 Pt.arr23 Pt.arr24 Pt.arr25 Pt.arr26
attribute [-go_sem] loadVar storeVar
attribute [local go_sem] lvA svA
attribute [local go_sem high] ptLoadNew ptStoreNew moStoreNew
theorem PRow.pat {w : World} {B g n c : Nat} {l : List Pt} (h : PRow w B (.slice (some ⟨g, 0, none⟩) n c) l) (hn : n = l.length) (i : Nat) (hi : i < l.length) : Pat w g (i * 27) l[i] := fun j v hj => by
  have hj27 : j < 27 := (List.getElem?_eq_some_iff.1 hj).1
  rw [RowK.cell h (by simpa using hn) i j (by simpa using hi) hj27]; simpa using hj
theorem leafAt_k (m : Mo) (p : Pt) : (leafAt m p).k = p.k := by unfold leafAt; split <;> (try split) <;> (try split) <;> rfl
/- spec.SolidOk -/
set_option maxRecDepth 100000 in
theorem sSolidOk_any (l : List Pt) (v : Value) (w : World) (hl : PIn w v l) (hn : l.length ≤ 1048576) : Calls Tryz.prog 39 #[v] w fun e w' => e = .returned (.bool (dec (SolidP l))) ∧ Below w.heap.size w w' := by
  have HL := Lib.hid hl
  clear hl
  go_enter Tryz.func39, Tryz.ntmps39
  by_cases hF : SForm l
  · by_cases hM : ∀ i, i < l.length → MOk l i
    · have HF := Lib.hid hF
      have HM := Lib.hid hM
      clear hF hM
      have HC1 : Hid (∀ w, PIn w v l → Calls Tryz.prog 96 #[v] w fun e w' => e = .returned (.bool true) ∧ Below w.heap.size w w') := Lib.hid fun w h => by have := l7Form_any l v w h hn; rwa [dec_yes HF.out] at this
      have HC2 : Hid (∀ w, PIn w v l → Calls Tryz.prog 97 #[v] w fun e w' => ∃ v', e = .returned (.tuple #[v', .bool true]) ∧ Below w.heap.size w w') := Lib.hid fun w h => (l7Motions_any l v w h HF.out).mono (by rintro e w2 ⟨v', rfl, -, hb⟩; exact ⟨v', by rw [dec_yes HM.out], hb⟩)
      go_upto_region 7 with (first | ((go_at_call 96; ((with_reducible refine (HC1.out _ HL.out).mono ?_); rintro e w2 ⟨rfl, hbq⟩)); have hl2 := HL.out.below hbq) | (go_at_call 97; (with_reducible refine (HC2.out _ hl2).mono ?_); rintro e w3 ⟨vm, rfl, hbq2⟩; have hl3 := hl2.below hbq2) | (go_at_call 85; (with_reducible refine (l7Leaves_any l _ _ hl3 HF.out HM.out).mono ?_); rintro e w4 ⟨vl, rfl, hro, hbq3⟩))
      have h1 : 1 ≤ l.length := HF.out.1.1.1
      have hlen : (lvs l).length = l.length := by simp [lvs]
      have hb : Below w.heap.size w w4 := lowCall (lowCall (lowCall (lowRefl w) hbq) hbq2) hbq3
      obtain ⟨A, c, rfl, hA, -⟩ := hro.shape
      rw [List.length_map, hlen] at hro hA
      obtain ⟨g, rfl, hg1, hg2⟩ := hA h1
      rw [List.length_map, hlen]
      have hgw : w.heap.size ≤ w3.heap.size := by have := hbq.size; have := hbq2.size; omega
      clear hA hbq hbq2 hbq3 hl2 hl3 HC1 HC2
      generalize w3.heap.size = B at hro hg1 hgw
      go_wp2
      go_loopw [6] (fun i wr => ∃ j : Nat, j ≤ l.length ∧ i = .int .i64 j ∧ (∀ x, x < j → (pa l x).k ≤ 2 → LeafP (leafAt (mo l x) (pa l x))) ∧ PRow wr B (.slice (some ⟨g, 0, none⟩) l.length c) (lvs l) ∧ Below w.heap.size w wr) (fun i _ => l.length - (intOf i).toNat)
      case atStart => exact ⟨0, by omega, rfl, fun x h => by omega, hro, hb⟩
      case round =>
        clear hro hb hg2
        obtain ⟨j, hj, rfl, hx, hro, hb⟩ := hrel
        have HX := Lib.hid hx
        clear hx
        by_cases hc : j < l.length
        · have CK := (hro.pat hlen.symm j (by omega)).k
          have LD := hro.load hlen.symm j (by omega)
          have hlv : (lvs l)[j]'(by omega) = lv l j := by simp [lvs]
          rw [hlv] at CK LD
          have hk0 : 0 ≤ (pa l j).k := by have := (HF.out.1.2.1 j hc hc).1.1.1; rwa [← pa_get l j hc] at this
          by_cases hk2 : (pa l j).k ≤ 2
          · have e : lv l j = leafAt (mo l j) (pa l j) := if_pos hk2
            have hlk : (leafAt (mo l j) (pa l j)).k = (pa l j).k := leafAt_k _ _
            rw [e] at CK LD
            have hk0' := hk0
            have hk2' := hk2
            rw [← hlk] at hk0' hk2'
            have HEQ : Hid (LeafP (leafAt (mo l j) (pa l j)) ↔ LeafP (leafAt (mo l j) (pa l j))) := Lib.hid Iff.rfl
            by_cases hlf : LeafP (leafAt (mo l j) (pa l j))
            · have HLF := Lib.hid hlf
              have HC : Hid (∀ w, Calls Tryz.prog 98 #[(leafAt (mo l j) (pa l j)).val] w fun e w' => e = .returned (.bool true) ∧ Below w.heap.size w w') := Lib.hid fun w => by have := l7Leaf_any (leafAt (mo l j) (pa l j)) w ⟨hk0', hk2'⟩; rwa [dec_yes hlf] at this
              clear hlf e hlk hlv HEQ
              generalize hq : leafAt (mo l j) (pa l j) = q at CK LD hk2' HC HLF
              have HQ := Lib.hid hq
              clear hq hk0'
              go_wp2_with ((go_at_call 98; ((with_reducible refine (HC.out _).mono ?_); rintro e w2 ⟨rfl, hbq⟩)))
              go_roundw
              case rel => exact ⟨j + 1, by omega, by go_num, fun x hx => by
                by_cases e : x = j
                · subst e; rw [HQ.out]; exact fun _ => HLF.out
                · exact HX.out x (by omega), RowK.below hro hbq, lowCall hb hbq⟩
              case measure => simp [intOf]; omega
            · have hS : ¬ SolidP l := fun k => hlf (k.2.2 j hc hk2)
              have HS := Lib.hid hS
              have HC : Hid (∀ w, Calls Tryz.prog 98 #[(leafAt (mo l j) (pa l j)).val] w fun e w' => e = .returned (.bool false) ∧ Below w.heap.size w w') := Lib.hid fun w => by have := l7Leaf_any (leafAt (mo l j) (pa l j)) w ⟨hk0', hk2'⟩; rwa [dec_no hlf] at this
              clear hlf e hlk hlv HEQ hS
              generalize hq : leafAt (mo l j) (pa l j) = q at CK LD hk2' HC
              clear hq hk0'
              go_wp2_with ((go_at_call 98; ((with_reducible refine (HC.out _).mono ?_); rintro e w2 ⟨rfl, hbq⟩)))
              rw [dec_no HS.out]
              go_ret
              exact ⟨rfl, lowCall hb hbq⟩
          · have e : lv l j = pa l j := if_neg hk2
            rw [e] at CK LD
            clear e hlv
            go_wp2
            exact ⟨⟨j + 1, by omega, by go_num, fun x hx => by
              by_cases e : x = j
              · subst e; exact fun h => absurd h hk2
              · exact HX.out x (by omega), hro, hb⟩, by simp [intOf]; omega⟩
        · obtain rfl : j = l.length := by omega
          have hS : SolidP l := ⟨HF.out.1, HM.out, fun i hi hk => HX.out i hi hk⟩
          go_wp2
          rw [dec_yes hS]
          go_ret
          exact ⟨rfl, hb⟩
    · have HF := Lib.hid hF
      have hS : ¬ SolidP l := fun k => hM k.2.1
      have HS := Lib.hid hS
      have HC1 : Hid (∀ w, PIn w v l → Calls Tryz.prog 96 #[v] w fun e w' => e = .returned (.bool true) ∧ Below w.heap.size w w') := Lib.hid fun w h => by have := l7Form_any l v w h hn; rwa [dec_yes HF.out] at this
      have HC2 : Hid (∀ w, PIn w v l → Calls Tryz.prog 97 #[v] w fun e w' => ∃ v', e = .returned (.tuple #[v', .bool false]) ∧ Below w.heap.size w w') := Lib.hid fun w h => (l7Motions_any l v w h HF.out).mono (by rintro e w2 ⟨v', rfl, -, hb⟩; exact ⟨v', by rw [dec_no hM], hb⟩)
      clear hF hM hS
      go_wp2_with (first | ((go_at_call 96; ((with_reducible refine (HC1.out _ HL.out).mono ?_); rintro e w2 ⟨rfl, hbq⟩)); have hl2 := HL.out.below hbq) | (go_at_call 97; (with_reducible refine (HC2.out _ hl2).mono ?_); rintro e w3 ⟨vm, rfl, hbq2⟩))
      rw [dec_no HS.out]
      go_ret
      exact ⟨rfl, lowCall (lowCall (lowRefl w) hbq) hbq2⟩
  · go_wp2_with (go_at_call 96; (with_reducible refine (l7Form_any l _ _ HL.out hn).mono ?_); rintro e w2 ⟨rfl, hb⟩; rw [dec_no hF])
    have hS : ¬ SolidP l := fun k => hF (.solid k)
    rw [dec_no hS]
    go_ret
    exact ⟨rfl, hb⟩
end Go.Proofs.YtegibpepdndocabGreat
end
section
namespace Go.Proofs.YtegibpepdndocabGreat
open Has renaming new → J0, new1 → J1, new2 → J2, new3 → J3, new4 → J4, drew → J5, drewN → J6, alloc → J7, same → J8, other → J9, cell → Jc, frozen → Jf, below → Jb
open Go.ChangeShapes Go.WideShapes Go.ChangeAt Go.RowKit
set_option linter.unusedSimpArgs false
set_option maxHeartbeats 1000000

attribute [local go_sem] VGo_value VGo_skip VGo_enter
theorem sqn (x : Int) : 0 ≤ x * x := by by_cases hx : 0 ≤ x; exact Int.mul_nonneg hx hx; exact Int.mul_nonneg_of_nonpos_of_nonpos (by omega) (by omega)
theorem lagr (a b c x y z : Int) : dot3 a b c a b c * dot3 x y z x y z - dot3 a b c x y z * dot3 a b c x y z = (a*y-b*x)*(a*y-b*x) + (a*z-c*x)*(a*z-c*x) + (b*z-c*y)*(b*z-c*y) := by
  unfold dot3; grind
theorem cauchy (a b c x y z : Int) : dot3 a b c x y z * dot3 a b c x y z ≤ dot3 a b c a b c * dot3 x y z x y z := by
  have h := lagr a b c x y z
  have h1 := sqn (a*y-b*x)
  have h2 := sqn (a*z-c*x)
  have h3 := sqn (b*z-c*y)
  omega
theorem dot_nonneg (a b c : Int) : 0 ≤ dot3 a b c a b c := by
  have h1 := sqn a
  have h2 := sqn b
  have h3 := sqn c
  unfold dot3
  omega
/- from a ball's middle to a place -/
def AwE (a b c x y z p q r : Int) : Prop := x - a = p ∧ y - b = q ∧ z - c = r
theorem awB {a b c x y z p q r : Int} (h : Vok a b c 400) (k : Vok x y z 800) (e : AwE a b c x y z p q r) : Vok p q r 1200 := by
  obtain ⟨rfl, rfl, rfl⟩ := e
  unfold Vok at *
  omega
theorem iMinusV (a b c x y z p q r : Int) (w : World) (h : Vok a b c 1048576) (k : Vok x y z 1048576) (e : AwE x y z a b c p q r) :
    Calls Tryz.prog 133 #[.agg #[.int .i64 (a), .int .i64 (b), .int .i64 (c)], .agg #[.int .i64 (x), .int .i64 (y), .int .i64 (z)]] w fun e w' => e = .returned (.agg #[.int .i64 (p), .int .i64 (q), .int .i64 (r)]) ∧ Below w.heap.size w w' := by
  obtain ⟨rfl, rfl, rfl⟩ := e
  exact iMinus_yes a b c x y z w h k
theorem sNegV (x y z : Int) (w : World) (h : Vok x y z 1048576) :
    Calls Tryz.prog 156 #[.agg #[.int .i64 (x), .int .i64 (y), .int .i64 (z)], .int .i64 (-1)] w fun e w' => e = .returned (.agg #[.int .i64 (-x), .int .i64 (-y), .int .i64 (-z)]) ∧ Below w.heap.size w w' :=
  (l2Times_any x y z (-1) w h (by omega) (by omega)).mono fun _ _ ⟨he, hw⟩ => ⟨by rw [he]; exact vec_eq (by omega) (by omega) (by omega), hw⟩
theorem sSubV (a b c x y z p q r : Int) (w : World) (h : Vok x y z 1152921504606846976) (k : Vok (-a) (-b) (-c) 1152921504606846976) (e : AwE a b c x y z p q r) :
    Calls Tryz.prog 155 #[.agg #[.int .i64 (x), .int .i64 (y), .int .i64 (z)], .agg #[.int .i64 (-a), .int .i64 (-b), .int .i64 (-c)]] w fun e w' => e = .returned (.agg #[.int .i64 (p), .int .i64 (q), .int .i64 (r)]) ∧ Below w.heap.size w w' := by
  obtain ⟨rfl, rfl, rfl⟩ := e
  exact (l2Plus_any x y z (-a) (-b) (-c) w h k).mono fun _ _ ⟨he, hw⟩ => ⟨by rw [he]; exact vec_eq (by omega) (by omega) (by omega), hw⟩
theorem l4AwayV (a b c d x y z p q r : Int) (w : World) (h : Vok a b c 400) (k : Vok x y z 800) (e : AwE a b c x y z p q r) :
    Calls Tryz.prog 190 #[.agg #[.int .i64 (a), .int .i64 (b), .int .i64 (c), .int .i64 (d)], .agg #[.int .i64 (x), .int .i64 (y), .int .i64 (z)]] w fun e w' => e = .returned (.agg #[.int .i64 (p), .int .i64 (q), .int .i64 (r)]) ∧ Below w.heap.size w w' := by
  have V1 := Lib.hid (vokUp h (by omega))
  have V2 : Hid (Vok x y z 1152921504606846976) := Lib.hid (by unfold Vok at *; omega)
  have V3 : Hid (Vok (-a) (-b) (-c) 1152921504606846976) := Lib.hid (by unfold Vok at *; omega)
  have E := Lib.hid e
  clear h k e
  go_enter Tryz.func190, Tryz.ntmps190
  go_upto_region 1 with fail
  (refine wp_region_held1 5 (by kernel_rfl) (by kernel_rfl) rfl (fun _ _ _ d _ h => by cases d <;> exact h) ?_; intro Fq hFq; simp only [List.take_succ_cons, List.take_zero])
  repeat (first | (refine wpHeld_run ?_ rfl ?_ ?_; rotate_left; (focus (intro w' hbq Kq hKq; ((try (have B0 := Jb (b := w.heap.size) (by repeat' (first|with_reducible (first|assumption|apply J0|apply J1|apply J2|apply J3|apply J4|apply J5|apply J6|apply J7|apply J8|apply J9)|(with_reducible show _ ≠ _;first|omega|(simp;done)))) hbq; have C0 := Jc B0; have F0 := Jf B0)); (try (have B1 := Jb (b := w.heap.size + 1) (by repeat' (first|with_reducible (first|assumption|apply J0|apply J1|apply J2|apply J3|apply J4|apply J5|apply J6|apply J7|apply J8|apply J9)|(with_reducible show _ ≠ _;first|omega|(simp;done)))) hbq; have C1 := Jc B1; have F1 := Jf B1)); (try (have B2 := Jb (b := w.heap.size + 1 + 1) (by repeat' (first|with_reducible (first|assumption|apply J0|apply J1|apply J2|apply J3|apply J4|apply J5|apply J6|apply J7|apply J8|apply J9)|(with_reducible show _ ≠ _;first|omega|(simp;done)))) hbq; have C2 := Jc B2; have F2 := Jf B2))); go_simp; (try (rw [IntWalk.i64_in]; rotate_left; focus (constructor <;> omega))); first | exact hKq _ (Below.refl _ _) | first | (go_at_call 156; ((with_reducible refine (sNegV _ _ _ _ V1.out).mono ?_); rintro e w2 ⟨rfl, hbr⟩; refine back ?_; exact hKq _ hbr)) | (go_at_call 155; ((with_reducible refine (sSubV _ _ _ _ _ _ _ _ _ _ V2.out V3.out E.out).mono ?_); rintro e w2 ⟨rfl, hbr⟩; refine back ?_; exact hKq _ hbr)))); ((try simp only [Act.put, List.setIfInBounds_toArray, List.set_cons_zero, List.set_cons_succ]))) | (refine wpHeld_skip (by rfl) ?_; ((try simp only [Act.put, List.setIfInBounds_toArray, List.set_cons_zero, List.set_cons_succ]))))
  (refine wpHeld_nil (hFq _ ?_); clear hFq; intro w' hbq; ((try (have B0 := Jb (b := w.heap.size) (by repeat' (first|with_reducible (first|assumption|apply J0|apply J1|apply J2|apply J3|apply J4|apply J5|apply J6|apply J7|apply J8|apply J9)|(with_reducible show _ ≠ _;first|omega|(simp;done)))) hbq; have C0 := Jc B0; have F0 := Jf B0)); (try (have B1 := Jb (b := w.heap.size + 1) (by repeat' (first|with_reducible (first|assumption|apply J0|apply J1|apply J2|apply J3|apply J4|apply J5|apply J6|apply J7|apply J8|apply J9)|(with_reducible show _ ≠ _;first|omega|(simp;done)))) hbq; have C1 := Jc B1; have F1 := Jf B1)); (try (have B2 := Jb (b := w.heap.size + 1 + 1) (by repeat' (first|with_reducible (first|assumption|apply J0|apply J1|apply J2|apply J3|apply J4|apply J5|apply J6|apply J7|apply J8|apply J9)|(with_reducible show _ ≠ _;first|omega|(simp;done)))) hbq; have C2 := Jc B2; have F2 := Jf B2))))
  go_wp2
  refine bodyPost_ret (v := .agg #[.int .i64 (p), .int .i64 (q), .int .i64 (r)]) (by simp [results, Tryz.results190, go_sem, *]) rfl ⟨vec_eq (by first | rfl | omega) (by first | rfl | omega) (by first | rfl | omega), ?_⟩; (repeat' (first|with_reducible (first|exact lowRefl _|apply lowSet|apply lowDrew|apply lowDrewN|apply lowAlloc)|(with_reducible refine lowCall ?_ (by assumption))|(show (_ : Nat) ≤ _;first|(simp;done)|(simp;omega)|omega)))

theorem sqB {d : Int} (h1 : 1 ≤ d) (h2 : d ≤ 200) : 0 ≤ d * d ∧ d * d ≤ 40000 := by
  have := mulb d d 200 (by omega) (by omega) (by omega) (by omega)
  have := sqn d
  omega
end Go.Proofs.YtegibpepdndocabGreat
end
