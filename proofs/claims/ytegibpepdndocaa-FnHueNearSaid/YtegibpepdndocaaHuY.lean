
import Derived.Test.YtegibpepdndocaaHuX
import Derived.Test.YtegibpepdndocaaHuN
import Derived.Test.YtegibpepdndocaaHuE
import Derived.Deep.Cut
namespace Go.Proofs.Ytegibpepdndocaa
open Go.ChangeShapes Go.WideShapes Go.ChangeAt Go.RowKit
set_option linter.unusedSimpArgs false
set_option linter.unusedVariables false
set_option maxHeartbeats 4000000
set_option maxRecDepth 8000

theorem nrUp_min (F : Nat → Int) : ∀ (n k : Nat), k < n → nrUp F n = ((k : Int), F k) → ∀ i, i < n → F k ≤ F i ∧ (i < k → F k < F i)
  | 0, k, h, _ => by omega
  | n + 1, k, hk, h => by
    intro i hi
    by_cases ht : (nrUp F n).1 < 0 ∨ F n < (nrUp F n).2
    · rw [nrUp_take ht] at h
      simp only [Prod.mk.injEq] at h
      have hkn : n = k := by omega
      subst hkn
      rcases nrUp_facts F n with ⟨rfl, e⟩ | ⟨q, hq, e⟩
      · have hi0 : i = 0 := by omega
        subst hi0
        exact ⟨Int.le_refl _, fun h => by omega⟩
      · rw [e] at ht
        have ht2 : F n < F q := by
          rcases ht with ht | ht
          · simp at ht; omega
          · exact ht
        rcases Nat.lt_or_ge i n with h1 | h1
        · have := (nrUp_min F n q hq e i h1).1
          exact ⟨by omega, fun _ => by omega⟩
        · have hin : i = n := by omega
          subst hin
          exact ⟨Int.le_refl _, fun h => by omega⟩
    · rw [nrUp_keep ht] at h
      have hk2 : k < n := by
        rcases nrUp_facts F n with ⟨rfl, e⟩ | ⟨q, hq, e⟩
        · exact absurd (.inl (by rw [e]; decide)) ht
        · rw [e] at h
          simp only [Prod.mk.injEq] at h
          omega
      rcases Nat.lt_or_ge i n with h1 | h1
      · exact nrUp_min F n k hk2 h i h1
      · have hin : i = n := by omega
        subst hin
        rw [h] at ht
        exact ⟨by simp at ht; omega, fun h => by omega⟩
theorem hsq_zero (d : Int) : 0 ≤ d * d ∧ (d * d = 0 ↔ d = 0) := by
  refine ⟨?_, ⟨fun h => ?_, fun h => by rw [h]; rfl⟩⟩
  · rcases Int.le_total 0 d with h | h
    · exact Int.mul_nonneg h h
    · have := Int.mul_nonneg (show 0 ≤ -d by omega) (show 0 ≤ -d by omega)
      rwa [Int.neg_mul_neg] at this
  · rcases Int.mul_eq_zero.1 h with h | h <;> exact h
theorem hfar_comm (a b c x y z : Int) : hfar a b c x y z = hfar x y z a b c := by
  unfold hfar
  rw [show x - a = -(a - x) by omega, show y - b = -(b - y) by omega, show z - c = -(c - z) by omega, Int.neg_mul_neg, Int.neg_mul_neg, Int.neg_mul_neg]
theorem hfar_zero (a b c x y z : Int) : hfar a b c x y z = 0 ↔ a = x ∧ b = y ∧ c = z := by
  unfold hfar
  have ⟨p1, q1⟩ := hsq_zero (a - x)
  have ⟨p2, q2⟩ := hsq_zero (b - y)
  have ⟨p3, q3⟩ := hsq_zero (c - z)
  constructor
  · intro h
    have h1 : (a - x) * (a - x) = 0 := by omega
    have h2 : (b - y) * (b - y) = 0 := by omega
    have h3 : (c - z) * (c - z) = 0 := by omega
    have := q1.1 h1
    have := q2.1 h2
    have := q3.1 h3
    omega
  · rintro ⟨rfl, rfl, rfl⟩
    simp
attribute [-go_sem] run_eql_struct run_neq_struct
attribute [local go_sem] VGo_value VGo_skip VGo_enter eqlHue neqHue
theorem lawHueNearF {A : Option Addr} {n c : Nat} {w : World} (hnc : n ≤ c) (hcap : c ≤ 9223372036854775807) (hcode : Code w w.heap.size A n) :
    Calls Try.prog 14 #[.slice A n c] w fun e w' => e = .returned (.bool true) ∧ Below w.heap.size w w' := by
  by_cases hn : n ≤ 1048576
  · go_enter Try.func14, Try.ntmps14
    go_upto_region 4 with (go_at_call 42; refine (drawHueNear_any A n c _ hnc hcap hcode).mono ?_; rintro e w' ⟨vl, l, x, y, z, rfl, hl17, hr, hL⟩)
    refine (fun (kk : ∀ wm, Has wm w'.heap.size #[.int .i64 (x), .int .i64 (y), .int .i64 (z)] 25 → HuIn wm vl l → Below w.heap.size w wm → Code.wp _ _ _ _ wm) => kk _ ?_ ?_ ?_) ?_
    · (refine Has.as (by repeat' (first | with_reducible assumption | with_reducible apply Has.new | with_reducible apply Has.new1 | with_reducible apply Has.new2 | with_reducible apply Has.new3 | with_reducible apply Has.new4 | with_reducible apply Has.drew | with_reducible apply Has.drewN | with_reducible apply Has.alloc | with_reducible apply Has.same | with_reducible apply Has.other | (with_reducible show _ ≠ _; first | omega | (simp; done)))) ?_; first | (with_reducible rfl) | (simp only [List.setIfInBounds_toArray, List.set_cons_zero, List.set_cons_succ]; done) | (simp only [List.setIfInBounds_toArray, List.set_cons_zero, List.set_cons_succ]; rfl) | rfl | (simp; done))
    · exact HuRow.seen (hr.alloc _)
    · repeat' (first | with_reducible exact lowRefl _ | with_reducible apply lowSet | with_reducible apply lowDrew | with_reducible apply lowDrewN | with_reducible apply lowAlloc | (with_reducible refine lowCall ?_ (by assumption)) | (show (_ : Nat) ≤ _; first | (simp; done) | (simp; omega) | omega))
    clear hL hr hcode
    generalize w'.heap.size = bH
    intro wm BH hl hL
    obtain ⟨A0, c0, rfl, -⟩ := id hl
    have HL := Lib.hid hl
    clear hl
    have CH := Has.cell BH
    go_upto_region 5 with (go_at_call 33; (with_reducible refine (iHueNear_any l _ ⟨x, y, z⟩ _ HL.out (by omega)).mono ?_); rintro e w2 ⟨rfl, b2⟩)
    have HL2 := Lib.hid (HL.out.below b2)
    have BH2 := BH.below b2
    have hL2 := lowCall hL b2
    clear HL BH CH hL b2
    have CH := Has.cell BH2
    have hdec : hnr l ⟨x, y, z⟩ = -1 ∨ ∃ k : Nat, hnr l ⟨x, y, z⟩ = k ∧ k < l.length ∧ NrP l ⟨x, y, z⟩ ∧ nrUp (hF l ⟨x, y, z⟩) l.length = ((k : Int), hF l ⟨x, y, z⟩ k) := by
      by_cases hp : NrP l ⟨x, y, z⟩
      · rw [hnr_yes hp]
        rcases nrUp_facts (hF l ⟨x, y, z⟩) l.length with ⟨h0, e⟩ | ⟨k, hk, e⟩
        · exact .inl (by rw [e])
        · exact .inr ⟨k, by rw [e], hk, hp, e⟩
      · exact .inl (hnr_no hp)
    rcases hdec with he | ⟨k, he, hk, hp, hu⟩
    · have HE := Lib.hid he
      rw [he]
      clear he
      go_wp2_with (go_at_call 31; (with_reducible refine (sHueNear_any l _ ⟨x, y, z⟩ _ (by first | exact HL2.out | exact HL2.out.below (by assumption)) (by omega)).mono ?_); rintro e w3 ⟨rfl, b3⟩; rw [HE.out]; (try have BH3 := BH2.below b3); (try have C3 := Has.cell BH3))
      go_ret
      exact ⟨by first | rfl | (simp; done), lowCall (lowCall hL2 (by assumption)) (by assumption)⟩
    · have HE := Lib.hid he
      have HU := Lib.hid (nrUp_min (hF l ⟨x, y, z⟩) l.length k hk hu)
      have HP := Lib.hid hp
      rw [he]
      clear he hu hp
      have hk17 : k ≤ 17 := by omega
      go_upto_region 7 with (go_at_call 31; (with_reducible refine (sHueNear_any l _ ⟨x, y, z⟩ _ HL2.out (by omega)).mono ?_); rintro e w3 ⟨rfl, b3⟩; rw [HE.out])
      have HL3 := Lib.hid (HL2.out.below b3)
      have BH3 := BH2.below b3
      have hL3 := lowCall hL2 b3
      clear HL2 BH2 hL2 CH b3
      obtain ⟨A1, c1, ev, hA⟩ := HL3.out
      simp only [Value.slice.injEq] at ev
      obtain ⟨rfl, -, rfl⟩ := ev
      obtain ⟨b, off, rfl, hf⟩ := hA (by omega)
      have HF := Lib.hid hf
      clear hA hf
      have hki : (k : Int) < (l.length : Int) := by omega
      have NK : ∀ w', Below w3.drew.heap.size w3.drew w' → Tri w' b (off + k * 3) l[k] := fun w' h => (HF.out k hk).below (undrew h)
      have G1 := Lib.hid (HP.out.2.1 k hk hk)
      have G2 := Lib.hid HP.out.2.2
      (first | (refine wp_region_held1 6 (by kernel_rfl) (by kernel_rfl) rfl (fun _ _ _ d _ h => by cases d <;> exact h) ?_; intro Fq hFq; simp only [List.take_succ_cons, List.take_zero]) | (refine wp_region_plain1 6 rfl ?_; intro Fq hFq; simp only [List.take_succ_cons, List.take_zero]))
      repeat (first | (refine wpHeld_skip (by rfl) ?_; ((try simp only [Act.put, List.setIfInBounds_toArray, List.set_cons_zero, List.set_cons_succ]))) | (refine wpHeld_run ?_ rfl ?_ ?_; rotate_left; (focus (intro w' hbq Kq hKq; go_simp; (try (rw [IntWalk.i64_in]; rotate_left; focus (constructor <;> omega))); first | exact hKq _ (Below.refl _ _) | first | (go_at_call 29; ((with_reducible refine (iHueFar_yes l[k].r l[k].g l[k].b x y z _ G1.out G2.out).mono ?_); rintro e w2 ⟨rfl, hbr⟩; refine back ?_; exact hKq _ hbr)) | (have C0 := Has.cell (BH3.below (undrew hbq)); go_simp; exact hKq _ (Below.refl _ _)) | (obtain ⟨a0, a1, a2⟩ := NK _ hbq; go_simp; exact hKq _ (Below.refl _ _)))); ((try simp only [Act.put, List.setIfInBounds_toArray, List.set_cons_zero, List.set_cons_succ]))))
      (refine wpHeld_nil (hFq _ ?_); clear hFq; intro w' hbq; ((try (have B0 := Has.below (b := w.heap.size) (by repeat' (first | with_reducible assumption | with_reducible apply Has.new | with_reducible apply Has.new1 | with_reducible apply Has.new2 | with_reducible apply Has.new3 | with_reducible apply Has.new4 | with_reducible apply Has.drew | with_reducible apply Has.drewN | with_reducible apply Has.alloc | with_reducible apply Has.same | with_reducible apply Has.other | (with_reducible show _ ≠ _; first | omega | (simp; done)))) hbq; have C0 := Has.cell B0; have F0 := Has.frozen B0)); (try (have B1 := Has.below (b := w.heap.size + 1) (by repeat' (first | with_reducible assumption | with_reducible apply Has.new | with_reducible apply Has.new1 | with_reducible apply Has.new2 | with_reducible apply Has.new3 | with_reducible apply Has.new4 | with_reducible apply Has.drew | with_reducible apply Has.drewN | with_reducible apply Has.alloc | with_reducible apply Has.same | with_reducible apply Has.other | (with_reducible show _ ≠ _; first | omega | (simp; done)))) hbq; have C1 := Has.cell B1; have F1 := Has.frozen B1)); (try (have B2 := Has.below (b := w.heap.size + 1 + 1) (by repeat' (first | with_reducible assumption | with_reducible apply Has.new | with_reducible apply Has.new1 | with_reducible apply Has.new2 | with_reducible apply Has.new3 | with_reducible apply Has.new4 | with_reducible apply Has.drew | with_reducible apply Has.drewN | with_reducible apply Has.alloc | with_reducible apply Has.same | with_reducible apply Has.other | (with_reducible show _ ≠ _; first | omega | (simp; done)))) hbq; have C2 := Has.cell B2; have F2 := Has.frozen B2)); (try (have B3 := Has.below (b := w.heap.size + 1 + 1 + 1) (by repeat' (first | with_reducible assumption | with_reducible apply Has.new | with_reducible apply Has.new1 | with_reducible apply Has.new2 | with_reducible apply Has.new3 | with_reducible apply Has.new4 | with_reducible apply Has.drew | with_reducible apply Has.drewN | with_reducible apply Has.alloc | with_reducible apply Has.same | with_reducible apply Has.other | (with_reducible show _ ≠ _; first | omega | (simp; done)))) hbq; have C3 := Has.cell B3; have F3 := Has.frozen B3)); (try (have BX := Has.below (b := bX) (by repeat' (first | with_reducible assumption | with_reducible apply Has.new | with_reducible apply Has.new1 | with_reducible apply Has.new2 | with_reducible apply Has.new3 | with_reducible apply Has.new4 | with_reducible apply Has.drew | with_reducible apply Has.drewN | with_reducible apply Has.alloc | with_reducible apply Has.same | with_reducible apply Has.other | (with_reducible show _ ≠ _; first | omega | (simp; done)))) hbq; have CX := Has.cell BX; have FX := Has.frozen BX)); (try (have BY := Has.below (b := bY) (by repeat' (first | with_reducible assumption | with_reducible apply Has.new | with_reducible apply Has.new1 | with_reducible apply Has.new2 | with_reducible apply Has.new3 | with_reducible apply Has.new4 | with_reducible apply Has.drew | with_reducible apply Has.drewN | with_reducible apply Has.alloc | with_reducible apply Has.same | with_reducible apply Has.other | (with_reducible show _ ≠ _; first | omega | (simp; done)))) hbq; have CY := Has.cell BY; have FY := Has.frozen BY))))
      have hu4 := undrew hbq
      have BH4 := BH3.below hu4
      have hL4 := lowCall hL3 hu4
      have HF4 : Hid (∀ (i : Nat) (h : i < l.length), Tri w' b (off + i * 3) l[i]) := Lib.hid fun i h => (HF.out i h).below hu4
      clear HF HL3 BH3 hL3 hbq hu4 NK G1
      have hEk := hF_at (h := ⟨x, y, z⟩) hk
      obtain ⟨E, hE⟩ : ∃ E, hfar l[k].r l[k].g l[k].b x y z = E := ⟨_, rfl⟩
      have HUJ : Hid (∀ i (h : i < l.length), E ≤ hfar l[i].r l[i].g l[i].b x y z ∧ (i < k → E < hfar l[i].r l[i].g l[i].b x y z)) := Lib.hid fun i h => by
        have := HU.out i h
        rwa [hF_at h, hEk, hE] at this
      rw [hE]
      clear hEk hE HU
      go_wp2
      go_loopw [47] (fun i wr => ∃ j : Nat, j ≤ l.length ∧ i = .int .i64 j ∧ Below w'.heap.size w' wr) (fun i _ => l.length - (intOf i).toNat)
      case atStart => exact ⟨0, by omega, rfl, lowRefl w'⟩
      case round =>
        obtain ⟨j, hj, rfl, hb⟩ := hrel
        by_cases hc : j < l.length
        · have hjl : (j : Int) < (l.length : Int) := by omega
          obtain ⟨d0, d1, d2⟩ := (HF4.out j hc).below hb
          have B0 := BH4.below hb
          go_upto_region 11 with fail
          refine (fun (kk : ∀ wm, Has wm wr.heap.size #[.int .i64 (l[j].r), .int .i64 (l[j].g), .int .i64 (l[j].b)] 25 → Has wm bH #[.int .i64 (x), .int .i64 (y), .int .i64 (z)] 25 → Below w'.heap.size w' wm → Code.wp _ _ _ _ wm) => kk _ ?_ ?_ ?_) ?_
          · (refine Has.as (by repeat' (first | with_reducible assumption | with_reducible apply Has.new | with_reducible apply Has.new1 | with_reducible apply Has.new2 | with_reducible apply Has.new3 | with_reducible apply Has.new4 | with_reducible apply Has.drew | with_reducible apply Has.drewN | with_reducible apply Has.alloc | with_reducible apply Has.same | with_reducible apply Has.other | (with_reducible show _ ≠ _; first | omega | (simp; done)))) ?_; first | (with_reducible rfl) | (simp only [List.setIfInBounds_toArray, List.set_cons_zero, List.set_cons_succ]; done) | (simp only [List.setIfInBounds_toArray, List.set_cons_zero, List.set_cons_succ]; rfl) | rfl | (simp; done))
          · (refine Has.as (by repeat' (first | with_reducible assumption | with_reducible apply Has.new | with_reducible apply Has.new1 | with_reducible apply Has.new2 | with_reducible apply Has.new3 | with_reducible apply Has.new4 | with_reducible apply Has.drew | with_reducible apply Has.drewN | with_reducible apply Has.alloc | with_reducible apply Has.same | with_reducible apply Has.other | (with_reducible show _ ≠ _; first | omega | (simp; done)))) ?_; first | (with_reducible rfl) | (simp only [List.setIfInBounds_toArray, List.set_cons_zero, List.set_cons_succ]; done) | (simp only [List.setIfInBounds_toArray, List.set_cons_zero, List.set_cons_succ]; rfl) | rfl | (simp; done))
          · exact lowAlloc hb _
          clear d0 d1 d2 B0
          generalize wr.heap.size = bX
          clear hb wr
          intro wr BX B0 hb
          have CX := Has.cell BX
          have C0 := Has.cell B0
          have GJ := Lib.hid (HP.out.2.1 j hc hc)
          have hm := HUJ.out j hc
          obtain ⟨D, hD⟩ : ∃ D, hfar l[j].r l[j].g l[j].b x y z = D := ⟨_, rfl⟩
          rw [hD] at hm
          have HD := Lib.hid hD
          have HD2 := Lib.hid ((hfar_comm x y z l[j].r l[j].g l[j].b).trans hD)
          have hz := hfar_zero l[j].r l[j].g l[j].b x y z
          rw [hD] at hz
          clear hD
          go_upto_region 12 with (go_at_call 29; (with_reducible refine (iHueFar_yes l[j].r l[j].g l[j].b x y z _ GJ.out G2.out).mono ?_); rintro e w5 ⟨rfl, b5⟩; rw [HD.out])
          have BX5 := BX.below b5
          have B05 := B0.below b5
          have hb5 := lowCall hb b5
          clear BX B0 CX C0 hb b5
          have CX := Has.cell BX5
          have C0 := Has.cell B05
          have e1 : decide (D < E) = false := decide_eq_false (by omega)
          have hdz : ((D == 0) = true ∧ (l[j].r == x) = true ∧ (l[j].g == y) = true ∧ (l[j].b == z) = true) ∨ ((D == 0) = false ∧ (l[j].r == x && (l[j].g == y && l[j].b == z)) = false) := by
            by_cases h0 : D = 0
            · obtain ⟨q1, q2, q3⟩ := hz.1 h0
              exact .inl ⟨by simpa using h0, by simpa using q1, by simpa using q2, by simpa using q3⟩
            · have hne : ¬ (l[j].r = x ∧ l[j].g = y ∧ l[j].b = z) := fun h => h0 (hz.2 h)
              refine .inr ⟨by simpa using h0, ?_⟩
              by_cases q1 : l[j].r = x
              · by_cases q2 : l[j].g = y
                · have q3 : ¬ l[j].b = z := fun q3 => hne ⟨q1, q2, q3⟩
                  simp [q3]
                · simp [q2]
              · simp [q1]
          clear hz
          rcases hdz with ⟨e4, e5, e6, e7⟩ | ⟨e4, e5⟩
          · by_cases h2 : D = E
            · have e2 : (D == E) = true := by simpa using h2
              have e3 : k ≤ j := Nat.le_of_not_lt (fun h => by have := hm.2 h; omega)
              clear hm h2
              go_wp2_with (go_at_call 29; (with_reducible refine (iHueFar_yes x y z l[j].r l[j].g l[j].b _ G2.out GJ.out).mono ?_); rintro e w6 ⟨rfl, b6⟩; rw [HD2.out]; have CX6 := Has.cell (BX5.below b6); have C06 := Has.cell (B05.below b6))
              go_roundw
              case rel => exact ⟨j + 1, by omega, by go_num, lowCall hb5 b6⟩
              case measure => simp [intOf]; omega
            · have e2 : (D == E) = false := by simpa using h2
              clear hm h2
              go_wp2_with (go_at_call 29; (with_reducible refine (iHueFar_yes x y z l[j].r l[j].g l[j].b _ G2.out GJ.out).mono ?_); rintro e w6 ⟨rfl, b6⟩; rw [HD2.out]; have CX6 := Has.cell (BX5.below b6); have C06 := Has.cell (B05.below b6))
              go_roundw
              case rel => exact ⟨j + 1, by omega, by go_num, lowCall hb5 b6⟩
              case measure => simp [intOf]; omega
          · by_cases h2 : D = E
            · have e2 : (D == E) = true := by simpa using h2
              have e3 : k ≤ j := Nat.le_of_not_lt (fun h => by have := hm.2 h; omega)
              clear hm h2
              go_wp2_with (go_at_call 29; (with_reducible refine (iHueFar_yes x y z l[j].r l[j].g l[j].b _ G2.out GJ.out).mono ?_); rintro e w6 ⟨rfl, b6⟩; rw [HD2.out]; have CX6 := Has.cell (BX5.below b6); have C06 := Has.cell (B05.below b6))
              go_roundw
              case rel => exact ⟨j + 1, by omega, by go_num, lowCall hb5 b6⟩
              case measure => simp [intOf]; omega
            · have e2 : (D == E) = false := by simpa using h2
              clear hm h2
              go_wp2_with (go_at_call 29; (with_reducible refine (iHueFar_yes x y z l[j].r l[j].g l[j].b _ G2.out GJ.out).mono ?_); rintro e w6 ⟨rfl, b6⟩; rw [HD2.out]; have CX6 := Has.cell (BX5.below b6); have C06 := Has.cell (B05.below b6))
              go_roundw
              case rel => exact ⟨j + 1, by omega, by go_num, lowCall hb5 b6⟩
              case measure => simp [intOf]; omega
        · obtain rfl : j = l.length := by omega
          go_wp2
          go_ret
          exact ⟨rfl, lowCall hL4 hb⟩
  · go_enter Try.func14, Try.ntmps14
    go_wp2
    go_ret; refine ⟨rfl, ?_⟩; (repeat' (first | with_reducible exact lowRefl _ | with_reducible apply lowSet | with_reducible apply lowDrew | with_reducible apply lowDrewN | with_reducible apply lowAlloc | (with_reducible refine lowCall ?_ (by assumption)) | (show (_ : Nat) ≤ _; first | (simp; done) | (simp; omega) | omega)))
theorem wFnHueNear {A : Option Addr} {n c : Nat} {w : World} (hnc : n ≤ c) (hcap : c ≤ 9223372036854775807) (hcode : Code w w.heap.size A n) :
    Calls Try.prog 14 #[.slice A n c] w fun e w' => e = .returned (.bool true) ∧ Below w.heap.size w w' := lawHueNearF hnc hcap hcode
end Go.Proofs.Ytegibpepdndocaa
