
import Derived.Test.YtdjmeeknahdbbaaSpnP
import Derived.Test.YtdjmeeknahdbbaaSpnK
namespace Go.Proofs.Ytdjmeeknahdbbaa
open Go.ChangeShapes Go.WideShapes Go.ChangeAt Go.RowKit
set_option maxHeartbeats 2000000
set_option maxRecDepth 8000
set_option linter.unusedSimpArgs false

theorem l5Told_any (l : List Sp) (v : Value) (B : Nat) (w : World) (h : SRow w B v l) (hl : l.length ≤ 100000) :
    Calls Try.prog 88 #[v] w fun e w' => ∃ v', e = .returned v' ∧ SRow w B v' (spTold l) ∧ w = w' := by
  obtain ⟨A, c, e1, _⟩ := SRow.shape0 h
  subst e1
  have H := Lib.hid h
  clear h
  by_cases h2 : 200 < l.length
  · rw [told_gt h2]
    go_enter Try.func88, Try.ntmps88
    go_wp2
    go_ret
    exact ⟨_, rfl, RowK.nil _ _ _ _, rfl⟩
  · rw [told_le (by omega)]
    go_enter Try.func88, Try.ntmps88
    go_wp2
    go_ret
    exact ⟨_, rfl, H.out, rfl⟩
theorem sspansBoth_any (a b : List Sp) (va vb : Value) (w : World) (ha : SIn w va a) (hb : SIn w vb b) (hla : a.length ≤ 9223372036854775807) (hlb : b.length ≤ 9223372036854775807) :
    Calls Try.prog 39 #[va, vb] w fun e w' => ∃ v', e = .returned v' ∧ SRow w' w.heap.size v' (spPut 0 a b) ∧ Below w.heap.size w w' := by
  have HA := Lib.hid ha
  have HB := Lib.hid hb
  clear ha hb
  cases hka : sOk a
  · rw [spPut_no (by rw [hka]; simp)]
    go_enter Try.func39, Try.ntmps39
    go_wp2_with (go_at_call 43; refine (sspansOk_any a va _ HA.out hla).mono ?_; rintro e w1 ⟨rfl, hb1⟩; rw [hka])
    go_ret
    exact ⟨_, rfl, RowK.nil _ _ _ _, hb1⟩
  cases hkb : sOk b
  · rw [spPut_no (by rw [hkb]; simp)]
    go_enter Try.func39, Try.ntmps39
    go_wp2_with (first | (go_at_call 43; (with_reducible refine (sspansOk_any a va _ HA.out hla).mono ?_); rintro e w1 ⟨rfl, hb1⟩; rw [hka]) | (go_at_call 43; (with_reducible refine (sspansOk_any b vb _ (HB.out.below hb1) hlb).mono ?_); rintro e w2 ⟨rfl, hb2⟩; rw [hkb]))
    go_ret
    exact ⟨_, rfl, RowK.nil _ _ _ _, lowCall hb1 hb2⟩
  rw [spPut_yes ⟨hka, hkb⟩]
  obtain ⟨hal, hga⟩ := (sOk_iff a).1 hka
  obtain ⟨hbl, hgb⟩ := (sOk_iff b).1 hkb
  have htl := total_le 0 a b
  have HGA := Lib.hid hga
  have HGB := Lib.hid hgb
  have HPUT := Lib.hid (fun w1 (h : Below w.heap.size w w1) => l5Put_any 0 (by omega) a b va vb w1 (HA.out.below h) (HB.out.below h) hal hbl hga hgb)
  clear hga hgb
  unfold putS
  generalize spTotal 0 a b = T at *
  go_enter Try.func39, Try.ntmps39
  go_wp2_with (first | (go_at_call 43; (with_reducible refine (sspansOk_any a va _ HA.out hla).mono ?_); rintro e w1 ⟨rfl, hb1⟩; rw [hka]) | (go_at_call 43; (with_reducible refine (sspansOk_any b vb _ (HB.out.below hb1) hlb).mono ?_); rintro e w2 ⟨rfl, hb2⟩; rw [hkb]; have hb3 := lowCall hb1 hb2) | (go_at_call 89; refine (HPUT.out _ hb3).mono ?_; rintro e w3 ⟨v3, rfl, hr3, hb4⟩) | (go_at_call 88; (with_reducible refine (l5Told_any T v3 _ _ hr3 (by omega)).mono ?_); rintro e w4 ⟨v4, rfl, hr4, rfl⟩))
  go_ret
  exact ⟨_, rfl, hr4.mono hb3.size, lowCall hb3 hb4⟩
theorem sspansEither_any (a b : List Sp) (va vb : Value) (w : World) (ha : SIn w va a) (hb : SIn w vb b) (hla : a.length ≤ 9223372036854775807) (hlb : b.length ≤ 9223372036854775807) :
    Calls Try.prog 40 #[va, vb] w fun e w' => ∃ v', e = .returned v' ∧ SRow w' w.heap.size v' (spPut 1 a b) ∧ Below w.heap.size w w' := by
  have HA := Lib.hid ha
  have HB := Lib.hid hb
  clear ha hb
  cases hka : sOk a
  · rw [spPut_no (by rw [hka]; simp)]
    go_enter Try.func40, Try.ntmps40
    go_wp2_with (go_at_call 43; refine (sspansOk_any a va _ HA.out hla).mono ?_; rintro e w1 ⟨rfl, hb1⟩; rw [hka])
    go_ret
    exact ⟨_, rfl, RowK.nil _ _ _ _, hb1⟩
  cases hkb : sOk b
  · rw [spPut_no (by rw [hkb]; simp)]
    go_enter Try.func40, Try.ntmps40
    go_wp2_with (first | (go_at_call 43; (with_reducible refine (sspansOk_any a va _ HA.out hla).mono ?_); rintro e w1 ⟨rfl, hb1⟩; rw [hka]) | (go_at_call 43; (with_reducible refine (sspansOk_any b vb _ (HB.out.below hb1) hlb).mono ?_); rintro e w2 ⟨rfl, hb2⟩; rw [hkb]))
    go_ret
    exact ⟨_, rfl, RowK.nil _ _ _ _, lowCall hb1 hb2⟩
  rw [spPut_yes ⟨hka, hkb⟩]
  obtain ⟨hal, hga⟩ := (sOk_iff a).1 hka
  obtain ⟨hbl, hgb⟩ := (sOk_iff b).1 hkb
  have htl := total_le 1 a b
  have HGA := Lib.hid hga
  have HGB := Lib.hid hgb
  have HPUT := Lib.hid (fun w1 (h : Below w.heap.size w w1) => l5Put_any 1 (by omega) a b va vb w1 (HA.out.below h) (HB.out.below h) hal hbl hga hgb)
  clear hga hgb
  unfold putS
  generalize spTotal 1 a b = T at *
  go_enter Try.func40, Try.ntmps40
  go_wp2_with (first | (go_at_call 43; (with_reducible refine (sspansOk_any a va _ HA.out hla).mono ?_); rintro e w1 ⟨rfl, hb1⟩; rw [hka]) | (go_at_call 43; (with_reducible refine (sspansOk_any b vb _ (HB.out.below hb1) hlb).mono ?_); rintro e w2 ⟨rfl, hb2⟩; rw [hkb]; have hb3 := lowCall hb1 hb2) | (go_at_call 89; refine (HPUT.out _ hb3).mono ?_; rintro e w3 ⟨v3, rfl, hr3, hb4⟩) | (go_at_call 88; (with_reducible refine (l5Told_any T v3 _ _ hr3 (by omega)).mono ?_); rintro e w4 ⟨v4, rfl, hr4, rfl⟩))
  go_ret
  exact ⟨_, rfl, hr4.mono hb3.size, lowCall hb3 hb4⟩
theorem sspansLess_any (a b : List Sp) (va vb : Value) (w : World) (ha : SIn w va a) (hb : SIn w vb b) (hla : a.length ≤ 9223372036854775807) (hlb : b.length ≤ 9223372036854775807) :
    Calls Try.prog 41 #[va, vb] w fun e w' => ∃ v', e = .returned v' ∧ SRow w' w.heap.size v' (spPut 2 a b) ∧ Below w.heap.size w w' := by
  have HA := Lib.hid ha
  have HB := Lib.hid hb
  clear ha hb
  cases hka : sOk a
  · rw [spPut_no (by rw [hka]; simp)]
    go_enter Try.func41, Try.ntmps41
    go_wp2_with (go_at_call 43; refine (sspansOk_any a va _ HA.out hla).mono ?_; rintro e w1 ⟨rfl, hb1⟩; rw [hka])
    go_ret
    exact ⟨_, rfl, RowK.nil _ _ _ _, hb1⟩
  cases hkb : sOk b
  · rw [spPut_no (by rw [hkb]; simp)]
    go_enter Try.func41, Try.ntmps41
    go_wp2_with (first | (go_at_call 43; (with_reducible refine (sspansOk_any a va _ HA.out hla).mono ?_); rintro e w1 ⟨rfl, hb1⟩; rw [hka]) | (go_at_call 43; (with_reducible refine (sspansOk_any b vb _ (HB.out.below hb1) hlb).mono ?_); rintro e w2 ⟨rfl, hb2⟩; rw [hkb]))
    go_ret
    exact ⟨_, rfl, RowK.nil _ _ _ _, lowCall hb1 hb2⟩
  rw [spPut_yes ⟨hka, hkb⟩]
  obtain ⟨hal, hga⟩ := (sOk_iff a).1 hka
  obtain ⟨hbl, hgb⟩ := (sOk_iff b).1 hkb
  have htl := total_le 2 a b
  have HGA := Lib.hid hga
  have HGB := Lib.hid hgb
  have HPUT := Lib.hid (fun w1 (h : Below w.heap.size w w1) => l5Put_any 2 (by omega) a b va vb w1 (HA.out.below h) (HB.out.below h) hal hbl hga hgb)
  clear hga hgb
  unfold putS
  generalize spTotal 2 a b = T at *
  go_enter Try.func41, Try.ntmps41
  go_wp2_with (first | (go_at_call 43; (with_reducible refine (sspansOk_any a va _ HA.out hla).mono ?_); rintro e w1 ⟨rfl, hb1⟩; rw [hka]) | (go_at_call 43; (with_reducible refine (sspansOk_any b vb _ (HB.out.below hb1) hlb).mono ?_); rintro e w2 ⟨rfl, hb2⟩; rw [hkb]; have hb3 := lowCall hb1 hb2) | (go_at_call 89; refine (HPUT.out _ hb3).mono ?_; rintro e w3 ⟨v3, rfl, hr3, hb4⟩) | (go_at_call 88; (with_reducible refine (l5Told_any T v3 _ _ hr3 (by omega)).mono ?_); rintro e w4 ⟨v4, rfl, hr4, rfl⟩))
  go_ret
  exact ⟨_, rfl, hr4.mono hb3.size, lowCall hb3 hb4⟩
end Go.Proofs.Ytdjmeeknahdbbaa
