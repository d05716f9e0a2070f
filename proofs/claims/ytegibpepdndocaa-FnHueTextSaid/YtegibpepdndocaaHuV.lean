
import Derived.Test.YtegibpepdndocaaHuF
import Derived.Test.YtegibpepdndocaaHuT
import Derived.Test.YtegibpepdndocaaHeldM
import Derived.Laws.DeepStrings4
namespace Go.Proofs.Ytegibpepdndocaa
open Go.ChangeShapes Go.WideShapes Go.ChangeAt Go.RowKit
set_option linter.unusedSimpArgs false
set_option linter.unusedVariables false
set_option maxHeartbeats 4000000
set_option maxRecDepth 8000

theorem of_any (Q : ByteArray → Prop) (B g n c m b k cap : Nat) (A : Option Addr) (w : World) (hr : Rd w B g A n c m) (hm : m ≤ 1000000) (hbg : b ≠ g) (hlt : b < w.heap.size) (hk0 : 0 < k) (hk1 : k ≤ 1000)
    (hL : ∀ i, i < k → ∃ z, w.cell? ⟨b, i, none⟩ = some (.string z) ∧ Q z) :
    Calls Try.prog 67 #[.pointer (some ⟨g, 0, none⟩), .slice (some ⟨b, 0, none⟩) k cap] w fun e w' => ∃ z, e = .returned (.string z) ∧ Q z ∧ Rd w' B g A n c (m + 1) ∧ w.grownBy w' (some g) := by
  have HL := Lib.hid hL
  clear hL
  go_enter Try.func67, Try.ntmps67
  go_wp2_with fail
  refine (pick_any B g n c m A _ w hr hm (by omega)).mono ?_
  rintro e w1 ⟨v, rfl, h0, h1, hr1, hg1⟩
  obtain ⟨i, rfl⟩ := Int.eq_ofNat_of_zero_le h0
  obtain ⟨z, hz, hQ⟩ := HL.out i (by omega)
  have hz1 : w1.cell? ⟨b, i, none⟩ = some (.string z) := by rw [World.cell?_of_block (hg1.block b hlt (by simpa using hbg))]; exact hz
  have hi : i < k := by omega
  go_wp2
  go_ret
  exact ⟨z, rfl, hQ, hr1, hg1⟩
/- what HueText tells has at most six bytes -/
theorem sHueText_some (x y z : Int) : ∃ s : ByteArray, s.size ≤ 6 ∧ ∀ w, Calls Try.prog 35 #[.agg #[.int .i64 (x), .int .i64 (y), .int .i64 (z)]] w fun e w' => e = .returned (.string s) ∧ Below w.heap.size w w' := by
  by_cases h : Hok x y z
  · exact ⟨⟨#[hx (x / 16), hx (x % 16), hx (y / 16), hx (y % 16), hx (z / 16), hx (z % 16)]⟩, Nat.le_refl 6, fun w => sHueText_yes x y z w h⟩
  · exact ⟨⟨#[]⟩, Nat.zero_le 6, fun w => sHueText_no x y z w h⟩
attribute [local go_sem] VGo_value VGo_skip VGo_enter
theorem drawHueRead_any (A : Option Addr) (n' c : Nat) (w : World) (hnc : n' ≤ c) (hcap : c ≤ 9223372036854775807) (hcode : Code w w.heap.size A n') :
    Calls Try.prog 44 #[.slice A n' c] w fun e w' => ∃ s : ByteArray, e = .returned (.string s) ∧ s.size ≤ 1000 ∧ Below w.heap.size w w' := by
  go_enter Try.func44, Try.ntmps44
  go_upto_region 2 with (go_at_call 60; refine (open_any _ _ _ _ hnc hcap hcode).mono ?_; rintro e w1 ⟨g, n, rfl, hrd, hlow⟩)
  have hlo := hrd.lo
  go_upto_region 3 with (first | (go_at_call 61; (with_reducible refine (l9Hue_any w.heap.size g n c _ A _ hrd (by omega)).mono ?_); rintro e w2 ⟨x, y, z, rfl, hrd2, hby⟩; obtain ⟨s, hs6, hT⟩ := sHueText_some x y z; have HT := Lib.hid hT; clear hT) | (go_at_call 35; (with_reducible refine (HT.out _).mono ?_); rintro e w3 ⟨rfl, hb3⟩))
  have hL3 := lowCall (lowBy hlow hby hlow.size (by omega)) hb3
  have hrd3 := hrd2.below hb3
  clear hrd hrd2 hby hb3 hlow HT hcode
  have hrd := hrd3
  have hL := hL3
  clear hrd3 hL3
  by_cases hs0 : 0 < s.size
  · have hs1 : (0 : Int) < (s.size : Int) := by omega
    go_upto_region 4 with (go_at_call 66; (with_reducible refine (pick_any w.heap.size g n c _ A _ _ hrd (by omega) (by omega)).mono ?_); rintro e w' ⟨v, rfl, h0, h1, hrd4, hby4⟩; have hL4 := lowBy hL hby4 hL.size (by omega))
    · go_upto_region 5 with (go_at_call 66; (with_reducible refine (pick_any w.heap.size g n c _ A _ _ hrd4 (by omega) (by omega)).mono ?_); rintro e w5 ⟨k, rfl, k0, k1, hrd5, hby5⟩; have hL5 := lowBy hL4 hby5 hL4.size (by omega))
      have k2 : k < (s.size : Int) := by omega
      have k3 : k ≤ (s.size : Int) := by omega
      clear hrd hrd4 hL hL4 hby4 hby5 h0 h1
      obtain ⟨B, hB⟩ : ∃ B, w.heap.size = B := ⟨_, rfl⟩
      have hrd : Rd w5 B g A n c 13 := by rw [← hB]; exact hrd5.mono (by omega)
      have HB := Lib.hid hB
      clear hB hrd5
      have hgB : g < w5.heap.size := hrd.lt
      have z1 : (s.extract 0 k.toNat).size ≤ 6 := by simp only [ByteArray.size_extract]; omega
      (refine wp_region_heldM [(true, 0), (true, 1), (true, 2), (true, 3), (true, 7), (true, 8), (true, 9), (false, 4), (false, 5), (true, 6), (false, 10), (true, 11), (true, 12), (true, 13)] g (by kernel_rfl) (by kernel_rfl) (fun _ _ _ d _ h => by cases d <;> exact h) (fun w => Rd w B g A n c (13)) rd_stab (hrd.drewN 1) ?_; intro Fq hFq; simp only [schL, List.getElem?_cons_zero, List.getElem?_cons_succ, List.length_cons, List.length_nil, List.drop_succ_cons, List.drop_zero])
      repeat ((refine wpM_run ?_ rfl ?_ ?_; rotate_left; (focus (intro w' hbq Kq hKq; go_simp; (try (rw [IntWalk.i64_in]; rotate_left; focus (constructor <;> omega))); first | exact hKq _ (Below.refl _ _) | fail)); ((try simp only [Act.put, List.setIfInBounds_toArray, List.set_cons_zero, List.set_cons_succ]))))
      refine wpM_op (fun v w => ∃ b, v = .slice (some ⟨b, 0, none⟩) 5 5 ∧ b ≠ g ∧ Has w b #[.string ⟨#[]⟩, .string ⟨#[103]⟩, .string ⟨#[65]⟩, .string ⟨#[48]⟩, .string ⟨#[102, 102]⟩] 9 ∧ Rd w B g A n c 13) (fun w1 hS1 hF1 K hK => ?_) ?_
      · go_simp
        exact hK _ _ (World.grownBy_alloc w1 _ (some g)) ⟨_, rfl, by have := hF1.lt; omega, Has.new _ _ _, hF1.alloc _⟩
      rintro v1 w1 ⟨b, rfl, hbg, hF1⟩
      refine ⟨fun w => Has w b #[.string ⟨#[]⟩, .string ⟨#[103]⟩, .string ⟨#[65]⟩, .string ⟨#[48]⟩, .string ⟨#[102, 102]⟩] 9 ∧ Rd w B g A n c 13, fun w w' h hb => ⟨h.1.below hb, h.2.below hb⟩, hF1, ?_⟩
      clear hF1 w1
      ((try simp only [Act.put, List.setIfInBounds_toArray, List.set_cons_zero, List.set_cons_succ]))
      refine wpM_op (fun v w => ∃ z : ByteArray, v = .string z ∧ z.size ≤ 2 ∧ Rd w B g A n c 14) (fun w1 hS1 hF1 K hK => ?_) ?_
      · go_simp
        go_at_call 67
        (with_reducible refine (of_any (fun z => z.size ≤ 2) B g n c _ b 5 5 A _ hF1.2 (by omega) hbg (Has.lt hF1.1) (by omega) (by omega) ?_).mono ?_)
        · intro i hi
          have hc := Has.cell hF1.1 i
          have : i = 0 ∨ i = 1 ∨ i = 2 ∨ i = 3 ∨ i = 4 := by omega
          rcases this with rfl | rfl | rfl | rfl | rfl
          · exact ⟨_, hc, Nat.zero_le _⟩
          · exact ⟨_, hc, (by decide : 1 ≤ 2)⟩
          · exact ⟨_, hc, (by decide : 1 ≤ 2)⟩
          · exact ⟨_, hc, (by decide : 1 ≤ 2)⟩
          · exact ⟨_, hc, Nat.le_refl 2⟩
        rintro e w2 ⟨z, rfl, hz, hrd4, hby4⟩
        exact back (hK _ _ hby4 ⟨_, rfl, hz, hrd4⟩)
      rintro v1 w1 ⟨z, rfl, hz2, hF1⟩
      ((refine ⟨fun w => Rd w B g A n c (14), rd_stab, hF1, ?_⟩; clear hF1 w1; ((try simp only [Act.put, List.setIfInBounds_toArray, List.set_cons_zero, List.set_cons_succ]))))
      repeat ((refine wpM_run ?_ rfl ?_ ?_; rotate_left; (focus (intro w' hbq Kq hKq; go_simp; (try (rw [IntWalk.i64_in]; rotate_left; focus (constructor <;> omega))); first | exact hKq _ (Below.refl _ _) | (rw [if_neg (by omega)]; exact hKq _ (Below.refl _ _)))); ((try simp only [Act.put, List.setIfInBounds_toArray, List.set_cons_zero, List.set_cons_succ]))))
      ((refine wpM_op (fun v w => ∃ p : Int, v = .int .i64 p ∧ 0 ≤ p ∧ (p < 2 ∨ p = 0) ∧ Rd w B g A n c (15)) (fun w1 hS1 hF1 K hK => ?_) ?_; (focus (go_simp; go_at_call 66; (with_reducible refine (pick_any B g n c _ A _ _ hF1 (by omega) (by omega)).mono ?_); rintro e w2 ⟨p, rfl, q0, q1, hrd4, hby4⟩; exact back (hK _ _ hby4 ⟨_, rfl, q0, q1, hrd4⟩))); rintro v1 w1 ⟨q, rfl, q0, q1, hF1⟩; ((refine ⟨fun w => Rd w B g A n c (15), rd_stab, hF1, ?_⟩; clear hF1 w1; ((try simp only [Act.put, List.setIfInBounds_toArray, List.set_cons_zero, List.set_cons_succ]))))))
      have s1 : 0 ≤ k + q := by omega
      have s2 : k + q ≤ (s.size : Int) := by omega
      repeat ((refine wpM_run ?_ rfl ?_ ?_; rotate_left; (focus (intro w' hbq Kq hKq; go_simp; (try (rw [IntWalk.i64_in]; rotate_left; focus (constructor <;> omega))); first | exact hKq _ (Below.refl _ _) | (rw [if_neg (by omega)]; exact hKq _ (Below.refl _ _)))); ((try simp only [Act.put, List.setIfInBounds_toArray, List.set_cons_zero, List.set_cons_succ]))))
      refine wpM_nil (hFq _ _ ?_)
      intro w6 hS hrd2
      have hL6 := lowBy (lowDrew hL5) hS hL5.size (by rw [HB.out]; have := hrd.lo; omega)
      clear hFq
      go_wp2
      go_ret
      exact ⟨_, rfl, by rw [ByteArray.size_append, ByteArray.size_append, ByteArray.size_extract, ByteArray.size_extract]; omega, hL6⟩
    · go_ret
      exact ⟨s, rfl, by omega, hL4⟩
  · have hs1 : s.size = 0 := by omega
    go_wp2
    go_ret
    exact ⟨s, rfl, by omega, hL⟩
end Go.Proofs.Ytegibpepdndocaa
