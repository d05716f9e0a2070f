
import Derived.Test.YtdjmeeknahdbbaaSpn
import Derived.Deep.Cut
import Derived.Test.YtdjmeeknahdbbaaUnd
namespace Go.Proofs.Ytdjmeeknahdbbaa
open Go.ChangeShapes Go.WideShapes Go.ChangeAt Go.RowKit
set_option maxHeartbeats 1000000
set_option linter.unusedSimpArgs false
attribute [local go_sem] VGo_value VGo_skip VGo_enter

theorem take_set (l : List Sp) (j : Nat) (hj : j < l.length) (z : Sp) : (l.take j ++ List.replicate (l.length - j) z).set j l[j] = l.take (j + 1) ++ List.replicate (l.length - (j + 1)) z := by
  rw [List.set_append_right _ _ (by simp; omega)]
  have e : l.length - j = l.length - (j + 1) + 1 := by omega
  rw [e, List.replicate_succ, List.length_take, Nat.min_eq_left (by omega), Nat.sub_self, List.set_cons_zero, List.take_succ_eq_append_getElem hj, List.append_assoc]
  rfl
theorem toSpanS_any (l : List Sp) (v : Value) (w : World) (h : SIn w v l) (hl : l.length ≤ 1048576) :
    Calls Try.prog 54 #[v] w fun e w' => ∃ v', e = .returned v' ∧ SRow w' w.heap.size v' l ∧ Below w.heap.size w w' := by
  obtain ⟨A, c, rfl, hA⟩ := h
  have HA := Lib.hid hA
  clear hA
  go_enter Try.func54, Try.ntmps54
  go_wp2_with (refine make_k _ rfl _ _ 53 60 4 32 _ rfl Try.underlying53 infoSp _ rfl rfl (by omega) w.heap.size l.length rfl rfl (by omega) (by omega) (Nat.le_refl _) ?_)
  intro w1 hr hg
  have hb := grown_none (lowRefl w) hg
  clear hg
  go_wp2
  go_loopw [4] (fun i wr => ∃ j : Nat, j ≤ l.length ∧ i = .int .i64 j ∧ SRow wr w.heap.size (.slice (some ⟨w.heap.size, 0, none⟩) l.length l.length) (l.take j ++ List.replicate (l.length - j) Sp.z) ∧ Below w.heap.size w wr) (fun i _ => l.length - (intOf i).toNat)
  case atStart => exact ⟨0, by omega, rfl, ⟨by simpa [Sp.z, Sp.cells] using hr.own, cells_len⟩, hb⟩
  case round =>
    clear hr hb
    obtain ⟨j, hj, rfl, hr, hb⟩ := hrel
    by_cases hc : j < l.length
    · obtain ⟨b, off, rfl, hf⟩ := HA.out (by omega)
      obtain ⟨c0, c1, c2, c3⟩ := (hf j hc).below hb
      clear hf
      have hll : l.length = (l.take j ++ List.replicate (l.length - j) Sp.z).length := by simp; omega
      have Hll := Lib.hid hll
      clear hll
      go_wp2_with ((go_at_call 95; ((with_reducible refine (toSpan_any l[j] _).mono ?_); rintro e w' ⟨rfl, hbq⟩; (try (have B0 := Has.below (b := w.heap.size) (by repeat' (first | with_reducible assumption | with_reducible apply Has.new | with_reducible apply Has.new1 | with_reducible apply Has.new2 | with_reducible apply Has.new3 | with_reducible apply Has.new4 | with_reducible apply Has.drew | with_reducible apply Has.drewN | with_reducible apply Has.alloc | with_reducible apply Has.same | with_reducible apply Has.other | (with_reducible show _ ≠ _; first | omega | (simp; done)))) hbq; have C0 := Has.cell B0; have F0 := Has.frozen B0)); (try (have B1 := Has.below (b := w.heap.size + 1) (by repeat' (first | with_reducible assumption | with_reducible apply Has.new | with_reducible apply Has.new1 | with_reducible apply Has.new2 | with_reducible apply Has.new3 | with_reducible apply Has.new4 | with_reducible apply Has.drew | with_reducible apply Has.drewN | with_reducible apply Has.alloc | with_reducible apply Has.same | with_reducible apply Has.other | (with_reducible show _ ≠ _; first | omega | (simp; done)))) hbq; have C1 := Has.cell B1; have F1 := Has.frozen B1)); (try (have B2 := Has.below (b := w.heap.size + 1 + 1) (by repeat' (first | with_reducible assumption | with_reducible apply Has.new | with_reducible apply Has.new1 | with_reducible apply Has.new2 | with_reducible apply Has.new3 | with_reducible apply Has.new4 | with_reducible apply Has.drew | with_reducible apply Has.drewN | with_reducible apply Has.alloc | with_reducible apply Has.same | with_reducible apply Has.other | (with_reducible show _ ≠ _; first | omega | (simp; done)))) hbq; have C2 := Has.cell B2; have F2 := Has.frozen B2)); (try (have B3 := Has.below (b := w.heap.size + 1 + 1 + 1) (by repeat' (first | with_reducible assumption | with_reducible apply Has.new | with_reducible apply Has.new1 | with_reducible apply Has.new2 | with_reducible apply Has.new3 | with_reducible apply Has.new4 | with_reducible apply Has.drew | with_reducible apply Has.drewN | with_reducible apply Has.alloc | with_reducible apply Has.same | with_reducible apply Has.other | (with_reducible show _ ≠ _; first | omega | (simp; done)))) hbq; have C3 := Has.cell B3; have F3 := Has.frozen B3)); (try (have BX := Has.below (b := bX) (by repeat' (first | with_reducible assumption | with_reducible apply Has.new | with_reducible apply Has.new1 | with_reducible apply Has.new2 | with_reducible apply Has.new3 | with_reducible apply Has.new4 | with_reducible apply Has.drew | with_reducible apply Has.drewN | with_reducible apply Has.alloc | with_reducible apply Has.same | with_reducible apply Has.other | (with_reducible show _ ≠ _; first | omega | (simp; done)))) hbq; have CX := Has.cell BX; have FX := Has.frozen BX)); (try (have BY := Has.below (b := bY) (by repeat' (first | with_reducible assumption | with_reducible apply Has.new | with_reducible apply Has.new1 | with_reducible apply Has.new2 | with_reducible apply Has.new3 | with_reducible apply Has.new4 | with_reducible apply Has.drew | with_reducible apply Has.drewN | with_reducible apply Has.alloc | with_reducible apply Has.same | with_reducible apply Has.other | (with_reducible show _ ≠ _; first | omega | (simp; done)))) hbq; have CY := Has.cell BY; have FY := Has.frozen BY)))); have hr2 := hr.below hbq; obtain ⟨d0, d1, d2, d3⟩ := SRow.four hr2 Hll.out j (by rw [← Hll.out]; exact hc); have fz := RowK.frozen hr2 (by simpa using Hll.out); clear hr)
      obtain ⟨h4, g4⟩ := SRow.store4 hr2 Hll.out j (by rw [← Hll.out]; exact hc) l[j]
      rw [take_set l j hc] at h4
      go_roundw
      case rel => exact ⟨j + 1, by omega, by go_num, h4, (lowCall hb hbq).grown g4 (lowCall hb hbq).size (fun k hk => by injection hk with hk; omega)⟩
      case measure => simp [intOf]; omega
    · obtain rfl : j = l.length := by omega
      go_wp2
      go_ret
      exact ⟨_, rfl, by simpa using hr, hb⟩
theorem eqSpanS_yes (l : List Sp) (vA vB : Value) (w : World) (hA : SIn w vA l) (hB : SIn w vB l) (hl : l.length ≤ 9223372036854775807) :
    Calls Try.prog 55 #[vA, vB] w fun e w' => e = .returned (.bool true) ∧ Below w.heap.size w w' := by
  obtain ⟨A, c, rfl, fA⟩ := hA
  obtain ⟨B, d, rfl, fB⟩ := hB
  have FA := Lib.hid fA
  have FB := Lib.hid fB
  clear fA fB
  go_enter Try.func55, Try.ntmps55
  go_wp2
  go_loopw [5] (fun i wr => ∃ j : Nat, j ≤ l.length ∧ i = .int .i64 j ∧ Below w.heap.size w wr) (fun i _ => l.length - (intOf i).toNat)
  case atStart => exact ⟨0, by omega, rfl, lowRefl w⟩
  case round =>
    obtain ⟨j, hj, rfl, hb⟩ := hrel
    by_cases hc : j < l.length
    · obtain ⟨bA, oA, rfl, hA⟩ := FA.out (by omega)
      obtain ⟨bB, oB, rfl, hB⟩ := FB.out (by omega)
      have NA : ∀ w', Below wr.drew.heap.size wr.drew w' → Four w' bA (oA + j * 4) l[j] := fun w' h => ((hA j hc).below hb).below (undrew h)
      have NB : ∀ w', Below wr.drew.heap.size wr.drew w' → Four w' bB (oB + j * 4) l[j] := fun w' h => ((hB j hc).below hb).below (undrew h)
      clear hA hB
      go_wp2
      (refine wp_region_held0 (by kernel_rfl) (by kernel_rfl) (fun _ _ _ d _ h => by cases d <;> exact h) ?_; intro Fq hFq)
      repeat (first | (refine wpHeld_skip (by rfl) ?_; ((try simp only [Act.put, List.setIfInBounds_toArray, List.set_cons_zero, List.set_cons_succ]))) | (refine wpHeld_run ?_ rfl ?_ ?_; rotate_left; (focus (intro w' hbq Kq hKq; go_simp; (try (rw [IntWalk.i64_in]; rotate_left; focus (constructor <;> omega))); first | exact hKq _ (Below.refl _ _) | first | (go_at_call 96; ((with_reducible refine (eqSpan_yes l[j] _).mono ?_); rintro e w2 ⟨rfl, hbr⟩; refine back ?_; exact hKq _ hbr)) | (obtain ⟨a0, a1, a2, a3⟩ := NA _ hbq; go_simp; exact hKq _ (Below.refl _ _)) | (obtain ⟨a0, a1, a2, a3⟩ := NB _ hbq; go_simp; exact hKq _ (Below.refl _ _)))); ((try simp only [Act.put, List.setIfInBounds_toArray, List.set_cons_zero, List.set_cons_succ]))))
      (refine wpHeld_nil (hFq _ ?_); clear hFq; intro w' hbq; ((try (have B0 := Has.below (b := w.heap.size) (by repeat' (first | with_reducible assumption | with_reducible apply Has.new | with_reducible apply Has.new1 | with_reducible apply Has.new2 | with_reducible apply Has.new3 | with_reducible apply Has.new4 | with_reducible apply Has.drew | with_reducible apply Has.drewN | with_reducible apply Has.alloc | with_reducible apply Has.same | with_reducible apply Has.other | (with_reducible show _ ≠ _; first | omega | (simp; done)))) hbq; have C0 := Has.cell B0; have F0 := Has.frozen B0)); (try (have B1 := Has.below (b := w.heap.size + 1) (by repeat' (first | with_reducible assumption | with_reducible apply Has.new | with_reducible apply Has.new1 | with_reducible apply Has.new2 | with_reducible apply Has.new3 | with_reducible apply Has.new4 | with_reducible apply Has.drew | with_reducible apply Has.drewN | with_reducible apply Has.alloc | with_reducible apply Has.same | with_reducible apply Has.other | (with_reducible show _ ≠ _; first | omega | (simp; done)))) hbq; have C1 := Has.cell B1; have F1 := Has.frozen B1)); (try (have B2 := Has.below (b := w.heap.size + 1 + 1) (by repeat' (first | with_reducible assumption | with_reducible apply Has.new | with_reducible apply Has.new1 | with_reducible apply Has.new2 | with_reducible apply Has.new3 | with_reducible apply Has.new4 | with_reducible apply Has.drew | with_reducible apply Has.drewN | with_reducible apply Has.alloc | with_reducible apply Has.same | with_reducible apply Has.other | (with_reducible show _ ≠ _; first | omega | (simp; done)))) hbq; have C2 := Has.cell B2; have F2 := Has.frozen B2)); (try (have B3 := Has.below (b := w.heap.size + 1 + 1 + 1) (by repeat' (first | with_reducible assumption | with_reducible apply Has.new | with_reducible apply Has.new1 | with_reducible apply Has.new2 | with_reducible apply Has.new3 | with_reducible apply Has.new4 | with_reducible apply Has.drew | with_reducible apply Has.drewN | with_reducible apply Has.alloc | with_reducible apply Has.same | with_reducible apply Has.other | (with_reducible show _ ≠ _; first | omega | (simp; done)))) hbq; have C3 := Has.cell B3; have F3 := Has.frozen B3)); (try (have BX := Has.below (b := bX) (by repeat' (first | with_reducible assumption | with_reducible apply Has.new | with_reducible apply Has.new1 | with_reducible apply Has.new2 | with_reducible apply Has.new3 | with_reducible apply Has.new4 | with_reducible apply Has.drew | with_reducible apply Has.drewN | with_reducible apply Has.alloc | with_reducible apply Has.same | with_reducible apply Has.other | (with_reducible show _ ≠ _; first | omega | (simp; done)))) hbq; have CX := Has.cell BX; have FX := Has.frozen BX)); (try (have BY := Has.below (b := bY) (by repeat' (first | with_reducible assumption | with_reducible apply Has.new | with_reducible apply Has.new1 | with_reducible apply Has.new2 | with_reducible apply Has.new3 | with_reducible apply Has.new4 | with_reducible apply Has.drew | with_reducible apply Has.drewN | with_reducible apply Has.alloc | with_reducible apply Has.same | with_reducible apply Has.other | (with_reducible show _ ≠ _; first | omega | (simp; done)))) hbq; have CY := Has.cell BY; have FY := Has.frozen BY))))
      go_wp2
      go_roundw
      case rel => exact ⟨j + 1, by omega, by go_num, lowCall hb (undrew hbq)⟩
      case measure => simp [intOf]; omega
    · obtain rfl : j = l.length := by omega
      go_wp2
      go_ret
      exact ⟨rfl, hb⟩
/- the numbers K, K+1, .. in a row of spans -/
def smarks (K : Int) (n : Nat) : List Sp := (List.range n).map fun (j : Nat) => ⟨K + 4 * j, K + 4 * j + 1, K + 4 * j + 2, K + 4 * j + 3⟩
theorem smarks_len (K : Int) (n : Nat) : (smarks K n).length = n := by simp [smarks]
theorem smarks_get (K : Int) (n k : Nat) (h : k < n) : (smarks K n)[k]'(by rw [smarks_len]; exact h) = ⟨K + 4 * k, K + 4 * k + 1, K + 4 * k + 2, K + 4 * k + 3⟩ := by simp [smarks]
theorem smarks_succ (K : Int) (n : Nat) : smarks K (n + 1) = smarks K n ++ [⟨K + 4 * n, K + 4 * n + 1, K + 4 * n + 2, K + 4 * n + 3⟩] := by simp [smarks, List.range_succ]
theorem smarks_set (K : Int) (l : List Sp) (j : Nat) (h : j < l.length) : (smarks K j ++ l.drop j).set j ⟨K + 4 * j, K + 4 * j + 1, K + 4 * j + 2, K + 4 * j + 3⟩ = smarks K (j + 1) ++ l.drop (j + 1) := by
  rw [List.set_append_right _ _ (by rw [smarks_len]; exact Nat.le_refl _), smarks_len, Nat.sub_self, List.drop_eq_getElem_cons h, List.set_cons_zero, smarks_succ, List.append_assoc]
  rfl
theorem markSpanS_any (l : List Sp) (v : Value) (B : Nat) (K : Int) (w : World) (h0 : 0 ≤ K) (hl : K + 4 * l.length ≤ 9223372036854775807) (hA : SRow w B v l) :
    Calls Try.prog 56 #[v, .int .i64 K] w fun e w' => e = .returned (.int .i64 (K + 4 * l.length)) ∧ SRow w' B v (smarks K l.length) ∧ w.grownBy w' v.ownBlock := by
  obtain ⟨A, c, rfl, fA⟩ := SRow.shape0 hA
  go_enter Try.func56, Try.ntmps56
  go_wp2
  go_loopw [1, 5] (fun k i wr => ∃ j : Nat, j ≤ l.length ∧ i = .int .i64 j ∧ k = .int .i64 (K + 4 * j) ∧ SRow wr B (.slice A l.length c) (smarks K j ++ l.drop j) ∧ w.grownBy wr (Value.slice A l.length c).ownBlock) (fun _ i _ => l.length - (intOf i).toNat)
  case atStart => exact ⟨0, by omega, rfl, by simp, by simpa [smarks] using hA, World.grownBy.refl _ _⟩
  case round =>
    obtain ⟨j, hj, rfl, rfl, hr, hg⟩ := hrel
    by_cases hc : j < l.length
    · obtain ⟨g, rfl, _, _⟩ := fA (by omega)
      have hlen : l.length = (smarks K j ++ l.drop j).length := by simp [smarks_len]; omega
      obtain ⟨s0, d0, d1, d2, d3⟩ : ∃ s, Four wr g (j * 4) s := ⟨_, SRow.four hr hlen j (by omega)⟩
      have hfz := RowK.frozen hr (by simpa using hlen)
      obtain ⟨h4, g4⟩ := SRow.store4 hr hlen j (by omega) ⟨K + 4 * j, K + 4 * j + 1, K + 4 * j + 2, K + 4 * j + 3⟩
      rw [smarks_set K l j hc] at h4
      have H4 := Lib.hid h4
      have G4 := Lib.hid g4
      have E1 := Lib.hid (show K + 4 * (j : Int) + 1 + 1 = K + 4 * j + 2 by omega)
      have E2 := Lib.hid (show K + 4 * (j : Int) + 2 + 1 = K + 4 * j + 3 by omega)
      have E3 := Lib.hid (show K + 4 * (j : Int) + 3 + 1 = K + 4 * ((j + 1 : Nat) : Int) by omega)
      clear hlen hr h4 g4
      go_wp2
      rw [E1.out, E2.out, E3.out]
      go_roundw
      case rel => exact ⟨j + 1, by omega, by go_num, rfl, H4.out, by_trans hg G4.out⟩
      case measure => simp [intOf]; omega
    · obtain rfl : j = l.length := by omega
      rw [List.drop_length, List.append_nil] at hr
      go_wp2
      go_ret
      exact ⟨rfl, hr, hg⟩
theorem heldSpanS_any (n : Nat) (v : Value) (K : Int) (w : World) (h0 : 0 ≤ K) (hl : K + 4 * n ≤ 9223372036854775807) (hA : SIn w v (smarks K n)) :
    Calls Try.prog 57 #[v, .int .i64 K] w fun e w' => e = .returned (.int .i64 (K + 4 * n)) ∧ w = w' := by
  obtain ⟨A, c, rfl, fA⟩ := hA
  have FA := Lib.hid fA
  clear fA
  have hsl := smarks_len K n
  generalize hsm : smarks K n = sm at FA hsl ⊢
  have FA2 : Hid (0 < n → ∃ b off, A = some ⟨b, off, none⟩ ∧ ∀ i, i < n → Four w b (off + i * 4) ⟨K + 4 * i, K + 4 * i + 1, K + 4 * i + 2, K + 4 * i + 3⟩) := Lib.hid fun h => by
    obtain ⟨b, off, hA, hf⟩ := FA.out (by omega)
    refine ⟨b, off, hA, fun i hi => ?_⟩
    have := hf i (by omega)
    subst hsm
    rwa [smarks_get K n i hi] at this
  clear FA
  rw [hsl]
  clear hsl hsm
  go_enter Try.func57, Try.ntmps57
  go_wp2
  go_loop [1, 5] (fun k i => ∃ j : Nat, j ≤ n ∧ i = .int .i64 j ∧ k = .int .i64 (K + 4 * j)) (fun _ i => n - (intOf i).toNat)
  case atStart => exact ⟨0, by omega, rfl, by simp⟩
  case round =>
    obtain ⟨j, hj, rfl, rfl⟩ := hrel
    by_cases hc : j < n
    · obtain ⟨b, off, rfl, hf⟩ := FA2.out (by omega)
      obtain ⟨c0, c1, c2, c3⟩ := hf j hc
      clear hf
      have E1 : K + 4 * (j : Int) + 1 + 1 = K + 4 * j + 2 := by omega
      have E2 : K + 4 * (j : Int) + 2 + 1 = K + 4 * j + 3 := by omega
      have E3 := Lib.hid (show K + 4 * (j : Int) + 3 + 1 = K + 4 * ((j + 1 : Nat) : Int) by omega)
      go_wp2
      rw [E3.out]
      go_round
      case rel => exact ⟨j + 1, by omega, by go_num, rfl⟩
      case measure => simp [intOf]; omega
    · obtain rfl : j = n := by omega
      go_wp2
      go_ret
      exact ⟨rfl, rfl⟩
end Go.Proofs.Ytdjmeeknahdbbaa
