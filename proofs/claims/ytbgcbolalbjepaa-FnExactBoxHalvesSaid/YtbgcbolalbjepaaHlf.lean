
import Derived.Test.YtbgcbolalbjepaaQd
import Derived.Test.YtbgcbolalbjepaaRay
import Derived.Deep.Cut
import Derived.Test.YtbgcbolalbjepaaUnd
namespace Go.Proofs.Ytbgcbolalbjepaa
open Go.ChangeShapes Go.WideShapes Go.ChangeAt Go.RowKit
set_option maxHeartbeats 1000000
set_option linter.unusedSimpArgs false
attribute [local go_sem] VGo_value VGo_skip VGo_enter

/- rows of half-spaces: four integers each, as spans are -/
abbrev HRow (w : World) (B : Nat) (v : Value) (l : List Qd) : Prop := RowK w B 74 4 v (l.map Qd.cells)
theorem HRow.seen {w : World} {B : Nat} {v : Value} {l : List Qd} (h : HRow w B v l) : QIn w v l := by
  obtain ⟨A, c, rfl, hA, _⟩ := h.shape
  rw [List.length_map] at hA h ⊢
  refine ⟨A, c, rfl, fun h0 => ?_⟩
  obtain ⟨g, rfl, _⟩ := hA h0
  refine ⟨g, 0, rfl, fun i hi => ?_⟩
  have hc : ∀ j, j < 4 → w.cell? ⟨g, i * 4 + j, none⟩ = (l[i].cells)[j]? := fun j hj => by
    have := h.cell (by simp) i j (by simpa using hi) hj
    simpa using this
  rw [Nat.zero_add]
  exact ⟨hc 0 (by omega), hc 1 (by omega), hc 2 (by omega), hc 3 (by omega)⟩
theorem HRow.shape0 {w : World} {B : Nat} {v : Value} {l : List Qd} (h : HRow w B v l) : ∃ A c, v = .slice A l.length c ∧ (0 < l.length → ∃ g, A = some ⟨g, 0, none⟩ ∧ B ≤ g ∧ g < w.heap.size) := by
  obtain ⟨A, c, hv, hA, _⟩ := h.shape
  rw [List.length_map] at hA hv
  exact ⟨A, c, hv, hA⟩
theorem HRow.four {w : World} {B g n c : Nat} {l : List Qd} (h : HRow w B (.slice (some ⟨g, 0, none⟩) n c) l) (hn : n = l.length) (i : Nat) (hi : i < l.length) : Quad w g (i * 4) l[i] := by
  obtain ⟨A, c', hv, h'⟩ := h.seen
  subst hn
  simp only [Value.slice.injEq] at hv
  obtain ⟨b, off, hA, hf⟩ := h' (by omega)
  rw [← hv.1] at hA
  simp only [Option.some.injEq, Addr.mk.injEq] at hA
  obtain ⟨rfl, rfl, _⟩ := hA
  have := hf i hi
  rwa [Nat.zero_add] at this

theorem HRow.store4 {w : World} {B g n c : Nat} {l : List Qd} (h : HRow w B (.slice (some ⟨g, 0, none⟩) n c) l) (hn : n = l.length) (i : Nat) (hi : i < l.length) (s : Qd) :
    HRow ((((w.setCell ⟨g, i * 4, none⟩ (.int .i64 s.f)).setCell ⟨g, i * 4 + 1, none⟩ (.int .i64 s.t)).setCell ⟨g, i * 4 + 2, none⟩ (.int .i64 s.i)).setCell ⟨g, i * 4 + 3, none⟩ (.int .i64 s.o)) B (.slice (some ⟨g, 0, none⟩) n c) (l.set i s) ∧
    w.grownBy ((((w.setCell ⟨g, i * 4, none⟩ (.int .i64 s.f)).setCell ⟨g, i * 4 + 1, none⟩ (.int .i64 s.t)).setCell ⟨g, i * 4 + 2, none⟩ (.int .i64 s.i)).setCell ⟨g, i * 4 + 3, none⟩ (.int .i64 s.o)) (some g) := by
  obtain ⟨h1, g1⟩ := h.store (by simpa using hn) i 0 (by simpa using hi) (by omega) (.int .i64 s.f)
  obtain ⟨h2, g2⟩ := h1.store (by simpa using hn) i 1 (by simpa using hi) (by omega) (.int .i64 s.t)
  obtain ⟨h3, g3⟩ := h2.store (by simpa using hn) i 2 (by simpa using hi) (by omega) (.int .i64 s.i)
  obtain ⟨h4, g4⟩ := h3.store (by simpa using hn) i 3 (by simpa using hi) (by omega) (.int .i64 s.o)
  refine ⟨?_, by_trans (by_trans (by_trans g1 g2) g3) g4⟩
  have e : (l.set i s).map Qd.cells = (l.map Qd.cells).set i s.cells := by rw [List.map_set]
  rw [HRow, e]
  simp only [Nat.add_zero, List.set_set, List.getD_eq_getElem?_getD, List.getElem?_set, List.length_set, List.length_map, hi, if_true, List.getElem?_map, List.getElem?_eq_getElem hi, Option.map_some, Option.getD_some, Qd.cells, List.set_cons_zero, List.set_cons_succ] at h4
  exact h4
theorem infoHf : (Try.prog.info? 74).map (fun i => (i.zero, i.size, i.bytes)) = some (some (.agg #[.int .i64 0, .int .i64 0, .int .i64 0, .int .i64 0]), 4, 32) := by kernel_rfl
theorem eqHalfS_yes (l : List Qd) (vA vB : Value) (w : World) (hA : QIn w vA l) (hB : QIn w vB l) (hl : l.length ≤ 9223372036854775807) :
    Calls Try.prog 43 #[vA, vB] w fun e w' => e = .returned (.bool true) ∧ Below w.heap.size w w' := by
  obtain ⟨A, c, rfl, fA⟩ := hA
  obtain ⟨B, d, rfl, fB⟩ := hB
  have FA := Lib.hid fA
  have FB := Lib.hid fB
  clear fA fB
  go_enter Try.func43, Try.ntmps43
  go_wp2
  go_loopw [5] (fun i wr => ∃ j : Nat, j ≤ l.length ∧ i = .int .i64 j ∧ Below w.heap.size w wr) (fun i _ => l.length - (intOf i).toNat)
  case atStart => exact ⟨0, by omega, rfl, lowRefl w⟩
  case round =>
    obtain ⟨j, hj, rfl, hb⟩ := hrel
    by_cases hc : j < l.length
    · obtain ⟨bA, oA, rfl, hA⟩ := FA.out (by omega)
      obtain ⟨bB, oB, rfl, hB⟩ := FB.out (by omega)
      have NA : ∀ w', Below wr.drew.heap.size wr.drew w' → Quad w' bA (oA + j * 4) l[j] := fun w' h => ((hA j hc).below hb).below (undrew h)
      have NB : ∀ w', Below wr.drew.heap.size wr.drew w' → Quad w' bB (oB + j * 4) l[j] := fun w' h => ((hB j hc).below hb).below (undrew h)
      clear hA hB
      go_wp2
      (refine wp_region_held0 (by kernel_rfl) (by kernel_rfl) (fun _ _ _ d _ h => by cases d <;> exact h) ?_; intro Fq hFq)
      repeat (first | (refine wpHeld_skip (by rfl) ?_; ((try simp only [Act.put, List.setIfInBounds_toArray, List.set_cons_zero, List.set_cons_succ]))) | (refine wpHeld_run ?_ rfl ?_ ?_; rotate_left; (focus (intro w' hbq Kq hKq; go_simp; (try (rw [IntWalk.i64_in]; rotate_left; focus (constructor <;> omega))); first | exact hKq _ (Below.refl _ _) | first | (go_at_call 80; ((with_reducible refine (eqHalf_yes l[j].f l[j].t l[j].i l[j].o _).mono ?_); rintro e w2 ⟨rfl, hbr⟩; refine back ?_; exact hKq _ hbr)) | (obtain ⟨a0, a1, a2, a3⟩ := NA _ hbq; go_simp; exact hKq _ (Below.refl _ _)) | (obtain ⟨a0, a1, a2, a3⟩ := NB _ hbq; go_simp; exact hKq _ (Below.refl _ _)))); ((try simp only [Act.put, List.setIfInBounds_toArray, List.set_cons_zero, List.set_cons_succ]))))
      (refine wpHeld_nil (hFq _ ?_); clear hFq; intro w' hbq; ((try (have B0 := Has.below (b := w.heap.size) (by repeat' (first | with_reducible assumption | with_reducible apply Has.new | with_reducible apply Has.new1 | with_reducible apply Has.new2 | with_reducible apply Has.new3 | with_reducible apply Has.new4 | with_reducible apply Has.drew | with_reducible apply Has.drewN | with_reducible apply Has.alloc | with_reducible apply Has.same | with_reducible apply Has.other | (with_reducible show _ ≠ _; first | omega | (simp; done)))) hbq; have C0 := Has.cell B0; have F0 := Has.frozen B0)); (try (have B1 := Has.below (b := w.heap.size + 1) (by repeat' (first | with_reducible assumption | with_reducible apply Has.new | with_reducible apply Has.new1 | with_reducible apply Has.new2 | with_reducible apply Has.new3 | with_reducible apply Has.new4 | with_reducible apply Has.drew | with_reducible apply Has.drewN | with_reducible apply Has.alloc | with_reducible apply Has.same | with_reducible apply Has.other | (with_reducible show _ ≠ _; first | omega | (simp; done)))) hbq; have C1 := Has.cell B1; have F1 := Has.frozen B1)); (try (have B2 := Has.below (b := w.heap.size + 1 + 1) (by repeat' (first | with_reducible assumption | with_reducible apply Has.new | with_reducible apply Has.new1 | with_reducible apply Has.new2 | with_reducible apply Has.new3 | with_reducible apply Has.new4 | with_reducible apply Has.drew | with_reducible apply Has.drewN | with_reducible apply Has.alloc | with_reducible apply Has.same | with_reducible apply Has.other | (with_reducible show _ ≠ _; first | omega | (simp; done)))) hbq; have C2 := Has.cell B2; have F2 := Has.frozen B2)); (try (have B3 := Has.below (b := w.heap.size + 1 + 1 + 1) (by repeat' (first | with_reducible assumption | with_reducible apply Has.new | with_reducible apply Has.new1 | with_reducible apply Has.new2 | with_reducible apply Has.new3 | with_reducible apply Has.new4 | with_reducible apply Has.drew | with_reducible apply Has.drewN | with_reducible apply Has.alloc | with_reducible apply Has.same | with_reducible apply Has.other | (with_reducible show _ ≠ _; first | omega | (simp; done)))) hbq; have C3 := Has.cell B3; have F3 := Has.frozen B3)); (try (have BX := Has.below (b := bX) (by repeat' (first | with_reducible assumption | with_reducible apply Has.new | with_reducible apply Has.new1 | with_reducible apply Has.new2 | with_reducible apply Has.new3 | with_reducible apply Has.new4 | with_reducible apply Has.drew | with_reducible apply Has.drewN | with_reducible apply Has.alloc | with_reducible apply Has.same | with_reducible apply Has.other | (with_reducible show _ ≠ _; first | omega | (simp; done)))) hbq; have CX := Has.cell BX; have FX := Has.frozen BX)); (try (have BY := Has.below (b := bY) (by repeat' (first | with_reducible assumption | with_reducible apply Has.new | with_reducible apply Has.new1 | with_reducible apply Has.new2 | with_reducible apply Has.new3 | with_reducible apply Has.new4 | with_reducible apply Has.drew | with_reducible apply Has.drewN | with_reducible apply Has.alloc | with_reducible apply Has.same | with_reducible apply Has.other | (with_reducible show _ ≠ _; first | omega | (simp; done)))) hbq; have CY := Has.cell BY; have FY := Has.frozen BY))))
      go_wp2
      go_roundw
      case rel => exact ⟨j + 1, by omega, by go_num, lowCall hb (undrew hbq)⟩
      case measure => simp [intOf]; omega
    · obtain rfl : j = l.length := by omega
      go_wp2
      go_ret
      exact ⟨rfl, hb⟩
/- the numbers K, K+1, .. in a row -/
def hmarks (K : Int) (n : Nat) : List Qd := (List.range n).map fun (j : Nat) => ⟨K + 4 * j, K + 4 * j + 1, K + 4 * j + 2, K + 4 * j + 3⟩
theorem hmarks_len (K : Int) (n : Nat) : (hmarks K n).length = n := by simp [hmarks]
theorem hmarks_get (K : Int) (n k : Nat) (h : k < n) : (hmarks K n)[k]'(by rw [hmarks_len]; exact h) = ⟨K + 4 * k, K + 4 * k + 1, K + 4 * k + 2, K + 4 * k + 3⟩ := by simp [hmarks]
theorem hmarks_succ (K : Int) (n : Nat) : hmarks K (n + 1) = hmarks K n ++ [⟨K + 4 * n, K + 4 * n + 1, K + 4 * n + 2, K + 4 * n + 3⟩] := by simp [hmarks, List.range_succ]
theorem hmarks_set (K : Int) (l : List Qd) (j : Nat) (h : j < l.length) : (hmarks K j ++ l.drop j).set j ⟨K + 4 * j, K + 4 * j + 1, K + 4 * j + 2, K + 4 * j + 3⟩ = hmarks K (j + 1) ++ l.drop (j + 1) := by
  rw [List.set_append_right _ _ (by rw [hmarks_len]; exact Nat.le_refl _), hmarks_len, Nat.sub_self, List.drop_eq_getElem_cons h, List.set_cons_zero, hmarks_succ, List.append_assoc]
  rfl
theorem markHalfS_any (l : List Qd) (v : Value) (B : Nat) (K : Int) (w : World) (h0 : 0 ≤ K) (hl : K + 4 * l.length ≤ 9223372036854775807) (hA : HRow w B v l) :
    Calls Try.prog 44 #[v, .int .i64 K] w fun e w' => e = .returned (.int .i64 (K + 4 * l.length)) ∧ HRow w' B v (hmarks K l.length) ∧ w.grownBy w' v.ownBlock := by
  obtain ⟨A, c, rfl, fA⟩ := HRow.shape0 hA
  go_enter Try.func44, Try.ntmps44
  go_wp2
  go_loopw [1, 5] (fun k i wr => ∃ j : Nat, j ≤ l.length ∧ i = .int .i64 j ∧ k = .int .i64 (K + 4 * j) ∧ HRow wr B (.slice A l.length c) (hmarks K j ++ l.drop j) ∧ w.grownBy wr (Value.slice A l.length c).ownBlock) (fun _ i _ => l.length - (intOf i).toNat)
  case atStart => exact ⟨0, by omega, rfl, by simp, by simpa [hmarks] using hA, World.grownBy.refl _ _⟩
  case round =>
    obtain ⟨j, hj, rfl, rfl, hr, hg⟩ := hrel
    by_cases hc : j < l.length
    · obtain ⟨g, rfl, _, _⟩ := fA (by omega)
      have hlen : l.length = (hmarks K j ++ l.drop j).length := by simp [hmarks_len]; omega
      obtain ⟨s0, d0, d1, d2, d3⟩ : ∃ s, Quad wr g (j * 4) s := ⟨_, HRow.four hr hlen j (by omega)⟩
      have hfz := RowK.frozen hr (by simpa using hlen)
      obtain ⟨h4, g4⟩ := HRow.store4 hr hlen j (by omega) ⟨K + 4 * j, K + 4 * j + 1, K + 4 * j + 2, K + 4 * j + 3⟩
      rw [hmarks_set K l j hc] at h4
      have H4 := Lib.hid h4
      have G4 := Lib.hid g4
      have E1 := Lib.hid (show K + 4 * (j : Int) + 1 + 1 = K + 4 * j + 2 by omega)
      have E2 := Lib.hid (show K + 4 * (j : Int) + 2 + 1 = K + 4 * j + 3 by omega)
      have E3 := Lib.hid (show K + 4 * (j : Int) + 3 + 1 = K + 4 * ((j + 1 : Nat) : Int) by omega)
      clear hlen hr h4 g4
      go_wp2
      rw [E1.out, E2.out, E3.out]
      go_roundw
      case rel => exact ⟨j + 1, by omega, by go_num, rfl, H4.out, by_trans hg G4.out⟩
      case measure => simp [intOf]; omega
    · obtain rfl : j = l.length := by omega
      rw [List.drop_length, List.append_nil] at hr
      go_wp2
      go_ret
      exact ⟨rfl, hr, hg⟩
theorem heldHalfS_any (n : Nat) (v : Value) (K : Int) (w : World) (h0 : 0 ≤ K) (hl : K + 4 * n ≤ 9223372036854775807) (hA : QIn w v (hmarks K n)) :
    Calls Try.prog 45 #[v, .int .i64 K] w fun e w' => e = .returned (.int .i64 (K + 4 * n)) ∧ w = w' := by
  obtain ⟨A, c, rfl, fA⟩ := hA
  have FA := Lib.hid fA
  clear fA
  have hsl := hmarks_len K n
  generalize hsm : hmarks K n = sm at FA hsl ⊢
  have FA2 : Hid (0 < n → ∃ b off, A = some ⟨b, off, none⟩ ∧ ∀ i, i < n → Quad w b (off + i * 4) ⟨K + 4 * i, K + 4 * i + 1, K + 4 * i + 2, K + 4 * i + 3⟩) := Lib.hid fun h => by
    obtain ⟨b, off, hA, hf⟩ := FA.out (by omega)
    refine ⟨b, off, hA, fun i hi => ?_⟩
    have := hf i (by omega)
    subst hsm
    rwa [hmarks_get K n i hi] at this
  clear FA
  rw [hsl]
  clear hsl hsm
  go_enter Try.func45, Try.ntmps45
  go_wp2
  go_loop [1, 5] (fun k i => ∃ j : Nat, j ≤ n ∧ i = .int .i64 j ∧ k = .int .i64 (K + 4 * j)) (fun _ i => n - (intOf i).toNat)
  case atStart => exact ⟨0, by omega, rfl, by simp⟩
  case round =>
    obtain ⟨j, hj, rfl, rfl⟩ := hrel
    by_cases hc : j < n
    · obtain ⟨b, off, rfl, hf⟩ := FA2.out (by omega)
      obtain ⟨c0, c1, c2, c3⟩ := hf j hc
      clear hf
      have E1 : K + 4 * (j : Int) + 1 + 1 = K + 4 * j + 2 := by omega
      have E2 : K + 4 * (j : Int) + 2 + 1 = K + 4 * j + 3 := by omega
      have E3 := Lib.hid (show K + 4 * (j : Int) + 3 + 1 = K + 4 * ((j + 1 : Nat) : Int) by omega)
      go_wp2
      rw [E3.out]
      go_round
      case rel => exact ⟨j + 1, by omega, by go_num, rfl⟩
      case measure => simp [intOf]; omega
    · obtain rfl : j = n := by omega
      go_wp2
      go_ret
      exact ⟨rfl, rfl⟩
end Go.Proofs.Ytbgcbolalbjepaa
