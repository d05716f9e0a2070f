
import Derived.Test.YtdjmeeknahdbbaaSpnD
import Derived.Test.YtdjmeeknahdbbaaSpnN
import Derived.Test.YtdjmeeknahdbbaaOpen
namespace Go.Proofs.Ytdjmeeknahdbbaa
open Go.ChangeShapes Go.WideShapes Go.ChangeAt Go.RowKit
set_option maxHeartbeats 2000000
set_option maxRecDepth 8000
set_option linter.unusedSimpArgs false
set_option linter.unusedVariables false
attribute [local go_sem] VGo_value VGo_skip VGo_enter

theorem wlSpans_yes (l : List Sp) (vA vB : Value) (w : World) (hA : SIn w vA l) (hB : SIn w vB l) (hl : l.length ≤ 9223372036854775807) :
    Calls Try.prog 38 #[vA, vB] w fun e w' => e = .returned (.bool true) ∧ Below w.heap.size w w' := by
  obtain ⟨A, c, rfl, fA⟩ := hA
  obtain ⟨B, d, rfl, fB⟩ := hB
  have FA := Lib.hid fA
  have FB := Lib.hid fB
  clear fA fB
  go_enter Try.func38, Try.ntmps38
  go_wp2
  go_loopw [13] (fun i wr => ∃ j : Nat, j ≤ l.length ∧ i = .int .i64 j ∧ Below w.heap.size w wr) (fun i _ => l.length - (intOf i).toNat)
  case atStart => exact ⟨0, by omega, rfl, lowRefl w⟩
  case round =>
    obtain ⟨j, hj, rfl, hb⟩ := hrel
    by_cases hc : j < l.length
    · obtain ⟨bA, oA, rfl, hA⟩ := FA.out (by omega)
      obtain ⟨bB, oB, rfl, hB⟩ := FB.out (by omega)
      have NA : ∀ w', Below wr.drew.heap.size wr.drew w' → Four w' bA (oA + j * 4) l[j] := fun w' h => ((hA j hc).below hb).below (undrew h)
      have NB : ∀ w', Below wr.drew.heap.size wr.drew w' → Four w' bB (oB + j * 4) l[j] := fun w' h => ((hB j hc).below hb).below (undrew h)
      clear hA hB
      go_upto_region 6 with fail
      (refine wp_region_held0 (by kernel_rfl) (by kernel_rfl) (fun _ _ _ d _ h => by cases d <;> exact h) ?_; intro Fq hFq)
      repeat (first | (refine wpHeld_skip (by rfl) ?_; ((try simp only [Act.put, List.setIfInBounds_toArray, List.set_cons_zero, List.set_cons_succ]))) | (refine wpHeld_run ?_ rfl ?_ ?_; rotate_left; (focus (intro w' hbq Kq hKq; go_simp; (try (rw [IntWalk.i64_in]; rotate_left; focus (constructor <;> omega))); first | exact hKq _ (Below.refl _ _) | first | (obtain ⟨a0, a1, a2, a3⟩ := NA _ hbq; go_simp; exact hKq _ (Below.refl _ _)) | (obtain ⟨a0, a1, a2, a3⟩ := NB _ hbq; go_simp; exact hKq _ (Below.refl _ _)))); ((try simp only [Act.put, List.setIfInBounds_toArray, List.set_cons_zero, List.set_cons_succ]))))
      (refine wpHeld_nil (hFq _ ?_); clear hFq; intro w' hbq; ((try (have B0 := Has.below (b := w.heap.size) (by repeat' (first | with_reducible assumption | with_reducible apply Has.new | with_reducible apply Has.new1 | with_reducible apply Has.new2 | with_reducible apply Has.new3 | with_reducible apply Has.new4 | with_reducible apply Has.drew | with_reducible apply Has.drewN | with_reducible apply Has.alloc | with_reducible apply Has.same | with_reducible apply Has.other | (with_reducible show _ ≠ _; first | omega | (simp; done)))) hbq; have C0 := Has.cell B0; have F0 := Has.frozen B0)); (try (have B1 := Has.below (b := w.heap.size + 1) (by repeat' (first | with_reducible assumption | with_reducible apply Has.new | with_reducible apply Has.new1 | with_reducible apply Has.new2 | with_reducible apply Has.new3 | with_reducible apply Has.new4 | with_reducible apply Has.drew | with_reducible apply Has.drewN | with_reducible apply Has.alloc | with_reducible apply Has.same | with_reducible apply Has.other | (with_reducible show _ ≠ _; first | omega | (simp; done)))) hbq; have C1 := Has.cell B1; have F1 := Has.frozen B1)); (try (have B2 := Has.below (b := w.heap.size + 1 + 1) (by repeat' (first | with_reducible assumption | with_reducible apply Has.new | with_reducible apply Has.new1 | with_reducible apply Has.new2 | with_reducible apply Has.new3 | with_reducible apply Has.new4 | with_reducible apply Has.drew | with_reducible apply Has.drewN | with_reducible apply Has.alloc | with_reducible apply Has.same | with_reducible apply Has.other | (with_reducible show _ ≠ _; first | omega | (simp; done)))) hbq; have C2 := Has.cell B2; have F2 := Has.frozen B2)); (try (have B3 := Has.below (b := w.heap.size + 1 + 1 + 1) (by repeat' (first | with_reducible assumption | with_reducible apply Has.new | with_reducible apply Has.new1 | with_reducible apply Has.new2 | with_reducible apply Has.new3 | with_reducible apply Has.new4 | with_reducible apply Has.drew | with_reducible apply Has.drewN | with_reducible apply Has.alloc | with_reducible apply Has.same | with_reducible apply Has.other | (with_reducible show _ ≠ _; first | omega | (simp; done)))) hbq; have C3 := Has.cell B3; have F3 := Has.frozen B3)); (try (have BX := Has.below (b := bX) (by repeat' (first | with_reducible assumption | with_reducible apply Has.new | with_reducible apply Has.new1 | with_reducible apply Has.new2 | with_reducible apply Has.new3 | with_reducible apply Has.new4 | with_reducible apply Has.drew | with_reducible apply Has.drewN | with_reducible apply Has.alloc | with_reducible apply Has.same | with_reducible apply Has.other | (with_reducible show _ ≠ _; first | omega | (simp; done)))) hbq; have CX := Has.cell BX; have FX := Has.frozen BX)); (try (have BY := Has.below (b := bY) (by repeat' (first | with_reducible assumption | with_reducible apply Has.new | with_reducible apply Has.new1 | with_reducible apply Has.new2 | with_reducible apply Has.new3 | with_reducible apply Has.new4 | with_reducible apply Has.drew | with_reducible apply Has.drewN | with_reducible apply Has.alloc | with_reducible apply Has.same | with_reducible apply Has.other | (with_reducible show _ ≠ _; first | omega | (simp; done)))) hbq; have CY := Has.cell BY; have FY := Has.frozen BY))))
      go_wp2
      go_roundw
      case rel => exact ⟨j + 1, by omega, by go_num, lowCall hb (undrew hbq)⟩
      case measure => simp [intOf]; omega
    · obtain rfl : j = l.length := by omega
      go_wp2
      go_ret
      exact ⟨rfl, hb⟩
theorem wlParts_yes (k l : List Sp) (vA vB : Value) (w : World) (hA : SIn w vA k) (hB : SIn w vB l) (hkl : k.length = l.length) (hp : ∀ i (h : i < l.length), (k[i]'(by omega)).f = l[i].f ∧ (k[i]'(by omega)).t = l[i].t) (hl : l.length ≤ 9223372036854775807) :
    Calls Try.prog 52 #[vA, vB] w fun e w' => e = .returned (.bool true) ∧ Below w.heap.size w w' := by
  obtain ⟨A, c, rfl, fA⟩ := hA
  obtain ⟨B, d, rfl, fB⟩ := hB
  have FA : Hid (0 < l.length → ∃ b off, A = some ⟨b, off, none⟩ ∧ ∀ i (h : i < l.length), Four w b (off + i * 4) (k[i]'(by omega))) := Lib.hid fun h => by
    obtain ⟨b, off, e, f⟩ := fA (by omega)
    exact ⟨b, off, e, fun i hi => f i (by omega)⟩
  have FB := Lib.hid fB
  have HP := Lib.hid hp
  clear fA fB hp
  rw [hkl]
  go_enter Try.func52, Try.ntmps52
  go_wp2
  go_loopw [13] (fun i wr => ∃ j : Nat, j ≤ l.length ∧ i = .int .i64 j ∧ Below w.heap.size w wr) (fun i _ => l.length - (intOf i).toNat)
  case atStart => exact ⟨0, by omega, rfl, lowRefl w⟩
  case round =>
    obtain ⟨j, hj, rfl, hb⟩ := hrel
    by_cases hc : j < l.length
    · obtain ⟨bA, oA, rfl, hA⟩ := FA.out (by omega)
      obtain ⟨bB, oB, rfl, hB⟩ := FB.out (by omega)
      obtain ⟨p1, p2⟩ := HP.out j hc
      have NA : ∀ w', Below wr.drew.heap.size wr.drew w' → w'.cell? ⟨bA, oA + j * 4, none⟩ = some (.int .i64 l[j].f) ∧ w'.cell? ⟨bA, oA + j * 4 + 1, none⟩ = some (.int .i64 l[j].t) := fun w' h => by
        obtain ⟨a0, a1, _⟩ := ((hA j hc).below hb).below (undrew h)
        rw [p1] at a0
        rw [p2] at a1
        exact ⟨a0, a1⟩
      have NB : ∀ w', Below wr.drew.heap.size wr.drew w' → Four w' bB (oB + j * 4) l[j] := fun w' h => ((hB j hc).below hb).below (undrew h)
      clear hA hB p1 p2
      go_upto_region 6 with fail
      (refine wp_region_held0 (by kernel_rfl) (by kernel_rfl) (fun _ _ _ d _ h => by cases d <;> exact h) ?_; intro Fq hFq)
      repeat (first | (refine wpHeld_skip (by rfl) ?_; ((try simp only [Act.put, List.setIfInBounds_toArray, List.set_cons_zero, List.set_cons_succ]))) | (refine wpHeld_run ?_ rfl ?_ ?_; rotate_left; (focus (intro w' hbq Kq hKq; go_simp; (try (rw [IntWalk.i64_in]; rotate_left; focus (constructor <;> omega))); first | exact hKq _ (Below.refl _ _) | first | (obtain ⟨a0, a1⟩ := NA _ hbq; go_simp; exact hKq _ (Below.refl _ _)) | (obtain ⟨a0, a1, a2, a3⟩ := NB _ hbq; go_simp; exact hKq _ (Below.refl _ _)))); ((try simp only [Act.put, List.setIfInBounds_toArray, List.set_cons_zero, List.set_cons_succ]))))
      (refine wpHeld_nil (hFq _ ?_); clear hFq; intro w' hbq; ((try (have B0 := Has.below (b := w.heap.size) (by repeat' (first | with_reducible assumption | with_reducible apply Has.new | with_reducible apply Has.new1 | with_reducible apply Has.new2 | with_reducible apply Has.new3 | with_reducible apply Has.new4 | with_reducible apply Has.drew | with_reducible apply Has.drewN | with_reducible apply Has.alloc | with_reducible apply Has.same | with_reducible apply Has.other | (with_reducible show _ ≠ _; first | omega | (simp; done)))) hbq; have C0 := Has.cell B0; have F0 := Has.frozen B0)); (try (have B1 := Has.below (b := w.heap.size + 1) (by repeat' (first | with_reducible assumption | with_reducible apply Has.new | with_reducible apply Has.new1 | with_reducible apply Has.new2 | with_reducible apply Has.new3 | with_reducible apply Has.new4 | with_reducible apply Has.drew | with_reducible apply Has.drewN | with_reducible apply Has.alloc | with_reducible apply Has.same | with_reducible apply Has.other | (with_reducible show _ ≠ _; first | omega | (simp; done)))) hbq; have C1 := Has.cell B1; have F1 := Has.frozen B1)); (try (have B2 := Has.below (b := w.heap.size + 1 + 1) (by repeat' (first | with_reducible assumption | with_reducible apply Has.new | with_reducible apply Has.new1 | with_reducible apply Has.new2 | with_reducible apply Has.new3 | with_reducible apply Has.new4 | with_reducible apply Has.drew | with_reducible apply Has.drewN | with_reducible apply Has.alloc | with_reducible apply Has.same | with_reducible apply Has.other | (with_reducible show _ ≠ _; first | omega | (simp; done)))) hbq; have C2 := Has.cell B2; have F2 := Has.frozen B2)); (try (have B3 := Has.below (b := w.heap.size + 1 + 1 + 1) (by repeat' (first | with_reducible assumption | with_reducible apply Has.new | with_reducible apply Has.new1 | with_reducible apply Has.new2 | with_reducible apply Has.new3 | with_reducible apply Has.new4 | with_reducible apply Has.drew | with_reducible apply Has.drewN | with_reducible apply Has.alloc | with_reducible apply Has.same | with_reducible apply Has.other | (with_reducible show _ ≠ _; first | omega | (simp; done)))) hbq; have C3 := Has.cell B3; have F3 := Has.frozen B3)); (try (have BX := Has.below (b := bX) (by repeat' (first | with_reducible assumption | with_reducible apply Has.new | with_reducible apply Has.new1 | with_reducible apply Has.new2 | with_reducible apply Has.new3 | with_reducible apply Has.new4 | with_reducible apply Has.drew | with_reducible apply Has.drewN | with_reducible apply Has.alloc | with_reducible apply Has.same | with_reducible apply Has.other | (with_reducible show _ ≠ _; first | omega | (simp; done)))) hbq; have CX := Has.cell BX; have FX := Has.frozen BX)); (try (have BY := Has.below (b := bY) (by repeat' (first | with_reducible assumption | with_reducible apply Has.new | with_reducible apply Has.new1 | with_reducible apply Has.new2 | with_reducible apply Has.new3 | with_reducible apply Has.new4 | with_reducible apply Has.drew | with_reducible apply Has.drewN | with_reducible apply Has.alloc | with_reducible apply Has.same | with_reducible apply Has.other | (with_reducible show _ ≠ _; first | omega | (simp; done)))) hbq; have CY := Has.cell BY; have FY := Has.frozen BY))))
      go_wp2
      go_roundw
      case rel => exact ⟨j + 1, by omega, by go_num, lowCall hb (undrew hbq)⟩
      case measure => simp [intOf]; omega
    · obtain rfl : j = l.length := by omega
      go_wp2
      go_ret
      exact ⟨rfl, hb⟩
def TwoPost (w : World) (e : Ending) (w' : World) : Prop := ∃ v1 v2 a b, e = .returned (.tuple #[v1, v2]) ∧ a.length ≤ 4 ∧ b.length ≤ 4 ∧ SRow w' w.heap.size v1 a ∧ SRow w' w.heap.size v2 b ∧ Below w.heap.size w w'
theorem l5Two_any (A : Option Addr) (n c : Nat) (w : World) (hnc : n ≤ c) (hcap : c ≤ 9223372036854775807) (hcode : Code w w.heap.size A n) :
    Calls Try.prog 84 #[.slice A n c] w (TwoPost w) := by
  go_enter Try.func84, Try.ntmps84
  go_wp2_with (first | (go_at_call 58; refine (open_any _ _ _ _ hnc hcap hcode).mono ?_; rintro e w1 ⟨g, n', rfl, hrd, hlow⟩) | (go_at_call 91; (with_reducible refine (l5Some_any w.heap.size g n' c _ A _ hrd (by omega)).mono ?_); rintro e w2 ⟨v1, a, rfl, ha, hr1, hrd2, hby1⟩) | (go_at_call 91; (with_reducible refine (l5Some_any w.heap.size g n' c _ A _ hrd2 (by omega)).mono ?_); rintro e w3 ⟨v2, b, rfl, hb, hr2, hrd3, hby2⟩))
  have hlo := hrd.lo
  have hL1 := lowBy hlow hby1 hlow.size hlo
  have hL2 := lowBy hL1 hby2 hL1.size hlo
  refine bodyPost_ret (v := .tuple #[v1, v2]) (by first | (simp [results, Try.results84, go_sem]; done) | (simp [results, Try.results84, go_sem, *]; done)) rfl ⟨v1, v2, a, b, rfl, ha, hb, (RowK.pick hr1 hrd2 (by decide) hby2).mono hlow.size, hr2.mono hL1.size, hL2⟩
theorem drawBoth_any (A : Option Addr) (n c : Nat) (w : World) (hnc : n ≤ c) (hcap : c ≤ 9223372036854775807) (hcode : Code w w.heap.size A n) :
    Calls Try.prog 34 #[.slice A n c] w (TwoPost w) := by
  go_enter Try.func34, Try.ntmps34
  go_wp2_with (go_at_call 84; refine (l5Two_any _ _ _ _ hnc hcap hcode).mono ?_; rintro e w1 ⟨v1, v2, a, b, rfl, hp⟩)
  exact bodyPost_ret (v := .tuple #[v1, v2]) (by first | (simp [results, Try.results34, go_sem]; done) | (simp [results, Try.results34, go_sem, *]; done)) rfl ⟨v1, v2, a, b, rfl, hp⟩
theorem drawEither_any (A : Option Addr) (n c : Nat) (w : World) (hnc : n ≤ c) (hcap : c ≤ 9223372036854775807) (hcode : Code w w.heap.size A n) :
    Calls Try.prog 46 #[.slice A n c] w (TwoPost w) := by
  go_enter Try.func46, Try.ntmps46
  go_wp2_with (go_at_call 84; refine (l5Two_any _ _ _ _ hnc hcap hcode).mono ?_; rintro e w1 ⟨v1, v2, a, b, rfl, hp⟩)
  exact bodyPost_ret (v := .tuple #[v1, v2]) (by first | (simp [results, Try.results46, go_sem]; done) | (simp [results, Try.results46, go_sem, *]; done)) rfl ⟨v1, v2, a, b, rfl, hp⟩
end Go.Proofs.Ytdjmeeknahdbbaa
