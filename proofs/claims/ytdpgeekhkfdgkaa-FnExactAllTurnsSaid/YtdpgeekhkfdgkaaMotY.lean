
import Derived.Test.YtdpgeekhkfdgkaaMotL
import Derived.Test.YtdpgeekhkfdgkaaMotR0
import Derived.Deep.Cut
namespace Go.Proofs.Ytdpgeekhkfdgkaa
open Go.ChangeShapes Go.WideShapes Go.ChangeAt Go.RowKit
set_option maxHeartbeats 2000000

theorem mrow_shape {w : World} {B n : Nat} {v : Value} (h : MRow w B v (n + 1)) : ∃ g cap cur, v = .slice (some ⟨g, 0, none⟩) (n + 1) cap ∧ B ≤ g ∧ Has w g cur 38 ∧ (n + 1) * 9 ≤ cur.size ∧ ∀ i c, i < n + 1 → c < 9 → cur[i * 9 + c]? = (moN i)[c]? := by
  rcases h.2 with ⟨_, h0⟩ | ⟨g, cap, cur, rfl, hB, hg, hn, _, hs, ht⟩
  · omega
  · refine ⟨g, cap, cur, rfl, hB, hg, by rw [hs]; exact Nat.mul_le_mul_right _ hn, fun i c hi hc => ?_⟩
    rw [← mots_get (n + 1) i c hi hc, ← ht, List.getElem?_take, if_pos (by omega)]
    simp
/- the nine cells of a motion in a block -/
def Nine (w : World) (g k : Nat) (a b c : Int) (p q r : Bool) (x y z : Int) : Prop :=
  w.cell? ⟨g, k * 9, none⟩ = some (.int .i64 a) ∧ w.cell? ⟨g, k * 9 + 1, none⟩ = some (.int .i64 b) ∧ w.cell? ⟨g, k * 9 + 2, none⟩ = some (.int .i64 c) ∧
  w.cell? ⟨g, k * 9 + 3, none⟩ = some (.bool p) ∧ w.cell? ⟨g, k * 9 + 4, none⟩ = some (.bool q) ∧ w.cell? ⟨g, k * 9 + 5, none⟩ = some (.bool r) ∧
  w.cell? ⟨g, k * 9 + 6, none⟩ = some (.int .i64 x) ∧ w.cell? ⟨g, k * 9 + 7, none⟩ = some (.int .i64 y) ∧ w.cell? ⟨g, k * 9 + 8, none⟩ = some (.int .i64 z)
def Mots (cur : Array Value) : Prop := 48 * 9 ≤ cur.size ∧ ∀ i c, i < 48 → c < 9 → cur[i * 9 + c]? = (moN i)[c]?
theorem nine_of {w : World} {g k : Nat} {cur : Array Value} {T : TypeId} (h : Has w g cur T) (hm : Mots cur) (hk : k < 48) :
    Nine w g k (axs (k / 8)).1 (axs (k / 8)).2.1 (axs (k / 8)).2.2 (bt (k % 8) 0) (bt (k % 8) 1) (bt (k % 8) 2) 0 0 0 := by
  have C := Has.cell h
  refine ⟨?_, ?_, ?_, ?_, ?_, ?_, ?_, ?_, ?_⟩ <;> rw [C]
  · exact hm.2 k 0 hk (by omega)
  · exact hm.2 k 1 hk (by omega)
  · exact hm.2 k 2 hk (by omega)
  · exact hm.2 k 3 hk (by omega)
  · exact hm.2 k 4 hk (by omega)
  · exact hm.2 k 5 hk (by omega)
  · exact hm.2 k 6 hk (by omega)
  · exact hm.2 k 7 hk (by omega)
  · exact hm.2 k 8 hk (by omega)
theorem undrew {w w' : World} (h : Below w.drew.heap.size w.drew w') : Below w.heap.size w w' := ⟨h.os, h.tape, h.output, h.size, h.block⟩
attribute [local go_sem] VGo_value VGo_skip VGo_enter
theorem eqMotionS_yes (gA gB capA capB : Nat) (curA curB : Array Value) (w : World) (hA : Has w gA curA 38) (hB : Has w gB curB 38) (mA : Mots curA) (mB : Mots curB) :
    Calls Try.prog 60 #[.slice (some ⟨gA, 0, none⟩) 48 capA, .slice (some ⟨gB, 0, none⟩) 48 capB] w fun e w' => e = .returned (.bool true) ∧ Below w.heap.size w w' := by
  have MA := Lib.hid mA
  have MB := Lib.hid mB
  clear mA mB
  go_enter Try.func60, Try.ntmps60
  go_wp2
  go_loopw [5] (fun i2 wr => ∃ j : Nat, j ≤ 48 ∧ i2 = .int .i64 j ∧ Has wr gA curA 38 ∧ Has wr gB curB 38 ∧ Below w.heap.size w wr) (fun i2 _ => 48 - (intOf i2).toNat)
  case atStart => exact ⟨0, by omega, rfl, hA, hB, by repeat' (first | with_reducible exact lowRefl _ | with_reducible apply lowSet | with_reducible apply lowDrew | with_reducible apply lowDrewN | with_reducible apply lowAlloc | (with_reducible refine lowCall ?_ (by assumption)) | (show (_ : Nat) ≤ _; first | (simp; done) | (simp; omega) | omega))⟩
  case round =>
    clear hA hB
    obtain ⟨j, hj, rfl, hA, hB, hb⟩ := hrel
    by_cases hc : j < 48
    · have NA : ∀ w', Below wr.drew.heap.size wr.drew w' → Nine w' gA j _ _ _ _ _ _ _ _ _ := fun w' h => nine_of (hA.below (undrew h)) MA.out hc
      have NB : ∀ w', Below wr.drew.heap.size wr.drew w' → Nine w' gB j _ _ _ _ _ _ _ _ _ := fun w' h => nine_of (hB.below (undrew h)) MB.out hc
      revert NA NB
      generalize (axs (j / 8)).1 = a
      generalize (axs (j / 8)).2.1 = b
      generalize (axs (j / 8)).2.2 = c
      generalize bt (j % 8) 0 = p
      generalize bt (j % 8) 1 = q
      generalize bt (j % 8) 2 = r
      intro NA NB
      go_wp2
      (refine wp_region_held0 (by kernel_rfl) (by kernel_rfl) (fun _ _ _ d _ h => by cases d <;> exact h) ?_; intro Fq hFq)
      repeat (first | (refine wpHeld_run ?_ rfl ?_ ?_; rotate_left; (focus (intro w' hbq Kq hKq; ((try (have B0 := Has.below (b := w.heap.size) (by repeat' (first | with_reducible assumption | with_reducible apply Has.new | with_reducible apply Has.new1 | with_reducible apply Has.new2 | with_reducible apply Has.new3 | with_reducible apply Has.new4 | with_reducible apply Has.drew | with_reducible apply Has.drewN | with_reducible apply Has.alloc | with_reducible apply Has.same | with_reducible apply Has.other | (with_reducible show _ ≠ _; first | omega | (simp; done)))) hbq; have C0 := Has.cell B0; have F0 := Has.frozen B0)); (try (have B1 := Has.below (b := w.heap.size + 1) (by repeat' (first | with_reducible assumption | with_reducible apply Has.new | with_reducible apply Has.new1 | with_reducible apply Has.new2 | with_reducible apply Has.new3 | with_reducible apply Has.new4 | with_reducible apply Has.drew | with_reducible apply Has.drewN | with_reducible apply Has.alloc | with_reducible apply Has.same | with_reducible apply Has.other | (with_reducible show _ ≠ _; first | omega | (simp; done)))) hbq; have C1 := Has.cell B1; have F1 := Has.frozen B1)); (try (have B2 := Has.below (b := w.heap.size + 1 + 1) (by repeat' (first | with_reducible assumption | with_reducible apply Has.new | with_reducible apply Has.new1 | with_reducible apply Has.new2 | with_reducible apply Has.new3 | with_reducible apply Has.new4 | with_reducible apply Has.drew | with_reducible apply Has.drewN | with_reducible apply Has.alloc | with_reducible apply Has.same | with_reducible apply Has.other | (with_reducible show _ ≠ _; first | omega | (simp; done)))) hbq; have C2 := Has.cell B2; have F2 := Has.frozen B2)); (try (have B3 := Has.below (b := w.heap.size + 1 + 1 + 1) (by repeat' (first | with_reducible assumption | with_reducible apply Has.new | with_reducible apply Has.new1 | with_reducible apply Has.new2 | with_reducible apply Has.new3 | with_reducible apply Has.new4 | with_reducible apply Has.drew | with_reducible apply Has.drewN | with_reducible apply Has.alloc | with_reducible apply Has.same | with_reducible apply Has.other | (with_reducible show _ ≠ _; first | omega | (simp; done)))) hbq; have C3 := Has.cell B3; have F3 := Has.frozen B3)); (try (have BX := Has.below (b := bX) (by repeat' (first | with_reducible assumption | with_reducible apply Has.new | with_reducible apply Has.new1 | with_reducible apply Has.new2 | with_reducible apply Has.new3 | with_reducible apply Has.new4 | with_reducible apply Has.drew | with_reducible apply Has.drewN | with_reducible apply Has.alloc | with_reducible apply Has.same | with_reducible apply Has.other | (with_reducible show _ ≠ _; first | omega | (simp; done)))) hbq; have CX := Has.cell BX; have FX := Has.frozen BX)); (try (have BY := Has.below (b := bY) (by repeat' (first | with_reducible assumption | with_reducible apply Has.new | with_reducible apply Has.new1 | with_reducible apply Has.new2 | with_reducible apply Has.new3 | with_reducible apply Has.new4 | with_reducible apply Has.drew | with_reducible apply Has.drewN | with_reducible apply Has.alloc | with_reducible apply Has.same | with_reducible apply Has.other | (with_reducible show _ ≠ _; first | omega | (simp; done)))) hbq; have CY := Has.cell BY; have FY := Has.frozen BY))); go_simp; (try (rw [IntWalk.i64_in]; rotate_left; focus (constructor <;> omega))); first | exact hKq _ (Below.refl _ _) | first | (obtain ⟨a0, a1, a2, a3, a4, a5, a6, a7, a8⟩ := NA _ hbq; go_simp; exact hKq _ (Below.refl _ _)) | (obtain ⟨a0, a1, a2, a3, a4, a5, a6, a7, a8⟩ := NB _ hbq; go_simp; exact hKq _ (Below.refl _ _)) | (go_at_call 59; ((with_reducible refine (eqMotion_yes _ _ _ _ _ _ _ _ _ _).mono ?_); rintro e w2 ⟨rfl, hbr⟩; refine back ?_; exact hKq _ hbr)))); ((try simp only [Act.put, List.setIfInBounds_toArray, List.set_cons_zero, List.set_cons_succ]))) | (refine wpHeld_skip (by rfl) ?_; ((try simp only [Act.put, List.setIfInBounds_toArray, List.set_cons_zero, List.set_cons_succ]))))
      (refine wpHeld_nil (hFq _ ?_); clear hFq; intro w' hbq; ((try (have B0 := Has.below (b := w.heap.size) (by repeat' (first | with_reducible assumption | with_reducible apply Has.new | with_reducible apply Has.new1 | with_reducible apply Has.new2 | with_reducible apply Has.new3 | with_reducible apply Has.new4 | with_reducible apply Has.drew | with_reducible apply Has.drewN | with_reducible apply Has.alloc | with_reducible apply Has.same | with_reducible apply Has.other | (with_reducible show _ ≠ _; first | omega | (simp; done)))) hbq; have C0 := Has.cell B0; have F0 := Has.frozen B0)); (try (have B1 := Has.below (b := w.heap.size + 1) (by repeat' (first | with_reducible assumption | with_reducible apply Has.new | with_reducible apply Has.new1 | with_reducible apply Has.new2 | with_reducible apply Has.new3 | with_reducible apply Has.new4 | with_reducible apply Has.drew | with_reducible apply Has.drewN | with_reducible apply Has.alloc | with_reducible apply Has.same | with_reducible apply Has.other | (with_reducible show _ ≠ _; first | omega | (simp; done)))) hbq; have C1 := Has.cell B1; have F1 := Has.frozen B1)); (try (have B2 := Has.below (b := w.heap.size + 1 + 1) (by repeat' (first | with_reducible assumption | with_reducible apply Has.new | with_reducible apply Has.new1 | with_reducible apply Has.new2 | with_reducible apply Has.new3 | with_reducible apply Has.new4 | with_reducible apply Has.drew | with_reducible apply Has.drewN | with_reducible apply Has.alloc | with_reducible apply Has.same | with_reducible apply Has.other | (with_reducible show _ ≠ _; first | omega | (simp; done)))) hbq; have C2 := Has.cell B2; have F2 := Has.frozen B2)); (try (have B3 := Has.below (b := w.heap.size + 1 + 1 + 1) (by repeat' (first | with_reducible assumption | with_reducible apply Has.new | with_reducible apply Has.new1 | with_reducible apply Has.new2 | with_reducible apply Has.new3 | with_reducible apply Has.new4 | with_reducible apply Has.drew | with_reducible apply Has.drewN | with_reducible apply Has.alloc | with_reducible apply Has.same | with_reducible apply Has.other | (with_reducible show _ ≠ _; first | omega | (simp; done)))) hbq; have C3 := Has.cell B3; have F3 := Has.frozen B3)); (try (have BX := Has.below (b := bX) (by repeat' (first | with_reducible assumption | with_reducible apply Has.new | with_reducible apply Has.new1 | with_reducible apply Has.new2 | with_reducible apply Has.new3 | with_reducible apply Has.new4 | with_reducible apply Has.drew | with_reducible apply Has.drewN | with_reducible apply Has.alloc | with_reducible apply Has.same | with_reducible apply Has.other | (with_reducible show _ ≠ _; first | omega | (simp; done)))) hbq; have CX := Has.cell BX; have FX := Has.frozen BX)); (try (have BY := Has.below (b := bY) (by repeat' (first | with_reducible assumption | with_reducible apply Has.new | with_reducible apply Has.new1 | with_reducible apply Has.new2 | with_reducible apply Has.new3 | with_reducible apply Has.new4 | with_reducible apply Has.drew | with_reducible apply Has.drewN | with_reducible apply Has.alloc | with_reducible apply Has.same | with_reducible apply Has.other | (with_reducible show _ ≠ _; first | omega | (simp; done)))) hbq; have CY := Has.cell BY; have FY := Has.frozen BY))))
      go_wp2
      go_roundw
      case rel => exact ⟨j + 1, by omega, by go_num, hA.below (undrew hbq), hB.below (undrew hbq), lowCall hb (undrew hbq)⟩
      case measure => simp [intOf]; omega
    · obtain rfl : j = 48 := by omega
      go_wp2
      go_ret; refine ⟨rfl, ?_⟩; (repeat' (first | with_reducible exact lowRefl _ | with_reducible apply lowSet | with_reducible apply lowDrew | with_reducible apply lowDrewN | with_reducible apply lowAlloc | (with_reducible refine lowCall ?_ (by assumption)) | (show (_ : Nat) ≤ _; first | (simp; done) | (simp; omega) | omega)))
end Go.Proofs.Ytdpgeekhkfdgkaa
