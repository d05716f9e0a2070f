
import Derived.Test.YtbgcbolalbjepabMotM
import Derived.Test.YtbgcbolalbjepabEnd
import Derived.LoopN
import Derived.ChangeAlike
import Derived.RegionTactic
import Derived.Deep.Cut
namespace Go.Proofs.Ytbgcbolalbjepab
open Go.ChangeShapes Go.WideShapes Go.ChangeAt Go.RowKit
set_option maxHeartbeats 1000000
set_option linter.unusedSimpArgs false

def fl (s : Prop) [Decidable s] (x : Int) : Int := if s then -x else x
theorem fl_bd (s : Prop) [Decidable s] (x : Int) (h : -1 ≤ x ∧ x ≤ 1) : -1 ≤ fl s x ∧ fl s x ≤ 1 := by unfold fl; split <;> omega
/- the hand so far: the program's order, and the model's -/
def hi (a b c : Int) (k l n : Bool) : Nat → Int
  | 0 => 1
  | 1 => fl (c < a) (fl (b < a) (fl (k = true) 1))
  | 2 => fl (c < b) (fl (l = true) (fl (c < a) (fl (b < a) (fl (k = true) 1))))
  | _ => fl (n = true) (fl (c < b) (fl (l = true) (fl (c < a) (fl (b < a) (fl (k = true) 1)))))
def hs (a b c : Int) (k l n : Bool) : Nat → Int
  | 0 => 1
  | 1 => fl (k = true) 1
  | 2 => fl (b < a) (fl (l = true) (fl (k = true) 1))
  | _ => fl (c < b) (fl (c < a) (fl (n = true) (fl (b < a) (fl (l = true) (fl (k = true) 1)))))
theorem hi_bd (a b c : Int) (k l n : Bool) (j : Nat) : -1 ≤ hi a b c k l n j ∧ hi a b c k l n j ≤ 1 := by
  match j with
  | 0 => simp [hi]
  | 1 => simp only [hi]; repeat' (first | apply fl_bd | decide)
  | 2 => simp only [hi]; repeat' (first | apply fl_bd | decide)
  | j + 3 => simp only [hi]; repeat' (first | apply fl_bd | decide)
theorem hs_bd (a b c : Int) (k l n : Bool) (j : Nat) : -1 ≤ hs a b c k l n j ∧ hs a b c k l n j ≤ 1 := by
  match j with
  | 0 => simp [hs]
  | 1 => simp only [hs]; repeat' (first | apply fl_bd | decide)
  | 2 => simp only [hs]; repeat' (first | apply fl_bd | decide)
  | j + 3 => simp only [hs]; repeat' (first | apply fl_bd | decide)
theorem fl_com (s t : Prop) [Decidable s] [Decidable t] (x : Int) : fl s (fl t x) = fl t (fl s x) := by unfold fl; split <;> split <;> rfl
theorem hs_hi (a b c : Int) (k l n : Bool) : hs a b c k l n 3 = hi a b c k l n 3 := by
  simp only [hs, hi]
  unfold fl
  cases k <;> cases l <;> cases n <;> simp only [if_true, Bool.false_eq_true, if_false] <;> (repeat' split) <;> omega
attribute [local go_sem] ix0 ix1 ix2 VGo_value VGo_skip VGo_enter
theorem iHand_yes (a b c : Int) (k l n : Bool) (p q r : Int) (w : World) (h : Mok a b c p q r) :
    Calls Try.prog 39 #[.agg #[.int .i64 (a), .int .i64 (b), .int .i64 (c), .bool (k), .bool (l), .bool (n), .int .i64 (p), .int .i64 (q), .int .i64 (r)]] w fun e w' => e = .returned (.int .i64 (hi a b c k l n 3)) ∧ Below w.heap.size w w' := by
  have HM := Lib.hid h
  clear h
  go_enter Try.func39, Try.ntmps39
  go_wp2_with ((go_at_call 41; ((with_reducible refine (imotOk_yes _ _ _ _ _ _ _ _ _ _ HM.out).mono ?_); rintro e w' ⟨rfl, hbq⟩; (try (have B0 := Has.below (b := w.heap.size) (by repeat' (first | with_reducible assumption | with_reducible apply Has.new | with_reducible apply Has.new1 | with_reducible apply Has.new2 | with_reducible apply Has.new3 | with_reducible apply Has.new4 | with_reducible apply Has.drew | with_reducible apply Has.drewN | with_reducible apply Has.alloc | with_reducible apply Has.same | with_reducible apply Has.other | (with_reducible show _ ≠ _; first | omega | (simp; done)))) hbq; have C0 := Has.cell B0; have F0 := Has.frozen B0)); (try (have B1 := Has.below (b := w.heap.size + 1) (by repeat' (first | with_reducible assumption | with_reducible apply Has.new | with_reducible apply Has.new1 | with_reducible apply Has.new2 | with_reducible apply Has.new3 | with_reducible apply Has.new4 | with_reducible apply Has.drew | with_reducible apply Has.drewN | with_reducible apply Has.alloc | with_reducible apply Has.same | with_reducible apply Has.other | (with_reducible show _ ≠ _; first | omega | (simp; done)))) hbq; have C1 := Has.cell B1; have F1 := Has.frozen B1)); (try (have B2 := Has.below (b := w.heap.size + 1 + 1) (by repeat' (first | with_reducible assumption | with_reducible apply Has.new | with_reducible apply Has.new1 | with_reducible apply Has.new2 | with_reducible apply Has.new3 | with_reducible apply Has.new4 | with_reducible apply Has.drew | with_reducible apply Has.drewN | with_reducible apply Has.alloc | with_reducible apply Has.same | with_reducible apply Has.other | (with_reducible show _ ≠ _; first | omega | (simp; done)))) hbq; have C2 := Has.cell B2; have F2 := Has.frozen B2)); (try (have B3 := Has.below (b := w.heap.size + 1 + 1 + 1) (by repeat' (first | with_reducible assumption | with_reducible apply Has.new | with_reducible apply Has.new1 | with_reducible apply Has.new2 | with_reducible apply Has.new3 | with_reducible apply Has.new4 | with_reducible apply Has.drew | with_reducible apply Has.drewN | with_reducible apply Has.alloc | with_reducible apply Has.same | with_reducible apply Has.other | (with_reducible show _ ≠ _; first | omega | (simp; done)))) hbq; have C3 := Has.cell B3; have F3 := Has.frozen B3)); (try (have BX := Has.below (b := bX) (by repeat' (first | with_reducible assumption | with_reducible apply Has.new | with_reducible apply Has.new1 | with_reducible apply Has.new2 | with_reducible apply Has.new3 | with_reducible apply Has.new4 | with_reducible apply Has.drew | with_reducible apply Has.drewN | with_reducible apply Has.alloc | with_reducible apply Has.same | with_reducible apply Has.other | (with_reducible show _ ≠ _; first | omega | (simp; done)))) hbq; have CX := Has.cell BX; have FX := Has.frozen BX)); (try (have BY := Has.below (b := bY) (by repeat' (first | with_reducible assumption | with_reducible apply Has.new | with_reducible apply Has.new1 | with_reducible apply Has.new2 | with_reducible apply Has.new3 | with_reducible apply Has.new4 | with_reducible apply Has.drew | with_reducible apply Has.drewN | with_reducible apply Has.alloc | with_reducible apply Has.same | with_reducible apply Has.other | (with_reducible show _ ≠ _; first | omega | (simp; done)))) hbq; have CY := Has.cell BY; have FY := Has.frozen BY)))))
  go_loopw [3, 13] (fun v i2 wr => ∃ j : Nat, j ≤ 3 ∧ i2 = .int .i64 j ∧ v = .int .i64 (hi a b c k l n j) ∧ Has wr w.heap.size #[.int .i64 (a), .int .i64 (b), .int .i64 (c), .bool (k), .bool (l), .bool (n), .int .i64 (p), .int .i64 (q), .int .i64 (r)] 31 ∧ Below w.heap.size w wr) (fun _ i2 _ => 3 - (intOf i2).toNat)
  case atStart => exact ⟨0, by omega, rfl, rfl, by (refine Has.as (by repeat' (first | with_reducible assumption | with_reducible apply Has.new | with_reducible apply Has.new1 | with_reducible apply Has.new2 | with_reducible apply Has.new3 | with_reducible apply Has.new4 | with_reducible apply Has.drew | with_reducible apply Has.drewN | with_reducible apply Has.alloc | with_reducible apply Has.same | with_reducible apply Has.other | (with_reducible show _ ≠ _; first | omega | (simp; done)))) ?_; first | (with_reducible rfl) | (simp only [List.setIfInBounds_toArray, List.set_cons_zero, List.set_cons_succ]; done) | (simp only [List.setIfInBounds_toArray, List.set_cons_zero, List.set_cons_succ]; rfl) | rfl | (simp; done)), by repeat' (first | with_reducible exact lowRefl _ | with_reducible apply lowSet | with_reducible apply lowDrew | with_reducible apply lowDrewN | with_reducible apply lowAlloc | (with_reducible refine lowCall ?_ (by assumption)) | (show (_ : Nat) ≤ _; first | (simp; done) | (simp; omega) | omega))⟩
  case round =>
    clear B0 C0 F0
    obtain ⟨j, hj, rfl, rfl, h0, hb⟩ := hrel
    have c0 := Has.cell h0
    have f0 := Has.frozen h0
    have hd := hi_bd a b c k l n j
    obtain rfl | rfl | rfl | rfl : j = 0 ∨ j = 1 ∨ j = 2 ∨ j = 3 := by omega
    · clear hd
      simp only [hi]
      go_wp2
      all_goals
        refine wp_loop_rounds 3 ?_
        repeat' (rw [rounds_succ]; go_wp2)
      all_goals
        go_roundw
        case rel => exact ⟨1, by omega, rfl, by (refine congrArg (Value.int .i64) ?_; simp only [hi, fl]; (repeat' split); all_goals first | omega | (exfalso; simp_all; done)), by (refine Has.as (by repeat' (first | with_reducible assumption | with_reducible apply Has.new | with_reducible apply Has.new1 | with_reducible apply Has.new2 | with_reducible apply Has.new3 | with_reducible apply Has.new4 | with_reducible apply Has.drew | with_reducible apply Has.drewN | with_reducible apply Has.alloc | with_reducible apply Has.same | with_reducible apply Has.other | (with_reducible show _ ≠ _; first | omega | (simp; done)))) ?_; first | (with_reducible rfl) | (simp only [List.setIfInBounds_toArray, List.set_cons_zero, List.set_cons_succ]; done) | (simp only [List.setIfInBounds_toArray, List.set_cons_zero, List.set_cons_succ]; rfl) | rfl | (simp; done)), by repeat' (first | with_reducible exact lowRefl _ | with_reducible apply lowSet | with_reducible apply lowDrew | with_reducible apply lowDrewN | with_reducible apply lowAlloc | (with_reducible refine lowCall ?_ (by assumption)) | (show (_ : Nat) ≤ _; first | (simp; done) | (simp; omega) | omega))⟩
        case measure => simp [intOf]
    · obtain ⟨H, hH⟩ : ∃ H, hi a b c k l n 1 = H := ⟨_, rfl⟩
      have HH := Lib.hid (show hi a b c k l n 2 = fl (c < b) (fl (l = true) H) by rw [← hH]; rfl)
      rw [hH] at hd ⊢
      clear hH
      obtain ⟨d1, d2⟩ := hd
      go_wp2
      all_goals
        refine wp_loop_rounds 2 ?_
        repeat' (rw [rounds_succ]; go_wp2)
      all_goals
        go_roundw
        case rel => exact ⟨2, by omega, rfl, by (rw [HH.out]; (refine congrArg (Value.int .i64) ?_; simp only [hi, fl]; (repeat' split); all_goals first | omega | (exfalso; simp_all; done))), by (refine Has.as (by repeat' (first | with_reducible assumption | with_reducible apply Has.new | with_reducible apply Has.new1 | with_reducible apply Has.new2 | with_reducible apply Has.new3 | with_reducible apply Has.new4 | with_reducible apply Has.drew | with_reducible apply Has.drewN | with_reducible apply Has.alloc | with_reducible apply Has.same | with_reducible apply Has.other | (with_reducible show _ ≠ _; first | omega | (simp; done)))) ?_; first | (with_reducible rfl) | (simp only [List.setIfInBounds_toArray, List.set_cons_zero, List.set_cons_succ]; done) | (simp only [List.setIfInBounds_toArray, List.set_cons_zero, List.set_cons_succ]; rfl) | rfl | (simp; done)), by repeat' (first | with_reducible exact lowRefl _ | with_reducible apply lowSet | with_reducible apply lowDrew | with_reducible apply lowDrewN | with_reducible apply lowAlloc | (with_reducible refine lowCall ?_ (by assumption)) | (show (_ : Nat) ≤ _; first | (simp; done) | (simp; omega) | omega))⟩
        case measure => simp [intOf]
    · obtain ⟨H, hH⟩ : ∃ H, hi a b c k l n 2 = H := ⟨_, rfl⟩
      have HH := Lib.hid (show hi a b c k l n 3 = fl (n = true) H by rw [← hH]; rfl)
      rw [hH] at hd ⊢
      clear hH
      obtain ⟨d1, d2⟩ := hd
      go_wp2
      all_goals
        refine wp_loop_rounds 1 ?_
        repeat' (rw [rounds_succ]; go_wp2)
      all_goals
        go_roundw
        case rel => exact ⟨3, by omega, rfl, by (rw [HH.out]; (refine congrArg (Value.int .i64) ?_; simp only [hi, fl]; (repeat' split); all_goals first | omega | (exfalso; simp_all; done))), by (refine Has.as (by repeat' (first | with_reducible assumption | with_reducible apply Has.new | with_reducible apply Has.new1 | with_reducible apply Has.new2 | with_reducible apply Has.new3 | with_reducible apply Has.new4 | with_reducible apply Has.drew | with_reducible apply Has.drewN | with_reducible apply Has.alloc | with_reducible apply Has.same | with_reducible apply Has.other | (with_reducible show _ ≠ _; first | omega | (simp; done)))) ?_; first | (with_reducible rfl) | (simp only [List.setIfInBounds_toArray, List.set_cons_zero, List.set_cons_succ]; done) | (simp only [List.setIfInBounds_toArray, List.set_cons_zero, List.set_cons_succ]; rfl) | rfl | (simp; done)), by repeat' (first | with_reducible exact lowRefl _ | with_reducible apply lowSet | with_reducible apply lowDrew | with_reducible apply lowDrewN | with_reducible apply lowAlloc | (with_reducible refine lowCall ?_ (by assumption)) | (show (_ : Nat) ≤ _; first | (simp; done) | (simp; omega) | omega))⟩
        case measure => simp [intOf]
    · clear hd
      go_wp2
      go_ret; refine ⟨rfl, ?_⟩; (repeat' (first | with_reducible exact lowRefl _ | with_reducible apply lowSet | with_reducible apply lowDrew | with_reducible apply lowDrewN | with_reducible apply lowAlloc | (with_reducible refine lowCall ?_ (by assumption)) | (show (_ : Nat) ≤ _; first | (simp; done) | (simp; omega) | omega)))
theorem iHand_no (a b c : Int) (k l n : Bool) (p q r : Int) (w : World) (h : ¬ Mok a b c p q r) :
    Calls Try.prog 39 #[.agg #[.int .i64 (a), .int .i64 (b), .int .i64 (c), .bool (k), .bool (l), .bool (n), .int .i64 (p), .int .i64 (q), .int .i64 (r)]] w fun e w' => e = .returned (.int .i64 0) ∧ Below w.heap.size w w' := by
  have HM := Lib.hid h
  clear h
  go_enter Try.func39, Try.ntmps39
  go_wp2_with ((go_at_call 41; ((with_reducible refine (imotOk_no _ _ _ _ _ _ _ _ _ _ HM.out).mono ?_); rintro e w' ⟨rfl, hbq⟩; (try (have B0 := Has.below (b := w.heap.size) (by repeat' (first | with_reducible assumption | with_reducible apply Has.new | with_reducible apply Has.new1 | with_reducible apply Has.new2 | with_reducible apply Has.new3 | with_reducible apply Has.new4 | with_reducible apply Has.drew | with_reducible apply Has.drewN | with_reducible apply Has.alloc | with_reducible apply Has.same | with_reducible apply Has.other | (with_reducible show _ ≠ _; first | omega | (simp; done)))) hbq; have C0 := Has.cell B0; have F0 := Has.frozen B0)); (try (have B1 := Has.below (b := w.heap.size + 1) (by repeat' (first | with_reducible assumption | with_reducible apply Has.new | with_reducible apply Has.new1 | with_reducible apply Has.new2 | with_reducible apply Has.new3 | with_reducible apply Has.new4 | with_reducible apply Has.drew | with_reducible apply Has.drewN | with_reducible apply Has.alloc | with_reducible apply Has.same | with_reducible apply Has.other | (with_reducible show _ ≠ _; first | omega | (simp; done)))) hbq; have C1 := Has.cell B1; have F1 := Has.frozen B1)); (try (have B2 := Has.below (b := w.heap.size + 1 + 1) (by repeat' (first | with_reducible assumption | with_reducible apply Has.new | with_reducible apply Has.new1 | with_reducible apply Has.new2 | with_reducible apply Has.new3 | with_reducible apply Has.new4 | with_reducible apply Has.drew | with_reducible apply Has.drewN | with_reducible apply Has.alloc | with_reducible apply Has.same | with_reducible apply Has.other | (with_reducible show _ ≠ _; first | omega | (simp; done)))) hbq; have C2 := Has.cell B2; have F2 := Has.frozen B2)); (try (have B3 := Has.below (b := w.heap.size + 1 + 1 + 1) (by repeat' (first | with_reducible assumption | with_reducible apply Has.new | with_reducible apply Has.new1 | with_reducible apply Has.new2 | with_reducible apply Has.new3 | with_reducible apply Has.new4 | with_reducible apply Has.drew | with_reducible apply Has.drewN | with_reducible apply Has.alloc | with_reducible apply Has.same | with_reducible apply Has.other | (with_reducible show _ ≠ _; first | omega | (simp; done)))) hbq; have C3 := Has.cell B3; have F3 := Has.frozen B3)); (try (have BX := Has.below (b := bX) (by repeat' (first | with_reducible assumption | with_reducible apply Has.new | with_reducible apply Has.new1 | with_reducible apply Has.new2 | with_reducible apply Has.new3 | with_reducible apply Has.new4 | with_reducible apply Has.drew | with_reducible apply Has.drewN | with_reducible apply Has.alloc | with_reducible apply Has.same | with_reducible apply Has.other | (with_reducible show _ ≠ _; first | omega | (simp; done)))) hbq; have CX := Has.cell BX; have FX := Has.frozen BX)); (try (have BY := Has.below (b := bY) (by repeat' (first | with_reducible assumption | with_reducible apply Has.new | with_reducible apply Has.new1 | with_reducible apply Has.new2 | with_reducible apply Has.new3 | with_reducible apply Has.new4 | with_reducible apply Has.drew | with_reducible apply Has.drewN | with_reducible apply Has.alloc | with_reducible apply Has.same | with_reducible apply Has.other | (with_reducible show _ ≠ _; first | omega | (simp; done)))) hbq; have CY := Has.cell BY; have FY := Has.frozen BY)))))
  go_ret; refine ⟨rfl, ?_⟩; (repeat' (first | with_reducible exact lowRefl _ | with_reducible apply lowSet | with_reducible apply lowDrew | with_reducible apply lowDrewN | with_reducible apply lowAlloc | (with_reducible refine lowCall ?_ (by assumption)) | (show (_ : Nat) ≤ _; first | (simp; done) | (simp; omega) | omega)))
theorem sHand_no (a b c : Int) (k l n : Bool) (p q r : Int) (w : World) (h : ¬ Mok a b c p q r) :
    Calls Try.prog 40 #[.agg #[.int .i64 (a), .int .i64 (b), .int .i64 (c), .bool (k), .bool (l), .bool (n), .int .i64 (p), .int .i64 (q), .int .i64 (r)]] w fun e w' => e = .returned (.int .i64 0) ∧ Below w.heap.size w w' := by
  have HM := Lib.hid h
  clear h
  go_enter Try.func40, Try.ntmps40
  go_wp2_with ((go_at_call 43; ((with_reducible refine (smotOk_no _ _ _ _ _ _ _ _ _ _ HM.out).mono ?_); rintro e w' ⟨rfl, hbq⟩; (try (have B0 := Has.below (b := w.heap.size) (by repeat' (first | with_reducible assumption | with_reducible apply Has.new | with_reducible apply Has.new1 | with_reducible apply Has.new2 | with_reducible apply Has.new3 | with_reducible apply Has.new4 | with_reducible apply Has.drew | with_reducible apply Has.drewN | with_reducible apply Has.alloc | with_reducible apply Has.same | with_reducible apply Has.other | (with_reducible show _ ≠ _; first | omega | (simp; done)))) hbq; have C0 := Has.cell B0; have F0 := Has.frozen B0)); (try (have B1 := Has.below (b := w.heap.size + 1) (by repeat' (first | with_reducible assumption | with_reducible apply Has.new | with_reducible apply Has.new1 | with_reducible apply Has.new2 | with_reducible apply Has.new3 | with_reducible apply Has.new4 | with_reducible apply Has.drew | with_reducible apply Has.drewN | with_reducible apply Has.alloc | with_reducible apply Has.same | with_reducible apply Has.other | (with_reducible show _ ≠ _; first | omega | (simp; done)))) hbq; have C1 := Has.cell B1; have F1 := Has.frozen B1)); (try (have B2 := Has.below (b := w.heap.size + 1 + 1) (by repeat' (first | with_reducible assumption | with_reducible apply Has.new | with_reducible apply Has.new1 | with_reducible apply Has.new2 | with_reducible apply Has.new3 | with_reducible apply Has.new4 | with_reducible apply Has.drew | with_reducible apply Has.drewN | with_reducible apply Has.alloc | with_reducible apply Has.same | with_reducible apply Has.other | (with_reducible show _ ≠ _; first | omega | (simp; done)))) hbq; have C2 := Has.cell B2; have F2 := Has.frozen B2)); (try (have B3 := Has.below (b := w.heap.size + 1 + 1 + 1) (by repeat' (first | with_reducible assumption | with_reducible apply Has.new | with_reducible apply Has.new1 | with_reducible apply Has.new2 | with_reducible apply Has.new3 | with_reducible apply Has.new4 | with_reducible apply Has.drew | with_reducible apply Has.drewN | with_reducible apply Has.alloc | with_reducible apply Has.same | with_reducible apply Has.other | (with_reducible show _ ≠ _; first | omega | (simp; done)))) hbq; have C3 := Has.cell B3; have F3 := Has.frozen B3)); (try (have BX := Has.below (b := bX) (by repeat' (first | with_reducible assumption | with_reducible apply Has.new | with_reducible apply Has.new1 | with_reducible apply Has.new2 | with_reducible apply Has.new3 | with_reducible apply Has.new4 | with_reducible apply Has.drew | with_reducible apply Has.drewN | with_reducible apply Has.alloc | with_reducible apply Has.same | with_reducible apply Has.other | (with_reducible show _ ≠ _; first | omega | (simp; done)))) hbq; have CX := Has.cell BX; have FX := Has.frozen BX)); (try (have BY := Has.below (b := bY) (by repeat' (first | with_reducible assumption | with_reducible apply Has.new | with_reducible apply Has.new1 | with_reducible apply Has.new2 | with_reducible apply Has.new3 | with_reducible apply Has.new4 | with_reducible apply Has.drew | with_reducible apply Has.drewN | with_reducible apply Has.alloc | with_reducible apply Has.same | with_reducible apply Has.other | (with_reducible show _ ≠ _; first | omega | (simp; done)))) hbq; have CY := Has.cell BY; have FY := Has.frozen BY)))))
  go_ret; refine ⟨rfl, ?_⟩; (repeat' (first | with_reducible exact lowRefl _ | with_reducible apply lowSet | with_reducible apply lowDrew | with_reducible apply lowDrewN | with_reducible apply lowAlloc | (with_reducible refine lowCall ?_ (by assumption)) | (show (_ : Nat) ≤ _; first | (simp; done) | (simp; omega) | omega)))
theorem sHand_yes (a b c : Int) (k l n : Bool) (p q r : Int) (w : World) (h : Mok a b c p q r) :
    Calls Try.prog 40 #[.agg #[.int .i64 (a), .int .i64 (b), .int .i64 (c), .bool (k), .bool (l), .bool (n), .int .i64 (p), .int .i64 (q), .int .i64 (r)]] w fun e w' => e = .returned (.int .i64 (hs a b c k l n 3)) ∧ Below w.heap.size w w' := by
  have HM := Lib.hid h
  clear h
  go_enter Try.func40, Try.ntmps40
  go_wp2_with ((go_at_call 43; ((with_reducible refine (smotOk_yes _ _ _ _ _ _ _ _ _ _ HM.out).mono ?_); rintro e w' ⟨rfl, hbq⟩; (try (have B0 := Has.below (b := w.heap.size) (by repeat' (first | with_reducible assumption | with_reducible apply Has.new | with_reducible apply Has.new1 | with_reducible apply Has.new2 | with_reducible apply Has.new3 | with_reducible apply Has.new4 | with_reducible apply Has.drew | with_reducible apply Has.drewN | with_reducible apply Has.alloc | with_reducible apply Has.same | with_reducible apply Has.other | (with_reducible show _ ≠ _; first | omega | (simp; done)))) hbq; have C0 := Has.cell B0; have F0 := Has.frozen B0)); (try (have B1 := Has.below (b := w.heap.size + 1) (by repeat' (first | with_reducible assumption | with_reducible apply Has.new | with_reducible apply Has.new1 | with_reducible apply Has.new2 | with_reducible apply Has.new3 | with_reducible apply Has.new4 | with_reducible apply Has.drew | with_reducible apply Has.drewN | with_reducible apply Has.alloc | with_reducible apply Has.same | with_reducible apply Has.other | (with_reducible show _ ≠ _; first | omega | (simp; done)))) hbq; have C1 := Has.cell B1; have F1 := Has.frozen B1)); (try (have B2 := Has.below (b := w.heap.size + 1 + 1) (by repeat' (first | with_reducible assumption | with_reducible apply Has.new | with_reducible apply Has.new1 | with_reducible apply Has.new2 | with_reducible apply Has.new3 | with_reducible apply Has.new4 | with_reducible apply Has.drew | with_reducible apply Has.drewN | with_reducible apply Has.alloc | with_reducible apply Has.same | with_reducible apply Has.other | (with_reducible show _ ≠ _; first | omega | (simp; done)))) hbq; have C2 := Has.cell B2; have F2 := Has.frozen B2)); (try (have B3 := Has.below (b := w.heap.size + 1 + 1 + 1) (by repeat' (first | with_reducible assumption | with_reducible apply Has.new | with_reducible apply Has.new1 | with_reducible apply Has.new2 | with_reducible apply Has.new3 | with_reducible apply Has.new4 | with_reducible apply Has.drew | with_reducible apply Has.drewN | with_reducible apply Has.alloc | with_reducible apply Has.same | with_reducible apply Has.other | (with_reducible show _ ≠ _; first | omega | (simp; done)))) hbq; have C3 := Has.cell B3; have F3 := Has.frozen B3)); (try (have BX := Has.below (b := bX) (by repeat' (first | with_reducible assumption | with_reducible apply Has.new | with_reducible apply Has.new1 | with_reducible apply Has.new2 | with_reducible apply Has.new3 | with_reducible apply Has.new4 | with_reducible apply Has.drew | with_reducible apply Has.drewN | with_reducible apply Has.alloc | with_reducible apply Has.same | with_reducible apply Has.other | (with_reducible show _ ≠ _; first | omega | (simp; done)))) hbq; have CX := Has.cell BX; have FX := Has.frozen BX)); (try (have BY := Has.below (b := bY) (by repeat' (first | with_reducible assumption | with_reducible apply Has.new | with_reducible apply Has.new1 | with_reducible apply Has.new2 | with_reducible apply Has.new3 | with_reducible apply Has.new4 | with_reducible apply Has.drew | with_reducible apply Has.drewN | with_reducible apply Has.alloc | with_reducible apply Has.same | with_reducible apply Has.other | (with_reducible show _ ≠ _; first | omega | (simp; done)))) hbq; have CY := Has.cell BY; have FY := Has.frozen BY)))))
  go_loopw [3, 4] (fun v i2 wr => ∃ j : Nat, j ≤ 3 ∧ i2 = .int .i64 j ∧ v = .int .i64 (hs a b c k l n j) ∧ Has wr w.heap.size #[.int .i64 (a), .int .i64 (b), .int .i64 (c), .bool (k), .bool (l), .bool (n), .int .i64 (p), .int .i64 (q), .int .i64 (r)] 31 ∧ Below w.heap.size w wr) (fun _ i2 _ => 3 - (intOf i2).toNat)
  case atStart => exact ⟨0, by omega, rfl, rfl, by (refine Has.as (by repeat' (first | with_reducible assumption | with_reducible apply Has.new | with_reducible apply Has.new1 | with_reducible apply Has.new2 | with_reducible apply Has.new3 | with_reducible apply Has.new4 | with_reducible apply Has.drew | with_reducible apply Has.drewN | with_reducible apply Has.alloc | with_reducible apply Has.same | with_reducible apply Has.other | (with_reducible show _ ≠ _; first | omega | (simp; done)))) ?_; first | (with_reducible rfl) | (simp only [List.setIfInBounds_toArray, List.set_cons_zero, List.set_cons_succ]; done) | (simp only [List.setIfInBounds_toArray, List.set_cons_zero, List.set_cons_succ]; rfl) | rfl | (simp; done)), by repeat' (first | with_reducible exact lowRefl _ | with_reducible apply lowSet | with_reducible apply lowDrew | with_reducible apply lowDrewN | with_reducible apply lowAlloc | (with_reducible refine lowCall ?_ (by assumption)) | (show (_ : Nat) ≤ _; first | (simp; done) | (simp; omega) | omega))⟩
  case round =>
    clear B0 C0 F0
    obtain ⟨j, hj, rfl, rfl, h0, hb⟩ := hrel
    have c0 := Has.cell h0
    have f0 := Has.frozen h0
    have hd := hs_bd a b c k l n j
    obtain rfl | rfl | rfl | rfl : j = 0 ∨ j = 1 ∨ j = 2 ∨ j = 3 := by omega
    · clear hd
      simp only [hs]
      go_wp2
      all_goals
        refine wp_loop_rounds 1 ?_
        repeat' (rw [rounds_succ]; go_wp2; (try (go_region; go_wp2)))
      all_goals
        go_roundw
        case rel => exact ⟨1, by omega, rfl, by (refine congrArg (Value.int .i64) ?_; simp only [hs, fl]; (repeat' split); all_goals first | omega | (exfalso; simp_all; done)), by (refine Has.as (by repeat' (first | with_reducible assumption | with_reducible apply Has.new | with_reducible apply Has.new1 | with_reducible apply Has.new2 | with_reducible apply Has.new3 | with_reducible apply Has.new4 | with_reducible apply Has.drew | with_reducible apply Has.drewN | with_reducible apply Has.alloc | with_reducible apply Has.same | with_reducible apply Has.other | (with_reducible show _ ≠ _; first | omega | (simp; done)))) ?_; first | (with_reducible rfl) | (simp only [List.setIfInBounds_toArray, List.set_cons_zero, List.set_cons_succ]; done) | (simp only [List.setIfInBounds_toArray, List.set_cons_zero, List.set_cons_succ]; rfl) | rfl | (simp; done)), by repeat' (first | with_reducible exact lowRefl _ | with_reducible apply lowSet | with_reducible apply lowDrew | with_reducible apply lowDrewN | with_reducible apply lowAlloc | (with_reducible refine lowCall ?_ (by assumption)) | (show (_ : Nat) ≤ _; first | (simp; done) | (simp; omega) | omega))⟩
        case measure => simp [intOf]
    · obtain ⟨H, hH⟩ : ∃ H, hs a b c k l n 1 = H := ⟨_, rfl⟩
      have HH := Lib.hid (show hs a b c k l n 2 = fl (b < a) (fl (l = true) H) by rw [← hH]; rfl)
      rw [hH] at hd ⊢
      clear hH
      obtain ⟨d1, d2⟩ := hd
      go_wp2
      all_goals
        refine wp_loop_rounds 2 ?_
        repeat' (rw [rounds_succ]; go_wp2; (try (go_region; all_goals go_wp2)))
      all_goals
        go_roundw
        case rel => exact ⟨2, by omega, rfl, by (rw [HH.out]; (refine congrArg (Value.int .i64) ?_; simp only [hs, fl]; (repeat' split); all_goals first | omega | (exfalso; simp_all; done))), by (refine Has.as (by repeat' (first | with_reducible assumption | with_reducible apply Has.new | with_reducible apply Has.new1 | with_reducible apply Has.new2 | with_reducible apply Has.new3 | with_reducible apply Has.new4 | with_reducible apply Has.drew | with_reducible apply Has.drewN | with_reducible apply Has.alloc | with_reducible apply Has.same | with_reducible apply Has.other | (with_reducible show _ ≠ _; first | omega | (simp; done)))) ?_; first | (with_reducible rfl) | (simp only [List.setIfInBounds_toArray, List.set_cons_zero, List.set_cons_succ]; done) | (simp only [List.setIfInBounds_toArray, List.set_cons_zero, List.set_cons_succ]; rfl) | rfl | (simp; done)), by repeat' (first | with_reducible exact lowRefl _ | with_reducible apply lowSet | with_reducible apply lowDrew | with_reducible apply lowDrewN | with_reducible apply lowAlloc | (with_reducible refine lowCall ?_ (by assumption)) | (show (_ : Nat) ≤ _; first | (simp; done) | (simp; omega) | omega))⟩
        case measure => simp [intOf]
    · obtain ⟨H, hH⟩ : ∃ H, hs a b c k l n 2 = H := ⟨_, rfl⟩
      have HH := Lib.hid (show hs a b c k l n 3 = fl (c < b) (fl (c < a) (fl (n = true) H)) by rw [← hH]; rfl)
      rw [hH] at hd ⊢
      clear hH
      obtain ⟨d1, d2⟩ := hd
      go_wp2
      all_goals
        refine wp_loop_rounds 3 ?_
        repeat' (rw [rounds_succ]; go_wp2; (try (go_region; all_goals go_wp2)))
      all_goals
        go_roundw
        case rel => exact ⟨3, by omega, rfl, by (rw [HH.out]; (refine congrArg (Value.int .i64) ?_; simp only [hs, fl]; (repeat' split); all_goals first | omega | (exfalso; simp_all; done))), by (refine Has.as (by repeat' (first | with_reducible assumption | with_reducible apply Has.new | with_reducible apply Has.new1 | with_reducible apply Has.new2 | with_reducible apply Has.new3 | with_reducible apply Has.new4 | with_reducible apply Has.drew | with_reducible apply Has.drewN | with_reducible apply Has.alloc | with_reducible apply Has.same | with_reducible apply Has.other | (with_reducible show _ ≠ _; first | omega | (simp; done)))) ?_; first | (with_reducible rfl) | (simp only [List.setIfInBounds_toArray, List.set_cons_zero, List.set_cons_succ]; done) | (simp only [List.setIfInBounds_toArray, List.set_cons_zero, List.set_cons_succ]; rfl) | rfl | (simp; done)), by repeat' (first | with_reducible exact lowRefl _ | with_reducible apply lowSet | with_reducible apply lowDrew | with_reducible apply lowDrewN | with_reducible apply lowAlloc | (with_reducible refine lowCall ?_ (by assumption)) | (show (_ : Nat) ≤ _; first | (simp; done) | (simp; omega) | omega))⟩
        case measure => simp [intOf]
    · clear hd
      go_wp2
      go_ret; refine ⟨rfl, ?_⟩; (repeat' (first | with_reducible exact lowRefl _ | with_reducible apply lowSet | with_reducible apply lowDrew | with_reducible apply lowDrewN | with_reducible apply lowAlloc | (with_reducible refine lowCall ?_ (by assumption)) | (show (_ : Nat) ≤ _; first | (simp; done) | (simp; omega) | omega)))
end Go.Proofs.Ytbgcbolalbjepab
