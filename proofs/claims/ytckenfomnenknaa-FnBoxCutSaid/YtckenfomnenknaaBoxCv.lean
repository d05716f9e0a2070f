import Derived.Test.YtckenfomnenknaaBoxMv
import Derived.Test.YtckenfomnenknaaBoxv
import Derived.Test.YtckenfomnenknaaHeld4v
import Derived.Test.YtckenfomnenknaaMotUv
namespace Go.Proofs.Ytckenfomnenknaa
open Go.ChangeShapes Go.WideShapes Go.ChangeAt Go.RowKit
set_option linter.unusedSimpArgs false
set_option maxHeartbeats 4000000

attribute [local go_sem] ix0 ix1 ix2 VGo_value VGo_skip VGo_enter
theorem islabV (l h f t X Y : Int) (w : World) (hl : -800 ≤ l ∧ l ≤ 800) (hh : -800 ≤ h ∧ h ≤ 800) (hf : -800 ≤ f ∧ f ≤ 800) (ht : -200 ≤ t ∧ t ≤ 200) (e : SlE l h f t X Y) :
    Calls Try.prog 101 #[.int .i64 l, .int .i64 h, .int .i64 f, .int .i64 t] w fun e w' => e = .returned (.tuple #[.int .i64 (X), .int .i64 (Y)]) ∧ Below w.heap.size w w' := by
  have SM : t ≠ 0 → Small ((l - f) * 4096) t ∧ Small ((h - f) * 4096) t := fun h0 => by unfold Small; omega
  have S := Lib.hid SM
  clear SM
  rcases e with ⟨c1, hX, hY⟩ | ⟨c1, hX, hY⟩ | ⟨rfl, c1, c2, rfl, rfl⟩ | ⟨rfl, c1, rfl, rfl⟩
  · have HX := Lib.hid hX
    have HY := Lib.hid hY
    clear hX hY
    go_enter Try.func101, Try.ntmps101
    go_wp2_with (first | (go_at_call 60; ((with_reducible refine (iFloorV _ _ _ _ (S.out (by omega)).1 HX.out).mono ?_); rintro e w' ⟨rfl, rfl⟩)) | (go_at_call 60; ((with_reducible refine (iFloorV _ _ _ _ (S.out (by omega)).2 HY.out).mono ?_); rintro e w' ⟨rfl, rfl⟩)))
    refine bodyPost_ret ?hres rfl ⟨rfl, ?hlow⟩; (case hres => (first | (simp [results, Try.results101, go_sem]; done) | (simp [results, Try.results101, go_sem, *]; done))); (case hlow => repeat' (first | with_reducible exact lowRefl _ | with_reducible apply lowSet | with_reducible apply lowDrew | with_reducible apply lowDrewN | with_reducible apply lowAlloc | (with_reducible refine lowCall ?_ (by assumption)) | (show (_ : Nat) ≤ _; first | (simp; done) | (simp; omega) | omega)))
  · have HX := Lib.hid hX
    have HY := Lib.hid hY
    clear hX hY
    go_enter Try.func101, Try.ntmps101
    go_wp2_with (first | (go_at_call 60; ((with_reducible refine (iFloorV _ _ _ _ (S.out (by omega)).2 HX.out).mono ?_); rintro e w' ⟨rfl, rfl⟩)) | (go_at_call 60; ((with_reducible refine (iFloorV _ _ _ _ (S.out (by omega)).1 HY.out).mono ?_); rintro e w' ⟨rfl, rfl⟩)))
    refine bodyPost_ret ?hres rfl ⟨rfl, ?hlow⟩; (case hres => (first | (simp [results, Try.results101, go_sem]; done) | (simp [results, Try.results101, go_sem, *]; done))); (case hlow => repeat' (first | with_reducible exact lowRefl _ | with_reducible apply lowSet | with_reducible apply lowDrew | with_reducible apply lowDrewN | with_reducible apply lowAlloc | (with_reducible refine lowCall ?_ (by assumption)) | (show (_ : Nat) ≤ _; first | (simp; done) | (simp; omega) | omega)))
  · go_enter Try.func101, Try.ntmps101
    go_wp2_with ((go_at_call 66; ((with_reducible refine (within_yes _ _ _ _ c1 c2).mono ?_); rintro e w' ⟨rfl, rfl⟩)))
    refine bodyPost_ret ?hres rfl ⟨rfl, ?hlow⟩; (case hres => (first | (simp [results, Try.results101, go_sem]; done) | (simp [results, Try.results101, go_sem, *]; done))); (case hlow => repeat' (first | with_reducible exact lowRefl _ | with_reducible apply lowSet | with_reducible apply lowDrew | with_reducible apply lowDrewN | with_reducible apply lowAlloc | (with_reducible refine lowCall ?_ (by assumption)) | (show (_ : Nat) ≤ _; first | (simp; done) | (simp; omega) | omega)))
  · go_enter Try.func101, Try.ntmps101
    go_wp2_with ((go_at_call 66; ((with_reducible refine (within_no _ _ _ _ c1).mono ?_); rintro e w' ⟨rfl, rfl⟩)))
    refine bodyPost_ret ?hres rfl ⟨rfl, ?hlow⟩; (case hres => (first | (simp [results, Try.results101, go_sem]; done) | (simp [results, Try.results101, go_sem, *]; done))); (case hlow => repeat' (first | with_reducible exact lowRefl _ | with_reducible apply lowSet | with_reducible apply lowDrew | with_reducible apply lowDrewN | with_reducible apply lowAlloc | (with_reducible refine lowCall ?_ (by assumption)) | (show (_ : Nat) ≤ _; first | (simp; done) | (simp; omega) | omega)))
theorem saxisV (l h f t X Y : Int) (w : World) (hl : -800 ≤ l ∧ l ≤ 800) (hh : -800 ≤ h ∧ h ≤ 800) (hf : -800 ≤ f ∧ f ≤ 800) (ht : -200 ≤ t ∧ t ≤ 200) (e : SlE l h f t X Y) :
    Calls Try.prog 103 #[.int .i64 l, .int .i64 h, .int .i64 f, .int .i64 t] w fun e w' => e = .returned (.tuple #[.int .i64 (X), .int .i64 (Y)]) ∧ Below w.heap.size w w' := by
  have SM : t ≠ 0 → Small ((l - f) * 4096) t ∧ Small ((h - f) * 4096) t := fun h0 => by unfold Small; omega
  have S := Lib.hid SM
  clear SM
  rcases e with ⟨c1, hX, hY⟩ | ⟨c1, hX, hY⟩ | ⟨rfl, c1, c2, rfl, rfl⟩ | ⟨rfl, c1, rfl, rfl⟩
  · have HX := Lib.hid hX
    have HY := Lib.hid hY
    clear hX hY
    go_enter Try.func103, Try.ntmps103
    go_wp2_with (first | (go_at_call 139; ((with_reducible refine (sFloorV _ _ _ _ (S.out (by omega)).1 HX.out).mono ?_); rintro e w' ⟨rfl, rfl⟩)) | (go_at_call 139; ((with_reducible refine (sFloorV _ _ _ _ (S.out (by omega)).2 HY.out).mono ?_); rintro e w' ⟨rfl, rfl⟩)))
    refine bodyPost_ret ?hres rfl ⟨rfl, ?hlow⟩; (case hres => (first | (simp [results, Try.results103, go_sem]; done) | (simp [results, Try.results103, go_sem, *]; done))); (case hlow => repeat' (first | with_reducible exact lowRefl _ | with_reducible apply lowSet | with_reducible apply lowDrew | with_reducible apply lowDrewN | with_reducible apply lowAlloc | (with_reducible refine lowCall ?_ (by assumption)) | (show (_ : Nat) ≤ _; first | (simp; done) | (simp; omega) | omega)))
  · have HX := Lib.hid hX
    have HY := Lib.hid hY
    clear hX hY
    go_enter Try.func103, Try.ntmps103
    go_wp2_with (first | (go_at_call 139; ((with_reducible refine (sFloorV _ _ _ _ (S.out (by omega)).2 HX.out).mono ?_); rintro e w' ⟨rfl, rfl⟩)) | (go_at_call 139; ((with_reducible refine (sFloorV _ _ _ _ (S.out (by omega)).1 HY.out).mono ?_); rintro e w' ⟨rfl, rfl⟩)))
    refine bodyPost_ret ?hres rfl ⟨rfl, ?hlow⟩; (case hres => (first | (simp [results, Try.results103, go_sem]; done) | (simp [results, Try.results103, go_sem, *]; done))); (case hlow => repeat' (first | with_reducible exact lowRefl _ | with_reducible apply lowSet | with_reducible apply lowDrew | with_reducible apply lowDrewN | with_reducible apply lowAlloc | (with_reducible refine lowCall ?_ (by assumption)) | (show (_ : Nat) ≤ _; first | (simp; done) | (simp; omega) | omega)))
  · go_enter Try.func103, Try.ntmps103
    go_wp2_with ((go_at_call 67; ((with_reducible refine (l1In_yes _ _ _ _ c1 c2).mono ?_); rintro e w' ⟨rfl, rfl⟩)))
    refine bodyPost_ret ?hres rfl ⟨rfl, ?hlow⟩; (case hres => (first | (simp [results, Try.results103, go_sem]; done) | (simp [results, Try.results103, go_sem, *]; done))); (case hlow => repeat' (first | with_reducible exact lowRefl _ | with_reducible apply lowSet | with_reducible apply lowDrew | with_reducible apply lowDrewN | with_reducible apply lowAlloc | (with_reducible refine lowCall ?_ (by assumption)) | (show (_ : Nat) ≤ _; first | (simp; done) | (simp; omega) | omega)))
  · go_enter Try.func103, Try.ntmps103
    go_wp2_with ((go_at_call 67; ((with_reducible refine (l1In_no _ _ _ _ c1).mono ?_); rintro e w' ⟨rfl, rfl⟩)))
    refine bodyPost_ret ?hres rfl ⟨rfl, ?hlow⟩; (case hres => (first | (simp [results, Try.results103, go_sem]; done) | (simp [results, Try.results103, go_sem, *]; done))); (case hlow => repeat' (first | with_reducible exact lowRefl _ | with_reducible apply lowSet | with_reducible apply lowDrew | with_reducible apply lowDrewN | with_reducible apply lowAlloc | (with_reducible refine lowCall ?_ (by assumption)) | (show (_ : Nat) ≤ _; first | (simp; done) | (simp; omega) | omega)))
def at4 (a b c d : Int) : Nat → Int
  | 0 => a
  | 1 => b
  | 2 => c
  | _ => d
/- the model's cut of two cuts -/
theorem smeetV (a b c d X Y : Int) (w : World) (e : LfE (max a c) (min b d) X Y) :
    Calls Try.prog 104 #[.int .i64 a, .int .i64 b, .int .i64 c, .int .i64 d] w fun e w' => e = .returned (.tuple #[.int .i64 (X), .int .i64 (Y)]) ∧ w = w' := by
  by_cases h1 : a < c
  · have e1 : max a c = c := by omega
    rw [e1] at e
    by_cases h2 : d < b
    · have e2 : min b d = d := by omega
      rw [e2] at e
      rcases e with ⟨h, rfl, rfl⟩ | ⟨h, rfl, rfl⟩
      all_goals
        clear e1 e2
        go_enter Try.func104, Try.ntmps104
        go_wp2
        refine bodyPost_ret ?_ rfl ⟨rfl, rfl⟩
        simp [results, Try.results104, go_sem]
    · have e2 : min b d = b := by omega
      rw [e2] at e
      rcases e with ⟨h, rfl, rfl⟩ | ⟨h, rfl, rfl⟩
      all_goals
        clear e1 e2
        go_enter Try.func104, Try.ntmps104
        go_wp2
        refine bodyPost_ret ?_ rfl ⟨rfl, rfl⟩
        simp [results, Try.results104, go_sem]
  · have e1 : max a c = a := by omega
    rw [e1] at e
    by_cases h2 : d < b
    · have e2 : min b d = d := by omega
      rw [e2] at e
      rcases e with ⟨h, rfl, rfl⟩ | ⟨h, rfl, rfl⟩
      all_goals
        clear e1 e2
        go_enter Try.func104, Try.ntmps104
        go_wp2
        refine bodyPost_ret ?_ rfl ⟨rfl, rfl⟩
        simp [results, Try.results104, go_sem]
    · have e2 : min b d = b := by omega
      rw [e2] at e
      rcases e with ⟨h, rfl, rfl⟩ | ⟨h, rfl, rfl⟩
      all_goals
        clear e1 e2
        go_enter Try.func104, Try.ntmps104
        go_wp2
        refine bodyPost_ret ?_ rfl ⟨rfl, rfl⟩
        simp [results, Try.results104, go_sem]
end Go.Proofs.Ytckenfomnenknaa
