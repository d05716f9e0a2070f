import Derived.Deep.Cut
import Derived.LoopN
import Derived.Test.YtbgcbolalbjepaaBoxMr
import Derived.Test.YtbgcbolalbjepaaBoxr
import Derived.Test.YtbgcbolalbjepaaHeld4r
import Derived.Test.YtbgcbolalbjepaaMotPr
import Derived.Test.YtbgcbolalbjepaaMotTr
namespace Go.Proofs.Ytbgcbolalbjepaa
open Go.ChangeShapes Go.WideShapes Go.ChangeAt Go.RowKit
set_option linter.unusedSimpArgs false
set_option maxHeartbeats 4000000

attribute [local go_sem] ix0 ix1 ix2 VGo_value VGo_skip VGo_enter
theorem islabV (l h f t X Y : Int) (w : World) (hl : -800 ≤ l ∧ l ≤ 800) (hh : -800 ≤ h ∧ h ≤ 800) (hf : -800 ≤ f ∧ f ≤ 800) (ht : -200 ≤ t ∧ t ≤ 200) (e : SlE l h f t X Y) :
    Calls Try.prog 64 #[.int .i64 l, .int .i64 h, .int .i64 f, .int .i64 t] w fun e w' => e = .returned (.tuple #[.int .i64 (X), .int .i64 (Y)]) ∧ Below w.heap.size w w' := by
  have SM : t ≠ 0 → Small ((l - f) * 4096) t ∧ Small ((h - f) * 4096) t := fun h0 => by unfold Small; omega
  have S := Lib.hid SM
  clear SM
  rcases e with ⟨c1, hX, hY⟩ | ⟨c1, hX, hY⟩ | ⟨rfl, c1, c2, rfl, rfl⟩ | ⟨rfl, c1, rfl, rfl⟩
  · have HX := Lib.hid hX
    have HY := Lib.hid hY
    clear hX hY
    go_enter Try.func64, Try.ntmps64
    go_wp2_with (first | (go_at_call 88; ((with_reducible refine (iFloorV _ _ _ _ (S.out (by omega)).1 HX.out).mono ?_); rintro e w' ⟨rfl, rfl⟩)) | (go_at_call 88; ((with_reducible refine (iFloorV _ _ _ _ (S.out (by omega)).2 HY.out).mono ?_); rintro e w' ⟨rfl, rfl⟩)))
    refine bodyPost_ret ?hres rfl ⟨rfl, ?hlow⟩; (case hres => (first | (simp [results, Try.results64, go_sem]; done) | (simp [results, Try.results64, go_sem, *]; done))); (case hlow => repeat' (first | with_reducible exact lowRefl _ | with_reducible apply lowSet | with_reducible apply lowDrew | with_reducible apply lowDrewN | with_reducible apply lowAlloc | (with_reducible refine lowCall ?_ (by assumption)) | (show (_ : Nat) ≤ _; first | (simp; done) | (simp; omega) | omega)))
  · have HX := Lib.hid hX
    have HY := Lib.hid hY
    clear hX hY
    go_enter Try.func64, Try.ntmps64
    go_wp2_with (first | (go_at_call 88; ((with_reducible refine (iFloorV _ _ _ _ (S.out (by omega)).2 HX.out).mono ?_); rintro e w' ⟨rfl, rfl⟩)) | (go_at_call 88; ((with_reducible refine (iFloorV _ _ _ _ (S.out (by omega)).1 HY.out).mono ?_); rintro e w' ⟨rfl, rfl⟩)))
    refine bodyPost_ret ?hres rfl ⟨rfl, ?hlow⟩; (case hres => (first | (simp [results, Try.results64, go_sem]; done) | (simp [results, Try.results64, go_sem, *]; done))); (case hlow => repeat' (first | with_reducible exact lowRefl _ | with_reducible apply lowSet | with_reducible apply lowDrew | with_reducible apply lowDrewN | with_reducible apply lowAlloc | (with_reducible refine lowCall ?_ (by assumption)) | (show (_ : Nat) ≤ _; first | (simp; done) | (simp; omega) | omega)))
  · go_enter Try.func64, Try.ntmps64
    go_wp2_with ((go_at_call 91; ((with_reducible refine (within_yes _ _ _ _ c1 c2).mono ?_); rintro e w' ⟨rfl, rfl⟩)))
    refine bodyPost_ret ?hres rfl ⟨rfl, ?hlow⟩; (case hres => (first | (simp [results, Try.results64, go_sem]; done) | (simp [results, Try.results64, go_sem, *]; done))); (case hlow => repeat' (first | with_reducible exact lowRefl _ | with_reducible apply lowSet | with_reducible apply lowDrew | with_reducible apply lowDrewN | with_reducible apply lowAlloc | (with_reducible refine lowCall ?_ (by assumption)) | (show (_ : Nat) ≤ _; first | (simp; done) | (simp; omega) | omega)))
  · go_enter Try.func64, Try.ntmps64
    go_wp2_with ((go_at_call 91; ((with_reducible refine (within_no _ _ _ _ c1).mono ?_); rintro e w' ⟨rfl, rfl⟩)))
    refine bodyPost_ret ?hres rfl ⟨rfl, ?hlow⟩; (case hres => (first | (simp [results, Try.results64, go_sem]; done) | (simp [results, Try.results64, go_sem, *]; done))); (case hlow => repeat' (first | with_reducible exact lowRefl _ | with_reducible apply lowSet | with_reducible apply lowDrew | with_reducible apply lowDrewN | with_reducible apply lowAlloc | (with_reducible refine lowCall ?_ (by assumption)) | (show (_ : Nat) ≤ _; first | (simp; done) | (simp; omega) | omega)))
def at4 (a b c d : Int) : Nat → Int
  | 0 => a
  | 1 => b
  | 2 => c
  | _ => d
end Go.Proofs.Ytbgcbolalbjepaa
