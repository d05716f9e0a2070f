import Derived.Test.YtegibpepdndocabGreatBoxb
import Derived.Test.YtegibpepdndocabGreatHeld4b
import Derived.Test.YtegibpepdndocabGreatMotPb
import Derived.Test.YtegibpepdndocabGreatMotTb
import Derived.Test.YtegibpepdndocabGreatMotUb
section
namespace Go.Proofs.YtegibpepdndocabGreat

/- from where to where a ray is between two numbers on an axis -/
def SlE (l h f t X Y : Int) : Prop :=
  (0 < t ∧ ((l - f) * 4096).fdiv t = X ∧ ((h - f) * 4096).fdiv t = Y) ∨ (t < 0 ∧ ((h - f) * 4096).fdiv t = X ∧ ((l - f) * 4096).fdiv t = Y) ∨
  (t = 0 ∧ l ≤ f ∧ f ≤ h ∧ X = -1073741824 ∧ Y = 1073741824) ∨ (t = 0 ∧ (f < l ∨ h < f) ∧ X = 0 ∧ Y = 0)
theorem slE (l h f t : Int) : ∃ X Y, SlE l h f t X Y := by
  by_cases h1 : 0 < t
  · exact ⟨_, _, .inl ⟨h1, rfl, rfl⟩⟩
  · by_cases h2 : t < 0
    · exact ⟨_, _, .inr (.inl ⟨h2, rfl, rfl⟩)⟩
    · by_cases h3 : l ≤ f ∧ f ≤ h
      · exact ⟨_, _, .inr (.inr (.inl ⟨by omega, h3.1, h3.2, rfl, rfl⟩))⟩
      · exact ⟨_, _, .inr (.inr (.inr ⟨by omega, by omega, rfl, rfl⟩))⟩
/- three axes together: the beginnings and the ends so far -/
def CtE (X1 Y1 X2 Y2 X3 Y3 B1 E1 B2 E2 B3 E3 : Int) : Prop := (max (-1073741824) X1 = B1 ∧ min 1073741824 Y1 = E1) ∧ (max B1 X2 = B2 ∧ min E1 Y2 = E2) ∧ (max B2 X3 = B3 ∧ min E2 Y3 = E3)
/- what is left of a cut -/
def LfE (B E X Y : Int) : Prop := (B < E ∧ X = B ∧ Y = E) ∨ (E ≤ B ∧ X = 0 ∧ Y = 0)
theorem lfE (B E : Int) : ∃ X Y, LfE B E X Y := by
  by_cases h : B < E
  · exact ⟨_, _, .inl ⟨h, rfl, rfl⟩⟩
  · exact ⟨_, _, .inr ⟨by omega, rfl, rfl⟩⟩
end Go.Proofs.YtegibpepdndocabGreat
end
section
namespace Go.Proofs.YtegibpepdndocabGreat
open Go.ChangeShapes Go.WideShapes Go.ChangeAt Go.RowKit
set_option linter.unusedSimpArgs false
set_option maxHeartbeats 4000000

attribute [local go_sem] ix0 ix1 ix2 VGo_value VGo_skip VGo_enter
theorem islabV (l h f t X Y : Int) (w : World) (hl : -800 ≤ l ∧ l ≤ 800) (hh : -800 ≤ h ∧ h ≤ 800) (hf : -800 ≤ f ∧ f ≤ 800) (ht : -200 ≤ t ∧ t ≤ 200) (e : SlE l h f t X Y) :
    Calls Tryz.prog 173 #[.int .i64 l, .int .i64 h, .int .i64 f, .int .i64 t] w fun e w' => e = .returned (.tuple #[.int .i64 (X), .int .i64 (Y)]) ∧ Below w.heap.size w w' := by
  have SM : t ≠ 0 → Small ((l - f) * 4096) t ∧ Small ((h - f) * 4096) t := fun h0 => by unfold Small; omega
  have S := Lib.hid SM
  clear SM
  rcases e with ⟨c1, hX, hY⟩ | ⟨c1, hX, hY⟩ | ⟨rfl, c1, c2, rfl, rfl⟩ | ⟨rfl, c1, rfl, rfl⟩
  · have HX := Lib.hid hX
    have HY := Lib.hid hY
    clear hX hY
    go_enter Tryz.func173, Tryz.ntmps173
    go_wp2_with (first | (go_at_call 229; ((with_reducible refine (iFloorV _ _ _ _ (S.out (by omega)).1 HX.out).mono ?_); rintro e w' ⟨rfl, rfl⟩)) | (go_at_call 229; ((with_reducible refine (iFloorV _ _ _ _ (S.out (by omega)).2 HY.out).mono ?_); rintro e w' ⟨rfl, rfl⟩)))
    refine bodyPost_ret ?hres rfl ⟨rfl, ?hlow⟩; (case hres => (first | (simp [results, Tryz.results173, go_sem]; done) | (simp [results, Tryz.results173, go_sem, *]; done))); (case hlow => repeat' (first|with_reducible (first|exact lowRefl _|apply lowSet|apply lowDrew|apply lowDrewN|apply lowAlloc)|(with_reducible refine lowCall ?_ (by assumption))|(show (_ : Nat) ≤ _;first|(simp;done)|(simp;omega)|omega)))
  · have HX := Lib.hid hX
    have HY := Lib.hid hY
    clear hX hY
    go_enter Tryz.func173, Tryz.ntmps173
    go_wp2_with (first | (go_at_call 229; ((with_reducible refine (iFloorV _ _ _ _ (S.out (by omega)).2 HX.out).mono ?_); rintro e w' ⟨rfl, rfl⟩)) | (go_at_call 229; ((with_reducible refine (iFloorV _ _ _ _ (S.out (by omega)).1 HY.out).mono ?_); rintro e w' ⟨rfl, rfl⟩)))
    refine bodyPost_ret ?hres rfl ⟨rfl, ?hlow⟩; (case hres => (first | (simp [results, Tryz.results173, go_sem]; done) | (simp [results, Tryz.results173, go_sem, *]; done))); (case hlow => repeat' (first|with_reducible (first|exact lowRefl _|apply lowSet|apply lowDrew|apply lowDrewN|apply lowAlloc)|(with_reducible refine lowCall ?_ (by assumption))|(show (_ : Nat) ≤ _;first|(simp;done)|(simp;omega)|omega)))
  · go_enter Tryz.func173, Tryz.ntmps173
    go_wp2_with ((go_at_call 79; ((with_reducible refine (within_yes _ _ _ _ c1 c2).mono ?_); rintro e w' ⟨rfl, rfl⟩)))
    refine bodyPost_ret ?hres rfl ⟨rfl, ?hlow⟩; (case hres => (first | (simp [results, Tryz.results173, go_sem]; done) | (simp [results, Tryz.results173, go_sem, *]; done))); (case hlow => repeat' (first|with_reducible (first|exact lowRefl _|apply lowSet|apply lowDrew|apply lowDrewN|apply lowAlloc)|(with_reducible refine lowCall ?_ (by assumption))|(show (_ : Nat) ≤ _;first|(simp;done)|(simp;omega)|omega)))
  · go_enter Tryz.func173, Tryz.ntmps173
    go_wp2_with ((go_at_call 79; ((with_reducible refine (within_no _ _ _ _ c1).mono ?_); rintro e w' ⟨rfl, rfl⟩)))
    refine bodyPost_ret ?hres rfl ⟨rfl, ?hlow⟩; (case hres => (first | (simp [results, Tryz.results173, go_sem]; done) | (simp [results, Tryz.results173, go_sem, *]; done))); (case hlow => repeat' (first|with_reducible (first|exact lowRefl _|apply lowSet|apply lowDrew|apply lowDrewN|apply lowAlloc)|(with_reducible refine lowCall ?_ (by assumption))|(show (_ : Nat) ≤ _;first|(simp;done)|(simp;omega)|omega)))
theorem saxisV (l h f t X Y : Int) (w : World) (hl : -800 ≤ l ∧ l ≤ 800) (hh : -800 ≤ h ∧ h ≤ 800) (hf : -800 ≤ f ∧ f ≤ 800) (ht : -200 ≤ t ∧ t ≤ 200) (e : SlE l h f t X Y) :
    Calls Tryz.prog 192 #[.int .i64 l, .int .i64 h, .int .i64 f, .int .i64 t] w fun e w' => e = .returned (.tuple #[.int .i64 (X), .int .i64 (Y)]) ∧ Below w.heap.size w w' := by
  have SM : t ≠ 0 → Small ((l - f) * 4096) t ∧ Small ((h - f) * 4096) t := fun h0 => by unfold Small; omega
  have S := Lib.hid SM
  clear SM
  rcases e with ⟨c1, hX, hY⟩ | ⟨c1, hX, hY⟩ | ⟨rfl, c1, c2, rfl, rfl⟩ | ⟨rfl, c1, rfl, rfl⟩
  · have HX := Lib.hid hX
    have HY := Lib.hid hY
    clear hX hY
    go_enter Tryz.func192, Tryz.ntmps192
    go_wp2_with (first | (go_at_call 200; ((with_reducible refine (sFloorV _ _ _ _ (S.out (by omega)).1 HX.out).mono ?_); rintro e w' ⟨rfl, rfl⟩)) | (go_at_call 200; ((with_reducible refine (sFloorV _ _ _ _ (S.out (by omega)).2 HY.out).mono ?_); rintro e w' ⟨rfl, rfl⟩)))
    refine bodyPost_ret ?hres rfl ⟨rfl, ?hlow⟩; (case hres => (first | (simp [results, Tryz.results192, go_sem]; done) | (simp [results, Tryz.results192, go_sem, *]; done))); (case hlow => repeat' (first|with_reducible (first|exact lowRefl _|apply lowSet|apply lowDrew|apply lowDrewN|apply lowAlloc)|(with_reducible refine lowCall ?_ (by assumption))|(show (_ : Nat) ≤ _;first|(simp;done)|(simp;omega)|omega)))
  · have HX := Lib.hid hX
    have HY := Lib.hid hY
    clear hX hY
    go_enter Tryz.func192, Tryz.ntmps192
    go_wp2_with (first | (go_at_call 200; ((with_reducible refine (sFloorV _ _ _ _ (S.out (by omega)).2 HX.out).mono ?_); rintro e w' ⟨rfl, rfl⟩)) | (go_at_call 200; ((with_reducible refine (sFloorV _ _ _ _ (S.out (by omega)).1 HY.out).mono ?_); rintro e w' ⟨rfl, rfl⟩)))
    refine bodyPost_ret ?hres rfl ⟨rfl, ?hlow⟩; (case hres => (first | (simp [results, Tryz.results192, go_sem]; done) | (simp [results, Tryz.results192, go_sem, *]; done))); (case hlow => repeat' (first|with_reducible (first|exact lowRefl _|apply lowSet|apply lowDrew|apply lowDrewN|apply lowAlloc)|(with_reducible refine lowCall ?_ (by assumption))|(show (_ : Nat) ≤ _;first|(simp;done)|(simp;omega)|omega)))
  · go_enter Tryz.func192, Tryz.ntmps192
    go_wp2_with ((go_at_call 72; ((with_reducible refine (l1In_yes _ _ _ _ c1 c2).mono ?_); rintro e w' ⟨rfl, rfl⟩)))
    refine bodyPost_ret ?hres rfl ⟨rfl, ?hlow⟩; (case hres => (first | (simp [results, Tryz.results192, go_sem]; done) | (simp [results, Tryz.results192, go_sem, *]; done))); (case hlow => repeat' (first|with_reducible (first|exact lowRefl _|apply lowSet|apply lowDrew|apply lowDrewN|apply lowAlloc)|(with_reducible refine lowCall ?_ (by assumption))|(show (_ : Nat) ≤ _;first|(simp;done)|(simp;omega)|omega)))
  · go_enter Tryz.func192, Tryz.ntmps192
    go_wp2_with ((go_at_call 72; ((with_reducible refine (l1In_no _ _ _ _ c1).mono ?_); rintro e w' ⟨rfl, rfl⟩)))
    refine bodyPost_ret ?hres rfl ⟨rfl, ?hlow⟩; (case hres => (first | (simp [results, Tryz.results192, go_sem]; done) | (simp [results, Tryz.results192, go_sem, *]; done))); (case hlow => repeat' (first|with_reducible (first|exact lowRefl _|apply lowSet|apply lowDrew|apply lowDrewN|apply lowAlloc)|(with_reducible refine lowCall ?_ (by assumption))|(show (_ : Nat) ≤ _;first|(simp;done)|(simp;omega)|omega)))
def at4 (a b c d : Int) : Nat → Int
  | 0 => a
  | 1 => b
  | 2 => c
  | _ => d
/- the model's cut of two cuts -/
theorem smeetV (a b c d X Y : Int) (w : World) (e : LfE (max a c) (min b d) X Y) :
    Calls Tryz.prog 202 #[.int .i64 a, .int .i64 b, .int .i64 c, .int .i64 d] w fun e w' => e = .returned (.tuple #[.int .i64 (X), .int .i64 (Y)]) ∧ w = w' := by
  by_cases h1 : a < c
  · have e1 : max a c = c := by omega
    rw [e1] at e
    by_cases h2 : d < b
    · have e2 : min b d = d := by omega
      rw [e2] at e
      rcases e with ⟨h, rfl, rfl⟩ | ⟨h, rfl, rfl⟩
      all_goals
        clear e1 e2
        go_enter Tryz.func202, Tryz.ntmps202
        go_wp2
        refine bodyPost_ret ?_ rfl ⟨rfl, rfl⟩
        simp [results, Tryz.results202, go_sem]
    · have e2 : min b d = b := by omega
      rw [e2] at e
      rcases e with ⟨h, rfl, rfl⟩ | ⟨h, rfl, rfl⟩
      all_goals
        clear e1 e2
        go_enter Tryz.func202, Tryz.ntmps202
        go_wp2
        refine bodyPost_ret ?_ rfl ⟨rfl, rfl⟩
        simp [results, Tryz.results202, go_sem]
  · have e1 : max a c = a := by omega
    rw [e1] at e
    by_cases h2 : d < b
    · have e2 : min b d = d := by omega
      rw [e2] at e
      rcases e with ⟨h, rfl, rfl⟩ | ⟨h, rfl, rfl⟩
      all_goals
        clear e1 e2
        go_enter Tryz.func202, Tryz.ntmps202
        go_wp2
        refine bodyPost_ret ?_ rfl ⟨rfl, rfl⟩
        simp [results, Tryz.results202, go_sem]
    · have e2 : min b d = b := by omega
      rw [e2] at e
      rcases e with ⟨h, rfl, rfl⟩ | ⟨h, rfl, rfl⟩
      all_goals
        clear e1 e2
        go_enter Tryz.func202, Tryz.ntmps202
        go_wp2
        refine bodyPost_ret ?_ rfl ⟨rfl, rfl⟩
        simp [results, Tryz.results202, go_sem]
end Go.Proofs.YtegibpepdndocabGreat
end
