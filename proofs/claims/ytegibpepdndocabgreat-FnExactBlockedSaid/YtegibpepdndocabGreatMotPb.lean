import Derived.BigQuiet
import Derived.Deep.DrawnRows
import Derived.Deep.QuietTactic
import Derived.Deep.RegionHeld3
import Derived.StillTailTactics
import Derived.Test.YtegibpepdndocabGreatRootb
import Derived.Test.YtegibpepdndocabGreatVec2b
import Derived.WalkLawsBesides
section
namespace Go.Proofs.YtegibpepdndocabGreat
open Has renaming new → J0, new1 → J1, new2 → J2, new3 → J3, new4 → J4, drew → J5, drewN → J6, alloc → J7, same → J8, other → J9, cell → Jc, frozen → Jf, below → Jb
open Go.ChangeShapes Go.WideShapes Go.ChangeAt Go.RowKit

attribute [local go_sem] VGo_value VGo_skip VGo_enter
/- directions -/
def Dir (x y z : Int) : Prop := Vok x y z 200 ∧ (x ≠ 0 ∨ y ≠ 0 ∨ z ≠ 0)
theorem isDir_yes (x y z : Int) (w : World) (h : Dir x y z) :
    Calls Tryz.prog 99 #[.agg #[.int .i64 (x), .int .i64 (y), .int .i64 (z)]] w fun e w' => e = .returned (.bool true) ∧ Below w.heap.size w w' := by
  obtain ⟨h, hn⟩ := h
  have H := Lib.hid h
  have HN := Lib.hid hn
  clear h hn
  by_cases hx : x = 0
  · by_cases hy : y = 0
    · have hz : z ≠ 0 := by have := HN.out; omega
      go_enter Tryz.func99, Tryz.ntmps99
      go_wp2_with ((go_at_call 53; ((with_reducible refine (ivecOk_yes _ _ _ _ _ (by omega) (by omega) (by simpa only [hx, hy] using H.out)).mono ?_); rintro e w' ⟨rfl, hbq⟩; (try (have B0 := Jb (b := w.heap.size) (by repeat' (first|with_reducible (first|assumption|apply J0|apply J1|apply J2|apply J3|apply J4|apply J5|apply J6|apply J7|apply J8|apply J9)|(with_reducible show _ ≠ _;first|omega|(simp;done)))) hbq; have C0 := Jc B0; have F0 := Jf B0)); (try (have B1 := Jb (b := w.heap.size + 1) (by repeat' (first|with_reducible (first|assumption|apply J0|apply J1|apply J2|apply J3|apply J4|apply J5|apply J6|apply J7|apply J8|apply J9)|(with_reducible show _ ≠ _;first|omega|(simp;done)))) hbq; have C1 := Jc B1; have F1 := Jf B1)); (try (have B2 := Jb (b := w.heap.size + 1 + 1) (by repeat' (first|with_reducible (first|assumption|apply J0|apply J1|apply J2|apply J3|apply J4|apply J5|apply J6|apply J7|apply J8|apply J9)|(with_reducible show _ ≠ _;first|omega|(simp;done)))) hbq; have C2 := Jc B2; have F2 := Jf B2)))))
      go_ret; refine ⟨rfl, ?_⟩; (repeat' (first|with_reducible (first|exact lowRefl _|apply lowSet|apply lowDrew|apply lowDrewN|apply lowAlloc)|(with_reducible refine lowCall ?_ (by assumption))|(show (_ : Nat) ≤ _;first|(simp;done)|(simp;omega)|omega)))
    · go_enter Tryz.func99, Tryz.ntmps99
      go_wp2_with ((go_at_call 53; ((with_reducible refine (ivecOk_yes _ _ _ _ _ (by omega) (by omega) (by simpa only [hx] using H.out)).mono ?_); rintro e w' ⟨rfl, hbq⟩; (try (have B0 := Jb (b := w.heap.size) (by repeat' (first|with_reducible (first|assumption|apply J0|apply J1|apply J2|apply J3|apply J4|apply J5|apply J6|apply J7|apply J8|apply J9)|(with_reducible show _ ≠ _;first|omega|(simp;done)))) hbq; have C0 := Jc B0; have F0 := Jf B0)); (try (have B1 := Jb (b := w.heap.size + 1) (by repeat' (first|with_reducible (first|assumption|apply J0|apply J1|apply J2|apply J3|apply J4|apply J5|apply J6|apply J7|apply J8|apply J9)|(with_reducible show _ ≠ _;first|omega|(simp;done)))) hbq; have C1 := Jc B1; have F1 := Jf B1)); (try (have B2 := Jb (b := w.heap.size + 1 + 1) (by repeat' (first|with_reducible (first|assumption|apply J0|apply J1|apply J2|apply J3|apply J4|apply J5|apply J6|apply J7|apply J8|apply J9)|(with_reducible show _ ≠ _;first|omega|(simp;done)))) hbq; have C2 := Jc B2; have F2 := Jf B2)))))
      go_ret; refine ⟨rfl, ?_⟩; (repeat' (first|with_reducible (first|exact lowRefl _|apply lowSet|apply lowDrew|apply lowDrewN|apply lowAlloc)|(with_reducible refine lowCall ?_ (by assumption))|(show (_ : Nat) ≤ _;first|(simp;done)|(simp;omega)|omega)))
  · go_enter Tryz.func99, Tryz.ntmps99
    go_wp2_with ((go_at_call 53; ((with_reducible refine (ivecOk_yes _ _ _ _ _ (by omega) (by omega) H.out).mono ?_); rintro e w' ⟨rfl, hbq⟩; (try (have B0 := Jb (b := w.heap.size) (by repeat' (first|with_reducible (first|assumption|apply J0|apply J1|apply J2|apply J3|apply J4|apply J5|apply J6|apply J7|apply J8|apply J9)|(with_reducible show _ ≠ _;first|omega|(simp;done)))) hbq; have C0 := Jc B0; have F0 := Jf B0)); (try (have B1 := Jb (b := w.heap.size + 1) (by repeat' (first|with_reducible (first|assumption|apply J0|apply J1|apply J2|apply J3|apply J4|apply J5|apply J6|apply J7|apply J8|apply J9)|(with_reducible show _ ≠ _;first|omega|(simp;done)))) hbq; have C1 := Jc B1; have F1 := Jf B1)); (try (have B2 := Jb (b := w.heap.size + 1 + 1) (by repeat' (first|with_reducible (first|assumption|apply J0|apply J1|apply J2|apply J3|apply J4|apply J5|apply J6|apply J7|apply J8|apply J9)|(with_reducible show _ ≠ _;first|omega|(simp;done)))) hbq; have C2 := Jc B2; have F2 := Jf B2)))))
    go_ret; refine ⟨rfl, ?_⟩; (repeat' (first|with_reducible (first|exact lowRefl _|apply lowSet|apply lowDrew|apply lowDrewN|apply lowAlloc)|(with_reducible refine lowCall ?_ (by assumption))|(show (_ : Nat) ≤ _;first|(simp;done)|(simp;omega)|omega)))
theorem isDir_no (x y z : Int) (w : World) (h : ¬ Dir x y z) :
    Calls Tryz.prog 99 #[.agg #[.int .i64 (x), .int .i64 (y), .int .i64 (z)]] w fun e w' => e = .returned (.bool false) ∧ Below w.heap.size w w' := by
  by_cases hv : Vok x y z 200
  · have hx : x = 0 := Classical.byContradiction fun hh => h ⟨hv, .inl hh⟩
    have hy : y = 0 := Classical.byContradiction fun hh => h ⟨hv, .inr (.inl hh)⟩
    have hz : z = 0 := Classical.byContradiction fun hh => h ⟨hv, .inr (.inr hh)⟩
    subst hx hy hz
    clear h hv
    go_enter Tryz.func99, Tryz.ntmps99
    go_wp2
    go_ret; refine ⟨rfl, ?_⟩; (repeat' (first|with_reducible (first|exact lowRefl _|apply lowSet|apply lowDrew|apply lowDrewN|apply lowAlloc)|(with_reducible refine lowCall ?_ (by assumption))|(show (_ : Nat) ≤ _;first|(simp;done)|(simp;omega)|omega)))
  · have H := Lib.hid hv
    clear h hv
    by_cases hx : x = 0
    · by_cases hy : y = 0
      · by_cases hz : z = 0
        · exact absurd (show Vok x y z 200 by unfold Vok; omega) H.out
        · go_enter Tryz.func99, Tryz.ntmps99
          go_wp2_with ((go_at_call 53; ((with_reducible refine (ivecOk_no _ _ _ _ _ (by omega) (by omega) (by simpa only [hx, hy] using H.out)).mono ?_); rintro e w' ⟨rfl, hbq⟩; (try (have B0 := Jb (b := w.heap.size) (by repeat' (first|with_reducible (first|assumption|apply J0|apply J1|apply J2|apply J3|apply J4|apply J5|apply J6|apply J7|apply J8|apply J9)|(with_reducible show _ ≠ _;first|omega|(simp;done)))) hbq; have C0 := Jc B0; have F0 := Jf B0)); (try (have B1 := Jb (b := w.heap.size + 1) (by repeat' (first|with_reducible (first|assumption|apply J0|apply J1|apply J2|apply J3|apply J4|apply J5|apply J6|apply J7|apply J8|apply J9)|(with_reducible show _ ≠ _;first|omega|(simp;done)))) hbq; have C1 := Jc B1; have F1 := Jf B1)); (try (have B2 := Jb (b := w.heap.size + 1 + 1) (by repeat' (first|with_reducible (first|assumption|apply J0|apply J1|apply J2|apply J3|apply J4|apply J5|apply J6|apply J7|apply J8|apply J9)|(with_reducible show _ ≠ _;first|omega|(simp;done)))) hbq; have C2 := Jc B2; have F2 := Jf B2)))))
          go_ret; refine ⟨rfl, ?_⟩; (repeat' (first|with_reducible (first|exact lowRefl _|apply lowSet|apply lowDrew|apply lowDrewN|apply lowAlloc)|(with_reducible refine lowCall ?_ (by assumption))|(show (_ : Nat) ≤ _;first|(simp;done)|(simp;omega)|omega)))
      · go_enter Tryz.func99, Tryz.ntmps99
        go_wp2_with ((go_at_call 53; ((with_reducible refine (ivecOk_no _ _ _ _ _ (by omega) (by omega) (by simpa only [hx] using H.out)).mono ?_); rintro e w' ⟨rfl, hbq⟩; (try (have B0 := Jb (b := w.heap.size) (by repeat' (first|with_reducible (first|assumption|apply J0|apply J1|apply J2|apply J3|apply J4|apply J5|apply J6|apply J7|apply J8|apply J9)|(with_reducible show _ ≠ _;first|omega|(simp;done)))) hbq; have C0 := Jc B0; have F0 := Jf B0)); (try (have B1 := Jb (b := w.heap.size + 1) (by repeat' (first|with_reducible (first|assumption|apply J0|apply J1|apply J2|apply J3|apply J4|apply J5|apply J6|apply J7|apply J8|apply J9)|(with_reducible show _ ≠ _;first|omega|(simp;done)))) hbq; have C1 := Jc B1; have F1 := Jf B1)); (try (have B2 := Jb (b := w.heap.size + 1 + 1) (by repeat' (first|with_reducible (first|assumption|apply J0|apply J1|apply J2|apply J3|apply J4|apply J5|apply J6|apply J7|apply J8|apply J9)|(with_reducible show _ ≠ _;first|omega|(simp;done)))) hbq; have C2 := Jc B2; have F2 := Jf B2)))))
        go_ret; refine ⟨rfl, ?_⟩; (repeat' (first|with_reducible (first|exact lowRefl _|apply lowSet|apply lowDrew|apply lowDrewN|apply lowAlloc)|(with_reducible refine lowCall ?_ (by assumption))|(show (_ : Nat) ≤ _;first|(simp;done)|(simp;omega)|omega)))
    · go_enter Tryz.func99, Tryz.ntmps99
      go_wp2_with ((go_at_call 53; ((with_reducible refine (ivecOk_no _ _ _ _ _ (by omega) (by omega) H.out).mono ?_); rintro e w' ⟨rfl, hbq⟩; (try (have B0 := Jb (b := w.heap.size) (by repeat' (first|with_reducible (first|assumption|apply J0|apply J1|apply J2|apply J3|apply J4|apply J5|apply J6|apply J7|apply J8|apply J9)|(with_reducible show _ ≠ _;first|omega|(simp;done)))) hbq; have C0 := Jc B0; have F0 := Jf B0)); (try (have B1 := Jb (b := w.heap.size + 1) (by repeat' (first|with_reducible (first|assumption|apply J0|apply J1|apply J2|apply J3|apply J4|apply J5|apply J6|apply J7|apply J8|apply J9)|(with_reducible show _ ≠ _;first|omega|(simp;done)))) hbq; have C1 := Jc B1; have F1 := Jf B1)); (try (have B2 := Jb (b := w.heap.size + 1 + 1) (by repeat' (first|with_reducible (first|assumption|apply J0|apply J1|apply J2|apply J3|apply J4|apply J5|apply J6|apply J7|apply J8|apply J9)|(with_reducible show _ ≠ _;first|omega|(simp;done)))) hbq; have C2 := Jc B2; have F2 := Jf B2)))))
      go_ret; refine ⟨rfl, ?_⟩; (repeat' (first|with_reducible (first|exact lowRefl _|apply lowSet|apply lowDrew|apply lowDrewN|apply lowAlloc)|(with_reducible refine lowCall ?_ (by assumption))|(show (_ : Nat) ≤ _;first|(simp;done)|(simp;omega)|omega)))
theorem iRootL (n : Int) (w : World) (h0 : 0 ≤ n) (h1 : n ≤ 4611686018427387904) :
    Calls Tryz.prog 272 #[.int .i64 n] w fun e w' => e = .returned (.int .i64 (rt n.toNat)) ∧ w = w' := by
  obtain ⟨m, rfl⟩ := Int.eq_ofNat_of_zero_le h0
  exact root_yes m w (by omega)
theorem sRootL (n : Int) (w : World) (h0 : 0 ≤ n) (h1 : n ≤ 4611686018427387904) :
    Calls Tryz.prog 201 #[.int .i64 n] w fun e w' => e = .returned (.int .i64 (rt n.toNat)) ∧ w = w' := by
  obtain ⟨m, rfl⟩ := Int.eq_ofNat_of_zero_le h0
  exact sroot_yes m w (by omega)
end Go.Proofs.YtegibpepdndocabGreat
end
section
namespace Go.Proofs.YtegibpepdndocabGreat
open Go.ChangeShapes Go.WideShapes Go.ChangeAt Go.RowKit

attribute [local go_sem] VGo_value VGo_skip VGo_enter
def dot3 (a b c x y z : Int) : Int := a * x + b * y + c * z
theorem mulc (x n m k : Int) (h1 : -m ≤ x) (h2 : x ≤ m) (h3 : -k ≤ n) (h4 : n ≤ k) : -(m * k) ≤ x * n ∧ x * n ≤ m * k := by
  have e1 := Int.mul_nonneg (show 0 ≤ m - x by omega) (show 0 ≤ k - n by omega)
  have e2 := Int.mul_nonneg (show 0 ≤ m + x by omega) (show 0 ≤ k + n by omega)
  have e3 := Int.mul_nonneg (show 0 ≤ m - x by omega) (show 0 ≤ k + n by omega)
  have e4 := Int.mul_nonneg (show 0 ≤ m + x by omega) (show 0 ≤ k - n by omega)
  simp only [Int.sub_mul, Int.mul_sub, Int.add_mul, Int.mul_add] at e1 e2 e3 e4
  constructor <;> omega
end Go.Proofs.YtegibpepdndocabGreat
end
section
namespace Go.Proofs.YtegibpepdndocabGreat
open Go.ChangeShapes Go.WideShapes Go.ChangeAt Go.RowKit

attribute [local go_sem] VGo_value VGo_skip VGo_enter
theorem nz3 (a b c : Int) (h : a ≠ 0 ∨ b ≠ 0 ∨ c ≠ 0) : a ≠ 0 ∨ (a = 0 ∧ b ≠ 0) ∨ (a = 0 ∧ b = 0 ∧ c ≠ 0) := by omega
/- how much two directions agree -/
theorem iRootV (n v : Int) (w : World) (h0 : 0 ≤ n) (h1 : n ≤ 4611686018427387904) (hv : (rt n.toNat : Int) = v) :
    Calls Tryz.prog 272 #[.int .i64 n] w fun e w' => e = .returned (.int .i64 v) ∧ w = w' := by rw [← hv]; exact iRootL n w h0 h1
theorem sRootV (n v : Int) (w : World) (h0 : 0 ≤ n) (h1 : n ≤ 4611686018427387904) (hv : (rt n.toNat : Int) = v) :
    Calls Tryz.prog 201 #[.int .i64 n] w fun e w' => e = .returned (.int .i64 v) ∧ w = w' := by rw [← hv]; exact sRootL n w h0 h1
theorem iFloorV (a b v : Int) (w : World) (h : Small a b) (hv : a.fdiv b = v) :
    Calls Tryz.prog 229 #[.int .i64 a, .int .i64 b] w fun e w' => e = .returned (.int .i64 v) ∧ w = w' := by rw [← hv]; exact floor_yes a b w h
theorem sFloorV (a b v : Int) (w : World) (h : Small a b) (hv : a.fdiv b = v) :
    Calls Tryz.prog 200 #[.int .i64 a, .int .i64 b] w fun e w' => e = .returned (.int .i64 v) ∧ w = w' := by rw [← hv]; exact l1Floor_yes a b w h
theorem dot_pos (a b c : Int) (h : a ≠ 0 ∨ b ≠ 0 ∨ c ≠ 0) : 1 ≤ dot3 a b c a b c := by
  have sq : ∀ x : Int, 0 ≤ x * x := fun x => by by_cases hx : 0 ≤ x; exact Int.mul_nonneg hx hx; exact Int.mul_nonneg_of_nonpos_of_nonpos (by omega) (by omega)
  have sp : ∀ x : Int, x ≠ 0 → 0 < x * x := fun x hx => by
    have h1 := sq x
    have h2 : x * x ≠ 0 := fun e => by rcases Int.mul_eq_zero.1 e with e | e <;> exact hx e
    omega
  have s1 := sq a
  have s2 := sq b
  have s3 := sq c
  unfold dot3
  rcases h with h | h | h
  · have := sp a h; omega
  · have := sp b h; omega
  · have := sp c h; omega
end Go.Proofs.YtegibpepdndocabGreat
end
section
namespace Go.Proofs.YtegibpepdndocabGreat
open Go.ChangeShapes Go.WideShapes Go.ChangeAt Go.RowKit

/- motions as plain words -/
def Perm (a b c : Int) : Prop := (a = 0 ∧ b = 1 ∧ c = 2) ∨ (a = 0 ∧ b = 2 ∧ c = 1) ∨ (a = 1 ∧ b = 0 ∧ c = 2) ∨ (a = 1 ∧ b = 2 ∧ c = 0) ∨ (a = 2 ∧ b = 0 ∧ c = 1) ∨ (a = 2 ∧ b = 1 ∧ c = 0)
def Mok (a b c x y z : Int) : Prop := Perm a b c ∧ Vok x y z 400
/- the part with an index -/
def pk (p x y z : Int) : Int := if p = 0 then x else if p = 1 then y else z
def pkb (p : Int) (x y z : Bool) : Bool := if p = 0 then x else if p = 1 then y else z
/- turned round or not -/
def sg (k : Bool) (x : Int) : Int := if k = true then -x else x
/- a part of a turned vector -/
def tu (p : Int) (k : Bool) (x y z : Int) : Int := sg k (pk p x y z)
/- a cell of an array of three -/
theorem ix0 (a b c : Int) (w : World) : (Instr.index 30 (.agg #[.int .i64 (a), .int .i64 (b), .int .i64 (c)]) (.int .i64 0)).run Tryz.prog w = .ok (.int .i64 a) w := by kernel_rfl
theorem ix1 (a b c : Int) (w : World) : (Instr.index 30 (.agg #[.int .i64 (a), .int .i64 (b), .int .i64 (c)]) (.int .i64 1)).run Tryz.prog w = .ok (.int .i64 b) w := by kernel_rfl
theorem ix2 (a b c : Int) (w : World) : (Instr.index 30 (.agg #[.int .i64 (a), .int .i64 (b), .int .i64 (c)]) (.int .i64 2)).run Tryz.prog w = .ok (.int .i64 c) w := by kernel_rfl
theorem perm_cases {a b c : Int} (h : ¬ Perm a b c) : (a < 0 ∨ 2 < a) ∨ ((0 ≤ a ∧ a ≤ 2) ∧ ((b < 0 ∨ 2 < b) ∨ b = a ∨ ((0 ≤ b ∧ b ≤ 2) ∧ b ≠ a ∧ ((c < 0 ∨ 2 < c) ∨ c = a ∨ c = b)))) := by
  unfold Perm at h; omega
theorem tu_vok {p x y z m : Int} {k : Bool} (h : Vok x y z m) : -m ≤ tu p k x y z ∧ tu p k x y z ≤ m := by
  unfold Vok at h
  unfold tu sg pk
  repeat' split
  all_goals omega
theorem tu3_vok {p q r x y z m : Int} {k l n : Bool} (h : Vok x y z m) : Vok (tu p k x y z) (tu q l x y z) (tu r n x y z) m := by
  have h1 := tu_vok (p := p) (k := k) h
  have h2 := tu_vok (p := q) (k := l) h
  have h3 := tu_vok (p := r) (k := n) h
  unfold Vok
  omega
/- the turned parts so far -/
def toc (X Y Z : Int) : Nat → Array Value
  | 0 => #[.int .i64 (0), .int .i64 (0), .int .i64 (0)]
  | 1 => #[.int .i64 (X), .int .i64 (0), .int .i64 (0)]
  | 2 => #[.int .i64 (X), .int .i64 (Y), .int .i64 (0)]
  | _ => #[.int .i64 (X), .int .i64 (Y), .int .i64 (Z)]
def inA (a : Int) : Prop := a = 0 ∨ a = 1 ∨ a = 2
theorem perm_in {a b c : Int} (h : Perm a b c) : inA a ∧ inA b ∧ inA c := by unfold Perm inA at *; omega
end Go.Proofs.YtegibpepdndocabGreat
end
