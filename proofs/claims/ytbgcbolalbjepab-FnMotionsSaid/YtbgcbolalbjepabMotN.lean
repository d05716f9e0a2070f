
import Derived.Test.YtbgcbolalbjepabMotQ
import Derived.Test.YtbgcbolalbjepabMotZ
import Derived.Test.YtbgcbolalbjepabMotX
import Derived.Test.YtbgcbolalbjepabMotH
import Derived.Test.YtbgcbolalbjepabEqs
namespace Go.Proofs.Ytbgcbolalbjepab
open Go.ChangeShapes Go.WideShapes Go.ChangeAt Go.RowKit
set_option maxHeartbeats 2000000

abbrev mA (j : Nat) : Int := (axs (j / 8)).1
abbrev mB (j : Nat) : Int := (axs (j / 8)).2.1
abbrev mC (j : Nat) : Int := (axs (j / 8)).2.2
abbrev mK (j : Nat) : Bool := bt (j % 8) 0
abbrev mL (j : Nat) : Bool := bt (j % 8) 1
abbrev mN (j : Nat) : Bool := bt (j % 8) 2
theorem axs_perm (i : Nat) : Perm (axs i).1 (axs i).2.1 (axs i).2.2 := by
  unfold axs
  split <;> simp [Perm]
theorem mot_ok (j : Nat) : Mok (mA j) (mB j) (mC j) 0 0 0 := ⟨axs_perm _, by unfold Vok; omega⟩
/- the hands of the first motions together -/
def hv (j : Nat) : Int := hi (mA j) (mB j) (mC j) (mK j) (mL j) (mN j) 3
def hsum : Nat → Int
  | 0 => 0
  | j + 1 => hsum j + hv j
theorem hsum_bd (j : Nat) : -(j : Int) ≤ hsum j ∧ hsum j ≤ j := by
  induction j with
  | zero => simp [hsum]
  | succ j ih =>
    have h := hi_bd (mA j) (mB j) (mC j) (mK j) (mL j) (mN j) 3
    simp only [hsum, hv]
    omega
theorem hsum48 : hsum 48 = 0 := by decide +kernel
/- the index of the motion that does x and then y -/
def pix (a b : Int) : Nat := if a = 0 then (if b = 1 then 0 else 1) else if a = 1 then (if b = 0 then 2 else 3) else (if b = 0 then 4 else 5)
def cmp (x y : Nat) : Nat :=
  8 * pix (pk (mA y) (mA x) (mB x) (mC x)) (pk (mB y) (mA x) (mB x) (mC x)) + (mK y != pkb (mA y) (mK x) (mL x) (mN x)).toNat + 2 * (mL y != pkb (mB y) (mK x) (mL x) (mN x)).toNat + 4 * (mN y != pkb (mC y) (mK x) (mL x) (mN x)).toNat
instance (a b c : Int) (k l n : Bool) (d e f : Int) (g h i : Bool) (A B C : Int) (K L N : Bool) : Decidable (TogE a b c k l n d e f g h i A B C K L N) := by unfold TogE; infer_instance
theorem cmp_ok : ∀ x, x < 48 → ∀ y, y < 48 → cmp x y < 48 ∧ TogE (mA x) (mB x) (mC x) (mK x) (mL x) (mN x) (mA y) (mB y) (mC y) (mK y) (mL y) (mN y) (mA (cmp x y)) (mB (cmp x y)) (mC (cmp x y)) (mK (cmp x y)) (mL (cmp x y)) (mN (cmp x y)) := by decide +kernel
theorem meq_at : ∀ j, j < 48 → ∀ z, z < 48 → meq (mA j) (mB j) (mC j) (mK j) (mL j) (mN j) 0 0 0 (mA z) (mB z) (mC z) (mK z) (mL z) (mN z) 0 0 0 = decide (j = z) := by decide +kernel
theorem tu_zero (p : Int) (k : Bool) : tu p k 0 0 0 = 0 := by unfold tu sg pk; simp
theorem pick_yes' {P : Program} {f : FuncId} {args : Array Value} {w : World} {p : Prop} {u v : Value} (h : Calls P f args w fun e w' => ((p ∧ e = .returned u) ∨ (¬ p ∧ e = .returned v)) ∧ Below w.heap.size w w') (hp : p) :
    Calls P f args w fun e w' => e = .returned u ∧ Below w.heap.size w w' := h.mono fun _ _ ⟨h1, h2⟩ => ⟨h1.elim (fun k => k.2) (fun k => absurd hp k.1), h2⟩
theorem iTog0 (x y : Nat) (hx : x < 48) (hy : y < 48) (w : World) : Calls Try.prog 24 #[.agg #[.int .i64 (mA x), .int .i64 (mB x), .int .i64 (mC x), .bool (mK x), .bool (mL x), .bool (mN x), .int .i64 (0), .int .i64 (0), .int .i64 (0)], .agg #[.int .i64 (mA y), .int .i64 (mB y), .int .i64 (mC y), .bool (mK y), .bool (mL y), .bool (mN y), .int .i64 (0), .int .i64 (0), .int .i64 (0)]] w fun e w' => e = .returned (.agg #[.int .i64 (mA (cmp x y)), .int .i64 (mB (cmp x y)), .int .i64 (mC (cmp x y)), .bool (mK (cmp x y)), .bool (mL (cmp x y)), .bool (mN (cmp x y)), .int .i64 (0), .int .i64 (0), .int .i64 (0)]) ∧ Below w.heap.size w w' := by
  have h := iTogether_any _ _ _ _ _ _ _ _ _ _ _ _ _ _ _ _ _ _ _ _ _ _ _ _ 0 0 0 w (mot_ok x) (mot_ok y) ⟨tu_zero _ _, tu_zero _ _, tu_zero _ _⟩ (cmp_ok x hx y hy).2
  exact pick_yes' h (by unfold Vok; omega)
theorem iHandV (a b c : Int) (k l n : Bool) (p q r v : Int) (w : World) (h : Mok a b c p q r) (hv : hi a b c k l n 3 = v) :
    Calls Try.prog 39 #[.agg #[.int .i64 (a), .int .i64 (b), .int .i64 (c), .bool (k), .bool (l), .bool (n), .int .i64 (p), .int .i64 (q), .int .i64 (r)]] w fun e w' => e = .returned (.int .i64 v) ∧ Below w.heap.size w w' := by rw [← hv]; exact iHand_yes a b c k l n p q r w h
end Go.Proofs.Ytbgcbolalbjepab
