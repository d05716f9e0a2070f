
import Derived.Test.YtdjmeeknahdbbaaMotM
import Derived.Test.YtdjmeeknahdbbaaEnd
import Derived.LoopN
import Derived.ChangeAlike
import Derived.RegionTactic
import Derived.Deep.Cut
namespace Go.Proofs.Ytdjmeeknahdbbaa
open Go.ChangeShapes Go.WideShapes Go.ChangeAt Go.RowKit
set_option maxHeartbeats 1000000
set_option linter.unusedSimpArgs false

def fl (s : Prop) [Decidable s] (x : Int) : Int := if s then -x else x
theorem fl_bd (s : Prop) [Decidable s] (x : Int) (h : -1 ≤ x ∧ x ≤ 1) : -1 ≤ fl s x ∧ fl s x ≤ 1 := by unfold fl; split <;> omega
/- the hand so far: the program's order, and the model's -/
def hi (a b c : Int) (k l n : Bool) : Nat → Int
  | 0 => 1
  | 1 => fl (c < a) (fl (b < a) (fl (k = true) 1))
  | 2 => fl (c < b) (fl (l = true) (fl (c < a) (fl (b < a) (fl (k = true) 1))))
  | _ => fl (n = true) (fl (c < b) (fl (l = true) (fl (c < a) (fl (b < a) (fl (k = true) 1)))))
def hs (a b c : Int) (k l n : Bool) : Nat → Int
  | 0 => 1
  | 1 => fl (k = true) 1
  | 2 => fl (b < a) (fl (l = true) (fl (k = true) 1))
  | _ => fl (c < b) (fl (c < a) (fl (n = true) (fl (b < a) (fl (l = true) (fl (k = true) 1)))))
theorem hi_bd (a b c : Int) (k l n : Bool) (j : Nat) : -1 ≤ hi a b c k l n j ∧ hi a b c k l n j ≤ 1 := by
  match j with
  | 0 => simp [hi]
  | 1 => simp only [hi]; repeat' (first | apply fl_bd | decide)
  | 2 => simp only [hi]; repeat' (first | apply fl_bd | decide)
  | j + 3 => simp only [hi]; repeat' (first | apply fl_bd | decide)
theorem hs_bd (a b c : Int) (k l n : Bool) (j : Nat) : -1 ≤ hs a b c k l n j ∧ hs a b c k l n j ≤ 1 := by
  match j with
  | 0 => simp [hs]
  | 1 => simp only [hs]; repeat' (first | apply fl_bd | decide)
  | 2 => simp only [hs]; repeat' (first | apply fl_bd | decide)
  | j + 3 => simp only [hs]; repeat' (first | apply fl_bd | decide)
theorem fl_com (s t : Prop) [Decidable s] [Decidable t] (x : Int) : fl s (fl t x) = fl t (fl s x) := by unfold fl; split <;> split <;> rfl
theorem hs_hi (a b c : Int) (k l n : Bool) : hs a b c k l n 3 = hi a b c k l n 3 := by
  simp only [hs, hi]
  unfold fl
  cases k <;> cases l <;> cases n <;> simp only [if_true, Bool.false_eq_true, if_false] <;> (repeat' split) <;> omega
attribute [local go_sem] ix0 ix1 ix2 VGo_value VGo_skip VGo_enter
end Go.Proofs.Ytdjmeeknahdbbaa
