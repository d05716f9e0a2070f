
import Derived.Test.YtdjmeeknahdbbaaSpnJ
namespace Go.Proofs.Ytdjmeeknahdbbaa
open Go.ChangeShapes Go.WideShapes Go.ChangeAt Go.RowKit
set_option maxHeartbeats 2000000
set_option maxRecDepth 8000
set_option linter.unusedSimpArgs false

def PutPost (op : Nat) (a b : List Sp) (w : World) (e : Ending) (w' : World) : Prop := ∃ v', e = .returned v' ∧ SRow w' w.heap.size v' (spPut op a b) ∧ Below w.heap.size w w'
theorem madeB (op : Nat) (hop : op = 0 ∨ op = 2) (io : Bool) (hio : opOf op = io) (a b : List Sp) (va vb : Value) (w : World) (ha : SIn w va a) (hb : SIn w vb b) (hla : a.length ≤ 9223372036854775807) (hlb : b.length ≤ 9223372036854775807) :
    Calls Try.prog 85 #[.agg #[va, .int .i64 0, .bool false], .agg #[vb, .int .i64 0, .bool io], .func (Fn.func 86) #[] #[]] w (PutPost op a b w) := by
  subst hio
  exact madeBoth_any op hop a b va vb w ha hb hla hlb
theorem madeE (a b : List Sp) (va vb : Value) (w : World) (ha : SIn w va a) (hb : SIn w vb b) (hla : a.length ≤ 9223372036854775807) (hlb : b.length ≤ 9223372036854775807) :
    Calls Try.prog 85 #[.agg #[va, .int .i64 0, .bool false], .agg #[vb, .int .i64 0, .bool false], .func (Fn.func 87) #[] #[]] w (PutPost 1 a b w) := by
  have h := madeEither_any a b va vb w ha hb hla hlb
  have e : opOf 1 = false := rfl
  rw [e] at h
  exact h
theorem ispansBoth_any (a b : List Sp) (va vb : Value) (w : World) (ha : SIn w va a) (hb : SIn w vb b) (hla : a.length ≤ 9223372036854775807) (hlb : b.length ≤ 9223372036854775807) :
    Calls Try.prog 35 #[va, vb] w fun e w' => ∃ v', e = .returned v' ∧ SRow w' w.heap.size v' (spPut 0 a b) ∧ Below w.heap.size w w' := by
  obtain ⟨A1, c1, e1, _⟩ := id ha
  obtain ⟨A2, c2, e2, _⟩ := id hb
  subst e1
  subst e2
  have H := Lib.hid (madeB 0 (.inl rfl) false rfl a b _ _ w ha hb hla hlb)
  go_enter Try.func35, Try.ntmps35
  go_wp2_with (go_at_call 85; (with_reducible refine (H.out).mono ?_); rintro e w' ⟨v', rfl, hr, hL⟩)
  go_ret
  exact ⟨_, rfl, hr, hL⟩
theorem ispansEither_any (a b : List Sp) (va vb : Value) (w : World) (ha : SIn w va a) (hb : SIn w vb b) (hla : a.length ≤ 9223372036854775807) (hlb : b.length ≤ 9223372036854775807) :
    Calls Try.prog 36 #[va, vb] w fun e w' => ∃ v', e = .returned v' ∧ SRow w' w.heap.size v' (spPut 1 a b) ∧ Below w.heap.size w w' := by
  obtain ⟨A1, c1, e1, _⟩ := id ha
  obtain ⟨A2, c2, e2, _⟩ := id hb
  subst e1
  subst e2
  have H := Lib.hid (madeE a b _ _ w ha hb hla hlb)
  go_enter Try.func36, Try.ntmps36
  go_wp2_with (go_at_call 85; (with_reducible refine (H.out).mono ?_); rintro e w' ⟨v', rfl, hr, hL⟩)
  go_ret
  exact ⟨_, rfl, hr, hL⟩
theorem ispansLess_any (a b : List Sp) (va vb : Value) (w : World) (ha : SIn w va a) (hb : SIn w vb b) (hla : a.length ≤ 9223372036854775807) (hlb : b.length ≤ 9223372036854775807) :
    Calls Try.prog 37 #[va, vb] w fun e w' => ∃ v', e = .returned v' ∧ SRow w' w.heap.size v' (spPut 2 a b) ∧ Below w.heap.size w w' := by
  obtain ⟨A1, c1, e1, _⟩ := id ha
  obtain ⟨A2, c2, e2, _⟩ := id hb
  subst e1
  subst e2
  have H := Lib.hid (fun w1 (h : Below w.heap.size w w1) => madeB 2 (.inr rfl) true rfl a b _ _ w1 (ha.below h) (hb.below h) hla hlb)
  go_enter Try.func37, Try.ntmps37
  have hL0 : Below w.heap.size w (w.alloc (.cells #[.slice A2 b.length c2, .int .i64 0, .bool true] 90)) := by repeat' (first | with_reducible exact lowRefl _ | with_reducible apply lowSet | with_reducible apply lowDrew | with_reducible apply lowDrewN | with_reducible apply lowAlloc | (with_reducible refine lowCall ?_ (by assumption)) | (show (_ : Nat) ≤ _; first | (simp; done) | (simp; omega) | omega))
  go_wp2_with (go_at_call 85; (with_reducible refine (H.out _ hL0).mono ?_); rintro e w' ⟨v', rfl, hr, hL⟩)
  go_ret
  exact ⟨_, rfl, hr.mono hL0.size, lowCall hL0 hL⟩
end Go.Proofs.Ytdjmeeknahdbbaa
