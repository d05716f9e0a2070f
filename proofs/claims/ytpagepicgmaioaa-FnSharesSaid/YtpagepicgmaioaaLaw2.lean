import Derived.Test.YtpagepicgmaioaaShares
import Derived.Test.YtpagepicgmaioaaPost
namespace Go.Proofs.Ytpagepicgmaioaa
open Go.ChangeShapes Go.WideShapes Go.ChangeAt Go.RowKit

theorem row_below {w w' : World} {B : Nat} {v : Value} {zs : List Int} (h : Row w B v zs) (hb : Below w.heap.size w w') : Row w' B v zs :=
  World.ownsRow.kept h (row := none) ⟨hb.os, hb.tape, hb.output, hb.size, fun k hk _ => hb.block k hk⟩ (by cases hv : v.ownBlock <;> simp)
theorem row_drewN {w : World} {B : Nat} {v : Value} {zs : List Int} (h : Row w B v zs) (n : Nat) : Row (w.drewN n) B v zs := h
theorem below_drewN {B : Nat} {a w : World} (h : Below B a w) (n : Nat) : Below B a (w.drewN n) := ⟨h.os, h.tape, h.output, h.size, h.block⟩
theorem row_grown {w w' : World} {B B' : Nat} {v v' : Value} {zs zs' : List Int} (h : Row w B v zs) (hlt : ∀ k, v.ownBlock = some k → k < B') (h' : Row w B' v' zs') (hg : w.grownBy w' v'.ownBlock) : Row w' B v zs := by
  refine World.ownsRow.kept h hg ?_
  cases hv : v.ownBlock with
  | none => exact .inl rfl
  | some k =>
    right
    intro e
    have := (World.ownsRow.lt h' k e.symm).1
    have := hlt k hv
    omega
theorem row_lt {w : World} {B : Nat} {v : Value} {zs : List Int} (h : Row w B v zs) : ∀ k, v.ownBlock = some k → k < w.heap.size := fun k hk => (World.ownsRow.lt h k hk).2

/- what the law does with any two functions that answer the same list in memory of their own -/
theorem sharesLaw (n many : Int) (zs : List Int) (hl : zs.length ≤ 100) (w : World)
    (cS : ∀ w, Calls Try.prog 37 #[.int .i64 n, .int .i64 many] w fun e w' => ∃ v, e = .returned v ∧ Row w' w.heap.size v zs ∧ Below w.heap.size w w')
    (cI : ∀ w, Calls Try.prog 35 #[.int .i64 n, .int .i64 many] w fun e w' => ∃ v, e = .returned v ∧ Row w' w.heap.size v zs ∧ Below w.heap.size w w') :
    Calls Try.prog 15 #[.int .i64 n, .int .i64 many] w fun e w' => e = .returned (.bool true) ∧ Below w.heap.size w w' := by
  have CS := Lib.hid cS
  have CI := Lib.hid cI
  clear cS cI
  go_enter Try.func15, Try.ntmps15
  go_wp2_with fail
  refine (CS.out _).mono ?_
  rintro e w1 ⟨v1, rfl, r1, b1⟩
  go_wp2_with fail
  refine (CI.out _).mono ?_
  rintro e w2 ⟨v2, rfl, r2, b2⟩
  have r1' := row_below r1 b2
  go_wp2_with fail
  refine (eqIntS_yes zs _ _ _ _ _ (by omega) r2 r1').mono ?_
  rintro e w3 ⟨rfl, n3, rfl⟩
  go_wp2_with fail
  refine (markIntS_any zs _ _ 1 _ (by omega) (by omega) (row_drewN r2 n3)).mono ?_
  rintro e w4 ⟨rfl, r4, g4⟩
  have r1'' := row_grown (row_drewN r1' n3) (row_lt r1) (row_drewN r2 n3) g4
  have b4 : Below w.heap.size w w4 := ((b1.trans (b2.mono b1.size)).trans (below_drewN (Below.refl _ _) n3)).grown g4 (Nat.le_trans b1.size b2.size) (fun k hk => Nat.le_trans b1.size (World.ownsRow.lt r2 k hk).1)
  go_wp2_with fail
  refine (heldIntS_any zs.length _ _ 1 _ (by omega) (by omega) r4).mono ?_
  rintro e w5 ⟨rfl, rfl⟩
  go_wp2_with fail
  refine (CI.out _).mono ?_
  rintro e w6 ⟨v6, rfl, r6, b6⟩
  have r1f := row_below r1'' b6
  have r4f := row_below r4 b6
  go_wp2_with fail
  refine (eqIntS_yes zs _ _ _ _ _ (by omega) r6 r1f).mono ?_
  rintro e w7 ⟨rfl, n7, rfl⟩
  go_wp2_with fail
  refine (heldIntS_any zs.length _ _ 1 _ (by omega) (by omega) (row_drewN r4f n7)).mono ?_
  rintro e w8 ⟨rfl, rfl⟩
  go_wp2_with fail
  go_ret
  exact ⟨rfl, below_drewN (b4.trans (b6.mono b4.size)) n7⟩
theorem wFnExactShares (n many : Int) (w : World) :
    Calls Try.prog 15 #[.int .i64 n, .int .i64 many] w fun e w' => e = .returned (.bool true) ∧ Below w.heap.size w w' := by
  by_cases hs : InShares n many
  · obtain ⟨a, rfl⟩ := Int.eq_ofNat_of_zero_le hs.1
    obtain ⟨b, rfl⟩ := Int.eq_ofNat_of_zero_le (show 0 ≤ many by have := hs.2.2.1; omega)
    exact sharesLaw _ _ (shares a b b) (by rw [shares_len]; have := hs.2.2.2; omega) w (fun w => sshares_yes a b w hs) (fun w => ishares_yes a b w hs)
  · exact sharesLaw _ _ [] (by simp) w (fun w => sshares_no n many w hs) (fun w => ishares_no n many w hs)
end Go.Proofs.Ytpagepicgmaioaa
