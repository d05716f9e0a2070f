
import Derived.Test.YtdpgeekhkfdgkaaMotR
import Derived.Test.YtdpgeekhkfdgkaaMotQ
import Derived.Test.YtdpgeekhkfdgkaaMotZ
namespace Go.Proofs.Ytdpgeekhkfdgkaa
open Go.ChangeShapes Go.WideShapes Go.ChangeAt Go.RowKit
set_option maxHeartbeats 2000000

theorem wFnExactAllTurns (w : World) : Calls Try.prog 15 #[] w fun e w' => e = .returned (.bool true) ∧ Below w.heap.size w w' := by
  go_enter Try.func15, Try.ntmps15
  go_upto_region 2 with (go_at_call 55; refine (sAllTurns_any _).mono ?_; rintro e w1 ⟨vs, rfl, rs, bs⟩)
  obtain ⟨gS, capS, curS, rfl, lS, hS, zS, cS⟩ := mrow_shape (n := 47) rs
  clear rs
  go_upto_region 3 with (go_at_call 54; refine (iAllTurns_any _).mono ?_; rintro e w2 ⟨vi, rfl, ri, bi⟩)
  obtain ⟨gI, capI, curI, rfl, lI, hI, zI, cI⟩ := mrow_shape (n := 47) ri
  clear ri
  have hne : some gS ≠ some gI := by
    have := Has.lt hS
    intro h; injection h with h; omega
  have L2 := lowCall bs bi
  have hS2 := hS.below bi
  go_upto_region 6 with (go_at_call 60; refine (eqMotionS_yes gI gS _ _ curI curS _ hI hS2 ⟨zI, cI⟩ ⟨zS, cS⟩).mono ?_; rintro e w3 ⟨rfl, b3⟩)
  have L3 := lowCall L2 b3
  have hS3 := hS2.below b3
  have hI3 := hI.below b3
  go_upto_region 7 with (go_at_call 61; refine (markMotionS_any gI _ curI _ hI3 zI).mono ?_; rintro e w4 ⟨rfl, cur', hI4, hM, hg4⟩)
  have hS4 := hS3.grown hg4 hne
  have L4 := L3.grown hg4 L3.size (fun k hk => by injection hk with hk; have := bs.size; omega)
  go_upto_region 13 with (go_at_call 62; refine (heldMotionS_any gI _ cur' _ hI4 hM).mono ?_; rintro e w5 ⟨rfl, rfl⟩)
  go_upto_region 14 with (go_at_call 54; refine (iAllTurns_any _).mono ?_; rintro e w6 ⟨vh, rfl, rh, bh⟩)
  obtain ⟨gH, capH, curH, rfl, lH, hH, zH, cH⟩ := mrow_shape (n := 47) rh
  clear rh
  have L6 := lowCall L4 bh
  have hS6 := hS4.below bh
  have hI6 := hI4.below bh
  go_upto_region 16 with (go_at_call 60; refine (eqMotionS_yes gH gS _ _ curH curS _ hH hS6 ⟨zH, cH⟩ ⟨zS, cS⟩).mono ?_; rintro e w7 ⟨rfl, b7⟩)
  have L7 := lowCall L6 b7
  have hI7 := hI6.below b7
  go_wp2_with (go_at_call 62; refine (heldMotionS_any gI _ cur' _ hI7 hM).mono ?_; rintro e w8 ⟨rfl, rfl⟩)
  go_ret
  exact ⟨rfl, L7⟩
end Go.Proofs.Ytdpgeekhkfdgkaa
