import Derived.Test.YtpagepicgmaioaaDraw
namespace Go.Proofs.Ytpagepicgmaioaa
open Go.ChangeShapes Go.WideShapes Go.ChangeAt Go.RowKit

theorem wide_st {a w : World} {B g n c m : Nat} {A : Option Addr} (h : St a w B g A n c m) (hm : m ≤ 900000) :
    Calls Try.prog 45 #[.pointer (some ⟨g, 0, none⟩)] w (Drew In64 a B g A n c (m + 6)) := by
  go_enter Try.func45, Try.ntmps45
  go_wp2_with (first | (go_at_call 49; refine (pick_st _ (by first | assumption | exact St.alloc (by assumption) _) (by omega) (by omega)).mono ?_; rintro e w' ⟨v, rfl, h0, h1, hs⟩) | (go_at_call 55; refine (num_st In64 (by assumption) (by omega) (by omega) (by omega) ?hL).mono ?_; (case hL => simp only [AllI]; repeat' (first | exact trivial | refine ⟨⟨_, rfl, ?_⟩, ?_⟩ | (unfold In64 at *; omega))); rintro e w' ⟨v, rfl, q, hs⟩))
  all_goals
    go_ret
    exact Drew.mk (by assumption) (by first | exact in64_wrap _ | assumption) (by omega)
theorem square_st {a w : World} {B g n c m : Nat} {A : Option Addr} (h : St a w B g A n c m) (hm : m ≤ 900000) :
    Calls Try.prog 50 #[.pointer (some ⟨g, 0, none⟩)] w (Drew In64 a B g A n c (m + 6)) := by
  go_enter Try.func50, Try.ntmps50
  go_wp2_with (first | (go_at_call 49; refine (pick_st _ (by first | assumption | exact St.alloc (by assumption) _) (by omega) (by omega)).mono ?_; rintro e w' ⟨v, rfl, h0, h1, hs⟩) | (go_at_call 55; refine (num_st In64 (by assumption) (by omega) (by omega) (by omega) ?hL).mono ?_; (case hL => simp only [AllI]; repeat' (first | exact trivial | refine ⟨⟨_, rfl, ?_⟩, ?_⟩ | (unfold In64 at *; omega))); rintro e w' ⟨v, rfl, q, hs⟩))
  all_goals
    go_ret
    exact Drew.mk (by assumption) (by first | exact in64_wrap _ | assumption) (by omega)

def Drawn2 (w : World) (e : Ending) (w' : World) : Prop := ∃ a b, e = .returned (.tuple #[.int .i64 a, .int .i64 b]) ∧ In64 a ∧ In64 b ∧ Below w.heap.size w w'
def Drawn3 (w : World) (e : Ending) (w' : World) : Prop := ∃ a b c, e = .returned (.tuple #[.int .i64 a, .int .i64 b, .int .i64 c]) ∧ In64 a ∧ In64 b ∧ In64 c ∧ Below w.heap.size w w'
def Drawn1 (w : World) (e : Ending) (w' : World) : Prop := ∃ a, e = .returned (.int .i64 a) ∧ In64 a ∧ Below w.heap.size w w'
theorem St.low {w0 a w : World} {B g n c m : Nat} {A : Option Addr} (h : St a w B g A n c m) (hb : Below B w0 a) (hB : B = w0.heap.size) : Below w0.heap.size w0 w := by
  subst hB
  exact below_by hb h.by_ hb.size h.rd.lo
section
variable {A : Option Addr} {n c : Nat} {w : World} (hnc : n ≤ c) (hcap : c ≤ 9223372036854775807) (hcode : Code w w.heap.size A n)
include hnc hcap hcode
theorem drawFloor_any : Calls Try.prog 17 #[.slice A n c] w (Drawn2 w) := by
  go_enter Try.func17, Try.ntmps17
  go_wp2_with (first | (go_at_call 49; refine (pick_st _ (by first | assumption | exact St.alloc (by assumption) _) (by omega) (by omega)).mono ?_; rintro e w' ⟨v, rfl, h0, h1, hs⟩) | (go_at_call 55; refine (num_st In64 (by assumption) (by omega) (by omega) (by omega) ?hL).mono ?_; (case hL => simp only [AllI]; repeat' (first | exact trivial | refine ⟨⟨_, rfl, ?_⟩, ?_⟩ | (unfold In64 at *; omega))); rintro e w' ⟨v, rfl, q, hs⟩) | (go_at_call 45; refine (wide_st (by assumption) (by omega)).mono ?_; rintro e w' ⟨v, rfl, q, hs⟩) | (go_at_call 44; refine (open_any _ _ _ _ hnc hcap hcode).mono ?_; rintro e w' ⟨g, n', rfl, hrd, hlow⟩; have hs := St.start hrd))
  all_goals
    go_ret2
    exact ⟨_, _, rfl, by assumption, by assumption, St.low (by assumption) (by assumption) rfl⟩
theorem drawRoot_any : Calls Try.prog 24 #[.slice A n c] w (Drawn1 w) := by
  go_enter Try.func24, Try.ntmps24
  go_wp2_with (first | (go_at_call 49; refine (pick_st _ (by first | assumption | exact St.alloc (by assumption) _) (by omega) (by omega)).mono ?_; rintro e w' ⟨v, rfl, h0, h1, hs⟩) | (go_at_call 55; refine (num_st In64 (by assumption) (by omega) (by omega) (by omega) ?hL).mono ?_; (case hL => simp only [AllI]; repeat' (first | exact trivial | refine ⟨⟨_, rfl, ?_⟩, ?_⟩ | (unfold In64 at *; omega))); rintro e w' ⟨v, rfl, q, hs⟩) | (go_at_call 45; refine (wide_st (by assumption) (by omega)).mono ?_; rintro e w' ⟨v, rfl, q, hs⟩) | (go_at_call 50; refine (square_st (by assumption) (by omega)).mono ?_; rintro e w' ⟨v, rfl, q, hs⟩) | (go_at_call 44; refine (open_any _ _ _ _ hnc hcap hcode).mono ?_; rintro e w' ⟨g, n', rfl, hrd, hlow⟩; have hs := St.start hrd))
  all_goals
    go_ret
    refine ⟨_, rfl, ?_, St.low (by assumption) (by assumption) rfl⟩ <;> first | assumption | exact in64_wrap _ | (unfold In64; omega)
theorem drawMix_any : Calls Try.prog 29 #[.slice A n c] w (Drawn3 w) := by
  go_enter Try.func29, Try.ntmps29
  go_wp2_with (first | (go_at_call 49; refine (pick_st _ (by first | assumption | exact St.alloc (by assumption) _) (by omega) (by omega)).mono ?_; rintro e w' ⟨v, rfl, h0, h1, hs⟩) | (go_at_call 55; refine (num_st In64 (by assumption) (by omega) (by omega) (by omega) ?hL).mono ?_; (case hL => simp only [AllI]; repeat' (first | exact trivial | refine ⟨⟨_, rfl, ?_⟩, ?_⟩ | (unfold In64 at *; omega))); rintro e w' ⟨v, rfl, q, hs⟩) | (go_at_call 45; refine (wide_st (by assumption) (by omega)).mono ?_; rintro e w' ⟨v, rfl, q, hs⟩) | (go_at_call 50; refine (square_st (by assumption) (by omega)).mono ?_; rintro e w' ⟨v, rfl, q, hs⟩) | (go_at_call 44; refine (open_any _ _ _ _ hnc hcap hcode).mono ?_; rintro e w' ⟨g, n', rfl, hrd, hlow⟩; have hs := St.start hrd))
  all_goals
    go_ret3
    refine ⟨_, _, _, rfl, ?_, ?_, ?_, St.low (by assumption) (by assumption) rfl⟩ <;> first | assumption | exact in64_wrap _ | (unfold In64; omega)
theorem drawShares_any : Calls Try.prog 34 #[.slice A n c] w (Drawn2 w) := by
  go_enter Try.func34, Try.ntmps34
  go_wp2_with (first | (go_at_call 49; refine (pick_st _ (by first | assumption | exact St.alloc (by assumption) _) (by omega) (by omega)).mono ?_; rintro e w' ⟨v, rfl, h0, h1, hs⟩) | (go_at_call 55; refine (num_st In64 (by assumption) (by omega) (by omega) (by omega) ?hL).mono ?_; (case hL => simp only [AllI]; repeat' (first | exact trivial | refine ⟨⟨_, rfl, ?_⟩, ?_⟩ | (unfold In64 at *; omega))); rintro e w' ⟨v, rfl, q, hs⟩) | (go_at_call 45; refine (wide_st (by assumption) (by omega)).mono ?_; rintro e w' ⟨v, rfl, q, hs⟩) | (go_at_call 50; refine (square_st (by assumption) (by omega)).mono ?_; rintro e w' ⟨v, rfl, q, hs⟩) | (go_at_call 44; refine (open_any _ _ _ _ hnc hcap hcode).mono ?_; rintro e w' ⟨g, n', rfl, hrd, hlow⟩; have hs := St.start hrd))
  all_goals
    go_ret2
    refine ⟨_, _, rfl, ?_, ?_, St.low (by assumption) (by assumption) rfl⟩ <;> first | assumption | exact in64_wrap _ | (unfold In64; omega)
theorem drawCommon_any : Calls Try.prog 38 #[.slice A n c] w (Drawn2 w) := by
  go_enter Try.func38, Try.ntmps38
  go_wp2_with (first | (go_at_call 49; refine (pick_st _ (by first | assumption | exact St.alloc (by assumption) _) (by omega) (by omega)).mono ?_; rintro e w' ⟨v, rfl, h0, h1, hs⟩) | (go_at_call 55; refine (num_st In64 (by assumption) (by omega) (by omega) (by omega) ?hL).mono ?_; (case hL => simp only [AllI]; repeat' (first | exact trivial | refine ⟨⟨_, rfl, ?_⟩, ?_⟩ | (unfold In64 at *; omega))); rintro e w' ⟨v, rfl, q, hs⟩) | (go_at_call 45; refine (wide_st (by assumption) (by omega)).mono ?_; rintro e w' ⟨v, rfl, q, hs⟩) | (go_at_call 50; refine (square_st (by assumption) (by omega)).mono ?_; rintro e w' ⟨v, rfl, q, hs⟩) | (go_at_call 44; refine (open_any _ _ _ _ hnc hcap hcode).mono ?_; rintro e w' ⟨g, n', rfl, hrd, hlow⟩; have hs := St.start hrd))
  all_goals
    go_ret2
    refine ⟨_, _, rfl, ?_, ?_, St.low (by assumption) (by assumption) rfl⟩ <;> first | assumption | exact in64_wrap _ | (unfold In64; omega)
end
end Go.Proofs.Ytpagepicgmaioaa
