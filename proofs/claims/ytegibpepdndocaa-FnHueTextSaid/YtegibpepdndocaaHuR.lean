
import Derived.Test.YtegibpepdndocaaHueA
import Derived.Test.YtegibpepdndocaaShelf
import Derived.LoopN
import Derived.Test.YtegibpepdndocaaRow
namespace Go.Proofs.Ytegibpepdndocaa
open Go.ChangeShapes Go.WideShapes Go.ChangeAt Go.RowKit
set_option maxHeartbeats 2000000
set_option linter.unusedSimpArgs false
set_option linter.unusedVariables false

/- the digit of sixteen that a byte tells, or -1 -/
def hexL : List UInt8 := [48, 49, 50, 51, 52, 53, 54, 55, 56, 57, 97, 98, 99, 100, 101, 102]
def hd (b : UInt8) : Int := Lib.indexByte hexL b
theorem hd_fin : ∀ n : Fin 256, (48 ≤ n.val ∧ n.val ≤ 57 ∧ Lib.indexByte hexL (UInt8.ofNat n.val) = (n.val : Int) - 48) ∨ (97 ≤ n.val ∧ n.val ≤ 102 ∧ Lib.indexByte hexL (UInt8.ofNat n.val) = (n.val : Int) - 97 + 10) ∨ ((n.val < 48 ∨ 57 < n.val) ∧ (n.val < 97 ∨ 102 < n.val) ∧ Lib.indexByte hexL (UInt8.ofNat n.val) = -1) := by decide +kernel
theorem hd_facts (b : UInt8) : (48 ≤ b.toNat ∧ b.toNat ≤ 57 ∧ hd b = (b.toNat : Int) - 48) ∨ (97 ≤ b.toNat ∧ b.toNat ≤ 102 ∧ hd b = (b.toNat : Int) - 97 + 10) ∨ ((b.toNat < 48 ∨ 57 < b.toNat) ∧ (b.toNat < 97 ∨ 102 < b.toNat) ∧ hd b = -1) := by
  have h := hd_fin ⟨b.toNat, b.toNat_lt⟩
  simpa [hd] using h
theorem hd_bd (b : UInt8) : -1 ≤ hd b ∧ hd b ≤ 15 := by
  rcases hd_facts b with ⟨h1, h2, h3⟩ | ⟨h1, h2, h3⟩ | ⟨h1, h2, h3⟩ <;> rw [h3] <;> omega
theorem hexAt (b : UInt8) (w : World) : Calls Try.prog 59 #[.string ⟨#[48, 49, 50, 51, 52, 53, 54, 55, 56, 57, 97, 98, 99, 100, 101, 102]⟩, .int .u8 (b.toNat : Int)] w fun e w' => e = .returned (.int .i64 (hd b)) ∧ w = w' := by
  refine (Try.strings_IndexByte _ _ _).mono ?_
  rintro e w' ⟨rfl, rfl⟩
  refine ⟨?_, rfl⟩
  have e1 : ((b.toNat : Int)).toNat.toUInt8 = b := by simp
  rw [e1]
  rfl
theorem six_of (s : ByteArray) (h : s.size = 6) : ∃ b0 b1 b2 b3 b4 b5 : UInt8, s = ⟨#[b0, b1, b2, b3, b4, b5]⟩ := by
  obtain ⟨⟨l⟩⟩ := s
  have h2 : l.length = 6 := h
  match l, h2 with
  | [b0, b1, b2, b3, b4, b5], _ => exact ⟨b0, b1, b2, b3, b4, b5, rfl⟩
theorem bg0 (b0 b1 b2 b3 b4 b5 : UInt8) (h : 0 < (⟨#[b0, b1, b2, b3, b4, b5]⟩ : ByteArray).size) : (⟨#[b0, b1, b2, b3, b4, b5]⟩ : ByteArray)[0]'h = b0 := rfl
theorem bg1 (b0 b1 b2 b3 b4 b5 : UInt8) (h : 1 < (⟨#[b0, b1, b2, b3, b4, b5]⟩ : ByteArray).size) : (⟨#[b0, b1, b2, b3, b4, b5]⟩ : ByteArray)[1]'h = b1 := rfl
theorem bg2 (b0 b1 b2 b3 b4 b5 : UInt8) (h : 2 < (⟨#[b0, b1, b2, b3, b4, b5]⟩ : ByteArray).size) : (⟨#[b0, b1, b2, b3, b4, b5]⟩ : ByteArray)[2]'h = b2 := rfl
theorem bg3 (b0 b1 b2 b3 b4 b5 : UInt8) (h : 3 < (⟨#[b0, b1, b2, b3, b4, b5]⟩ : ByteArray).size) : (⟨#[b0, b1, b2, b3, b4, b5]⟩ : ByteArray)[3]'h = b3 := rfl
theorem bg4 (b0 b1 b2 b3 b4 b5 : UInt8) (h : 4 < (⟨#[b0, b1, b2, b3, b4, b5]⟩ : ByteArray).size) : (⟨#[b0, b1, b2, b3, b4, b5]⟩ : ByteArray)[4]'h = b4 := rfl
theorem bg5 (b0 b1 b2 b3 b4 b5 : UInt8) (h : 5 < (⟨#[b0, b1, b2, b3, b4, b5]⟩ : ByteArray).size) : (⟨#[b0, b1, b2, b3, b4, b5]⟩ : ByteArray)[5]'h = b5 := rfl
attribute [local go_sem] VGo_value VGo_skip VGo_enter
attribute [local go_sem] bg0 bg1 bg2 bg3 bg4 bg5
theorem l9Digit_any (b : UInt8) (w : World) : Calls Try.prog 58 #[.int .u8 (b.toNat : Int)] w fun e w' => e = .returned (.int .i64 (hd b)) ∧ w = w' := by
  have hb := b.toNat_lt
  rcases hd_facts b with ⟨h1, h2, h3⟩ | ⟨h1, h2, h3⟩ | ⟨h1, h2, h3⟩
  · rw [h3]
    clear h3
    have c1 : (48 : Int) ≤ (b.toNat : Int) := by omega
    have c2 : (b.toNat : Int) ≤ 57 := by omega
    go_enter Try.func58, Try.ntmps58
    go_wp2
    go_ret
    exact ⟨by first | rfl | (simp; done) | exact ret_int (by omega), rfl⟩
  · rw [h3]
    clear h3
    have c1 : (97 : Int) ≤ (b.toNat : Int) := by omega
    have c2 : (b.toNat : Int) ≤ 102 := by omega
    go_enter Try.func58, Try.ntmps58
    go_wp2
    go_ret
    exact ⟨by first | rfl | (simp; done) | exact ret_int (by omega), rfl⟩
  · rw [h3]
    clear h3
    go_enter Try.func58, Try.ntmps58
    go_wp2
    all_goals
      go_ret
      exact ⟨by first | rfl | (simp; done) | exact ret_int (by omega), rfl⟩

theorem iHueRead_bad0 (b0 b1 b2 b3 b4 b5 : UInt8) (w : World)  (h0 : hd b0 < 0) :
    Calls Try.prog 38 #[.string ⟨#[b0, b1, b2, b3, b4, b5]⟩] w fun e w' => e = .returned (.tuple #[.agg #[.int .i64 (0), .int .i64 (0), .int .i64 (0)], .bool false]) ∧ Below w.heap.size w w' := by
  have e0 : decide (hd b0 < 0) = true := decide_eq_true (by omega)
  clear h0
  go_enter Try.func38, Try.ntmps38
  go_wp2
  refine wp_loop_rounds 7 ?_
  iterate 1 (rw [rounds_succ]; go_wp2_with ((go_at_call 59; ((with_reducible refine (hexAt _ _).mono ?_); rintro e w' ⟨rfl, rfl⟩))))
  refine bodyPost_ret ?hres rfl ⟨rfl, ?hlow⟩; (case hres => (first | (simp [results, Try.results38, go_sem]; done) | (simp [results, Try.results38, go_sem, *]; done))); (case hlow => repeat' (first | with_reducible exact lowRefl _ | with_reducible apply lowSet | with_reducible apply lowDrew | with_reducible apply lowDrewN | with_reducible apply lowAlloc | (with_reducible refine lowCall ?_ (by assumption)) | (show (_ : Nat) ≤ _; first | (simp; done) | (simp; omega) | omega)))
theorem iHueRead_bad1 (b0 b1 b2 b3 b4 b5 : UInt8) (w : World) (h0 : 0 ≤ hd b0) (h1 : hd b1 < 0) :
    Calls Try.prog 38 #[.string ⟨#[b0, b1, b2, b3, b4, b5]⟩] w fun e w' => e = .returned (.tuple #[.agg #[.int .i64 (0), .int .i64 (0), .int .i64 (0)], .bool false]) ∧ Below w.heap.size w w' := by
  have ⟨_, g0⟩ := hd_bd b0
  have e0 : decide (hd b0 < 0) = false := decide_eq_false (by omega)
  have e1 : decide (hd b1 < 0) = true := decide_eq_true (by omega)
  clear h0 h1
  go_enter Try.func38, Try.ntmps38
  go_wp2
  refine wp_loop_rounds 7 ?_
  iterate 2 (rw [rounds_succ]; go_wp2_with ((go_at_call 59; ((with_reducible refine (hexAt _ _).mono ?_); rintro e w' ⟨rfl, rfl⟩))))
  refine bodyPost_ret ?hres rfl ⟨rfl, ?hlow⟩; (case hres => (first | (simp [results, Try.results38, go_sem]; done) | (simp [results, Try.results38, go_sem, *]; done))); (case hlow => repeat' (first | with_reducible exact lowRefl _ | with_reducible apply lowSet | with_reducible apply lowDrew | with_reducible apply lowDrewN | with_reducible apply lowAlloc | (with_reducible refine lowCall ?_ (by assumption)) | (show (_ : Nat) ≤ _; first | (simp; done) | (simp; omega) | omega)))
theorem iHueRead_bad2 (b0 b1 b2 b3 b4 b5 : UInt8) (w : World) (h0 : 0 ≤ hd b0) (h1 : 0 ≤ hd b1) (h2 : hd b2 < 0) :
    Calls Try.prog 38 #[.string ⟨#[b0, b1, b2, b3, b4, b5]⟩] w fun e w' => e = .returned (.tuple #[.agg #[.int .i64 (0), .int .i64 (0), .int .i64 (0)], .bool false]) ∧ Below w.heap.size w w' := by
  have ⟨_, g0⟩ := hd_bd b0
  have e0 : decide (hd b0 < 0) = false := decide_eq_false (by omega)
  have ⟨_, g1⟩ := hd_bd b1
  have e1 : decide (hd b1 < 0) = false := decide_eq_false (by omega)
  have e2 : decide (hd b2 < 0) = true := decide_eq_true (by omega)
  clear h0 h1 h2
  go_enter Try.func38, Try.ntmps38
  go_wp2
  refine wp_loop_rounds 7 ?_
  iterate 3 (rw [rounds_succ]; go_wp2_with ((go_at_call 59; ((with_reducible refine (hexAt _ _).mono ?_); rintro e w' ⟨rfl, rfl⟩))))
  refine bodyPost_ret ?hres rfl ⟨rfl, ?hlow⟩; (case hres => (first | (simp [results, Try.results38, go_sem]; done) | (simp [results, Try.results38, go_sem, *]; done))); (case hlow => repeat' (first | with_reducible exact lowRefl _ | with_reducible apply lowSet | with_reducible apply lowDrew | with_reducible apply lowDrewN | with_reducible apply lowAlloc | (with_reducible refine lowCall ?_ (by assumption)) | (show (_ : Nat) ≤ _; first | (simp; done) | (simp; omega) | omega)))
theorem iHueRead_bad3 (b0 b1 b2 b3 b4 b5 : UInt8) (w : World) (h0 : 0 ≤ hd b0) (h1 : 0 ≤ hd b1) (h2 : 0 ≤ hd b2) (h3 : hd b3 < 0) :
    Calls Try.prog 38 #[.string ⟨#[b0, b1, b2, b3, b4, b5]⟩] w fun e w' => e = .returned (.tuple #[.agg #[.int .i64 (0), .int .i64 (0), .int .i64 (0)], .bool false]) ∧ Below w.heap.size w w' := by
  have ⟨_, g0⟩ := hd_bd b0
  have e0 : decide (hd b0 < 0) = false := decide_eq_false (by omega)
  have ⟨_, g1⟩ := hd_bd b1
  have e1 : decide (hd b1 < 0) = false := decide_eq_false (by omega)
  have ⟨_, g2⟩ := hd_bd b2
  have e2 : decide (hd b2 < 0) = false := decide_eq_false (by omega)
  have e3 : decide (hd b3 < 0) = true := decide_eq_true (by omega)
  clear h0 h1 h2 h3
  go_enter Try.func38, Try.ntmps38
  go_wp2
  refine wp_loop_rounds 7 ?_
  iterate 4 (rw [rounds_succ]; go_wp2_with ((go_at_call 59; ((with_reducible refine (hexAt _ _).mono ?_); rintro e w' ⟨rfl, rfl⟩))))
  refine bodyPost_ret ?hres rfl ⟨rfl, ?hlow⟩; (case hres => (first | (simp [results, Try.results38, go_sem]; done) | (simp [results, Try.results38, go_sem, *]; done))); (case hlow => repeat' (first | with_reducible exact lowRefl _ | with_reducible apply lowSet | with_reducible apply lowDrew | with_reducible apply lowDrewN | with_reducible apply lowAlloc | (with_reducible refine lowCall ?_ (by assumption)) | (show (_ : Nat) ≤ _; first | (simp; done) | (simp; omega) | omega)))
theorem iHueRead_bad4 (b0 b1 b2 b3 b4 b5 : UInt8) (w : World) (h0 : 0 ≤ hd b0) (h1 : 0 ≤ hd b1) (h2 : 0 ≤ hd b2) (h3 : 0 ≤ hd b3) (h4 : hd b4 < 0) :
    Calls Try.prog 38 #[.string ⟨#[b0, b1, b2, b3, b4, b5]⟩] w fun e w' => e = .returned (.tuple #[.agg #[.int .i64 (0), .int .i64 (0), .int .i64 (0)], .bool false]) ∧ Below w.heap.size w w' := by
  have ⟨_, g0⟩ := hd_bd b0
  have e0 : decide (hd b0 < 0) = false := decide_eq_false (by omega)
  have ⟨_, g1⟩ := hd_bd b1
  have e1 : decide (hd b1 < 0) = false := decide_eq_false (by omega)
  have ⟨_, g2⟩ := hd_bd b2
  have e2 : decide (hd b2 < 0) = false := decide_eq_false (by omega)
  have ⟨_, g3⟩ := hd_bd b3
  have e3 : decide (hd b3 < 0) = false := decide_eq_false (by omega)
  have e4 : decide (hd b4 < 0) = true := decide_eq_true (by omega)
  clear h0 h1 h2 h3 h4
  go_enter Try.func38, Try.ntmps38
  go_wp2
  refine wp_loop_rounds 7 ?_
  iterate 5 (rw [rounds_succ]; go_wp2_with ((go_at_call 59; ((with_reducible refine (hexAt _ _).mono ?_); rintro e w' ⟨rfl, rfl⟩))))
  refine bodyPost_ret ?hres rfl ⟨rfl, ?hlow⟩; (case hres => (first | (simp [results, Try.results38, go_sem]; done) | (simp [results, Try.results38, go_sem, *]; done))); (case hlow => repeat' (first | with_reducible exact lowRefl _ | with_reducible apply lowSet | with_reducible apply lowDrew | with_reducible apply lowDrewN | with_reducible apply lowAlloc | (with_reducible refine lowCall ?_ (by assumption)) | (show (_ : Nat) ≤ _; first | (simp; done) | (simp; omega) | omega)))
theorem iHueRead_bad5 (b0 b1 b2 b3 b4 b5 : UInt8) (w : World) (h0 : 0 ≤ hd b0) (h1 : 0 ≤ hd b1) (h2 : 0 ≤ hd b2) (h3 : 0 ≤ hd b3) (h4 : 0 ≤ hd b4) (h5 : hd b5 < 0) :
    Calls Try.prog 38 #[.string ⟨#[b0, b1, b2, b3, b4, b5]⟩] w fun e w' => e = .returned (.tuple #[.agg #[.int .i64 (0), .int .i64 (0), .int .i64 (0)], .bool false]) ∧ Below w.heap.size w w' := by
  have ⟨_, g0⟩ := hd_bd b0
  have e0 : decide (hd b0 < 0) = false := decide_eq_false (by omega)
  have ⟨_, g1⟩ := hd_bd b1
  have e1 : decide (hd b1 < 0) = false := decide_eq_false (by omega)
  have ⟨_, g2⟩ := hd_bd b2
  have e2 : decide (hd b2 < 0) = false := decide_eq_false (by omega)
  have ⟨_, g3⟩ := hd_bd b3
  have e3 : decide (hd b3 < 0) = false := decide_eq_false (by omega)
  have ⟨_, g4⟩ := hd_bd b4
  have e4 : decide (hd b4 < 0) = false := decide_eq_false (by omega)
  have e5 : decide (hd b5 < 0) = true := decide_eq_true (by omega)
  clear h0 h1 h2 h3 h4 h5
  go_enter Try.func38, Try.ntmps38
  go_wp2
  refine wp_loop_rounds 7 ?_
  iterate 6 (rw [rounds_succ]; go_wp2_with ((go_at_call 59; ((with_reducible refine (hexAt _ _).mono ?_); rintro e w' ⟨rfl, rfl⟩))))
  refine bodyPost_ret ?hres rfl ⟨rfl, ?hlow⟩; (case hres => (first | (simp [results, Try.results38, go_sem]; done) | (simp [results, Try.results38, go_sem, *]; done))); (case hlow => repeat' (first | with_reducible exact lowRefl _ | with_reducible apply lowSet | with_reducible apply lowDrew | with_reducible apply lowDrewN | with_reducible apply lowAlloc | (with_reducible refine lowCall ?_ (by assumption)) | (show (_ : Nat) ≤ _; first | (simp; done) | (simp; omega) | omega)))
theorem iHueRead_good (b0 b1 b2 b3 b4 b5 : UInt8) (w : World) (h0 : 0 ≤ hd b0) (h1 : 0 ≤ hd b1) (h2 : 0 ≤ hd b2) (h3 : 0 ≤ hd b3) (h4 : 0 ≤ hd b4) (h5 : 0 ≤ hd b5) :
    Calls Try.prog 38 #[.string ⟨#[b0, b1, b2, b3, b4, b5]⟩] w fun e w' => e = .returned (.tuple #[.agg #[.int .i64 (16 * hd b0 + hd b1), .int .i64 (16 * hd b2 + hd b3), .int .i64 (16 * hd b4 + hd b5)], .bool true]) ∧ Below w.heap.size w w' := by
  have ⟨_, g0⟩ := hd_bd b0
  have e0 : decide (hd b0 < 0) = false := decide_eq_false (by omega)
  have ⟨_, g1⟩ := hd_bd b1
  have e1 : decide (hd b1 < 0) = false := decide_eq_false (by omega)
  have ⟨_, g2⟩ := hd_bd b2
  have e2 : decide (hd b2 < 0) = false := decide_eq_false (by omega)
  have ⟨_, g3⟩ := hd_bd b3
  have e3 : decide (hd b3 < 0) = false := decide_eq_false (by omega)
  have ⟨_, g4⟩ := hd_bd b4
  have e4 : decide (hd b4 < 0) = false := decide_eq_false (by omega)
  have ⟨_, g5⟩ := hd_bd b5
  have e5 : decide (hd b5 < 0) = false := decide_eq_false (by omega)
  go_enter Try.func38, Try.ntmps38
  go_wp2
  refine wp_loop_rounds 7 ?_
  iterate 7 (rw [rounds_succ]; go_wp2_with ((go_at_call 59; ((with_reducible refine (hexAt _ _).mono ?_); rintro e w' ⟨rfl, rfl⟩))))
  refine bodyPost_ret ?hres rfl ⟨rfl, ?hlow⟩; (case hres => (first | (simp [results, Try.results38, go_sem]; done) | (simp [results, Try.results38, go_sem, *]; done))); (case hlow => repeat' (first | with_reducible exact lowRefl _ | with_reducible apply lowSet | with_reducible apply lowDrew | with_reducible apply lowDrewN | with_reducible apply lowAlloc | (with_reducible refine lowCall ?_ (by assumption)) | (show (_ : Nat) ≤ _; first | (simp; done) | (simp; omega) | omega)))
theorem iHueRead_long (s : ByteArray) (w : World) (h : s.size ≠ 6) (hs : s.size ≤ 1048576) :
    Calls Try.prog 38 #[.string s] w fun e w' => e = .returned (.tuple #[.agg #[.int .i64 (0), .int .i64 (0), .int .i64 (0)], .bool false]) ∧ Below w.heap.size w w' := by
  go_enter Try.func38, Try.ntmps38
  go_wp2
  refine bodyPost_ret ?hres rfl ⟨rfl, ?hlow⟩; (case hres => (first | (simp [results, Try.results38, go_sem]; done) | (simp [results, Try.results38, go_sem, *]; done))); (case hlow => repeat' (first | with_reducible exact lowRefl _ | with_reducible apply lowSet | with_reducible apply lowDrew | with_reducible apply lowDrewN | with_reducible apply lowAlloc | (with_reducible refine lowCall ?_ (by assumption)) | (show (_ : Nat) ≤ _; first | (simp; done) | (simp; omega) | omega)))
theorem sHueRead_bad0 (b0 b1 b2 b3 b4 b5 : UInt8) (w : World)  (h0 : hd b0 < 0) :
    Calls Try.prog 37 #[.string ⟨#[b0, b1, b2, b3, b4, b5]⟩] w fun e w' => e = .returned (.tuple #[.agg #[.int .i64 (0), .int .i64 (0), .int .i64 (0)], .bool false]) ∧ Below w.heap.size w w' := by
  have e0 : decide (hd b0 < 0) = true := decide_eq_true (by omega)
  clear h0
  go_enter Try.func37, Try.ntmps37
  go_wp2
  refine wp_loop_rounds 7 ?_
  iterate 1 (rw [rounds_succ]; go_wp2_with ((go_at_call 58; ((with_reducible refine (l9Digit_any _ _).mono ?_); rintro e w' ⟨rfl, rfl⟩))))
  refine bodyPost_ret ?hres rfl ⟨rfl, ?hlow⟩; (case hres => (first | (simp [results, Try.results37, go_sem]; done) | (simp [results, Try.results37, go_sem, *]; done))); (case hlow => repeat' (first | with_reducible exact lowRefl _ | with_reducible apply lowSet | with_reducible apply lowDrew | with_reducible apply lowDrewN | with_reducible apply lowAlloc | (with_reducible refine lowCall ?_ (by assumption)) | (show (_ : Nat) ≤ _; first | (simp; done) | (simp; omega) | omega)))
theorem sHueRead_bad1 (b0 b1 b2 b3 b4 b5 : UInt8) (w : World) (h0 : 0 ≤ hd b0) (h1 : hd b1 < 0) :
    Calls Try.prog 37 #[.string ⟨#[b0, b1, b2, b3, b4, b5]⟩] w fun e w' => e = .returned (.tuple #[.agg #[.int .i64 (0), .int .i64 (0), .int .i64 (0)], .bool false]) ∧ Below w.heap.size w w' := by
  have ⟨_, g0⟩ := hd_bd b0
  have e0 : decide (hd b0 < 0) = false := decide_eq_false (by omega)
  have e1 : decide (hd b1 < 0) = true := decide_eq_true (by omega)
  clear h0 h1
  go_enter Try.func37, Try.ntmps37
  go_wp2
  refine wp_loop_rounds 7 ?_
  iterate 2 (rw [rounds_succ]; go_wp2_with ((go_at_call 58; ((with_reducible refine (l9Digit_any _ _).mono ?_); rintro e w' ⟨rfl, rfl⟩))))
  refine bodyPost_ret ?hres rfl ⟨rfl, ?hlow⟩; (case hres => (first | (simp [results, Try.results37, go_sem]; done) | (simp [results, Try.results37, go_sem, *]; done))); (case hlow => repeat' (first | with_reducible exact lowRefl _ | with_reducible apply lowSet | with_reducible apply lowDrew | with_reducible apply lowDrewN | with_reducible apply lowAlloc | (with_reducible refine lowCall ?_ (by assumption)) | (show (_ : Nat) ≤ _; first | (simp; done) | (simp; omega) | omega)))
theorem sHueRead_bad2 (b0 b1 b2 b3 b4 b5 : UInt8) (w : World) (h0 : 0 ≤ hd b0) (h1 : 0 ≤ hd b1) (h2 : hd b2 < 0) :
    Calls Try.prog 37 #[.string ⟨#[b0, b1, b2, b3, b4, b5]⟩] w fun e w' => e = .returned (.tuple #[.agg #[.int .i64 (0), .int .i64 (0), .int .i64 (0)], .bool false]) ∧ Below w.heap.size w w' := by
  have ⟨_, g0⟩ := hd_bd b0
  have e0 : decide (hd b0 < 0) = false := decide_eq_false (by omega)
  have ⟨_, g1⟩ := hd_bd b1
  have e1 : decide (hd b1 < 0) = false := decide_eq_false (by omega)
  have e2 : decide (hd b2 < 0) = true := decide_eq_true (by omega)
  clear h0 h1 h2
  go_enter Try.func37, Try.ntmps37
  go_wp2
  refine wp_loop_rounds 7 ?_
  iterate 3 (rw [rounds_succ]; go_wp2_with ((go_at_call 58; ((with_reducible refine (l9Digit_any _ _).mono ?_); rintro e w' ⟨rfl, rfl⟩))))
  refine bodyPost_ret ?hres rfl ⟨rfl, ?hlow⟩; (case hres => (first | (simp [results, Try.results37, go_sem]; done) | (simp [results, Try.results37, go_sem, *]; done))); (case hlow => repeat' (first | with_reducible exact lowRefl _ | with_reducible apply lowSet | with_reducible apply lowDrew | with_reducible apply lowDrewN | with_reducible apply lowAlloc | (with_reducible refine lowCall ?_ (by assumption)) | (show (_ : Nat) ≤ _; first | (simp; done) | (simp; omega) | omega)))
theorem sHueRead_bad3 (b0 b1 b2 b3 b4 b5 : UInt8) (w : World) (h0 : 0 ≤ hd b0) (h1 : 0 ≤ hd b1) (h2 : 0 ≤ hd b2) (h3 : hd b3 < 0) :
    Calls Try.prog 37 #[.string ⟨#[b0, b1, b2, b3, b4, b5]⟩] w fun e w' => e = .returned (.tuple #[.agg #[.int .i64 (0), .int .i64 (0), .int .i64 (0)], .bool false]) ∧ Below w.heap.size w w' := by
  have ⟨_, g0⟩ := hd_bd b0
  have e0 : decide (hd b0 < 0) = false := decide_eq_false (by omega)
  have ⟨_, g1⟩ := hd_bd b1
  have e1 : decide (hd b1 < 0) = false := decide_eq_false (by omega)
  have ⟨_, g2⟩ := hd_bd b2
  have e2 : decide (hd b2 < 0) = false := decide_eq_false (by omega)
  have e3 : decide (hd b3 < 0) = true := decide_eq_true (by omega)
  clear h0 h1 h2 h3
  go_enter Try.func37, Try.ntmps37
  go_wp2
  refine wp_loop_rounds 7 ?_
  iterate 4 (rw [rounds_succ]; go_wp2_with ((go_at_call 58; ((with_reducible refine (l9Digit_any _ _).mono ?_); rintro e w' ⟨rfl, rfl⟩))))
  refine bodyPost_ret ?hres rfl ⟨rfl, ?hlow⟩; (case hres => (first | (simp [results, Try.results37, go_sem]; done) | (simp [results, Try.results37, go_sem, *]; done))); (case hlow => repeat' (first | with_reducible exact lowRefl _ | with_reducible apply lowSet | with_reducible apply lowDrew | with_reducible apply lowDrewN | with_reducible apply lowAlloc | (with_reducible refine lowCall ?_ (by assumption)) | (show (_ : Nat) ≤ _; first | (simp; done) | (simp; omega) | omega)))
theorem sHueRead_bad4 (b0 b1 b2 b3 b4 b5 : UInt8) (w : World) (h0 : 0 ≤ hd b0) (h1 : 0 ≤ hd b1) (h2 : 0 ≤ hd b2) (h3 : 0 ≤ hd b3) (h4 : hd b4 < 0) :
    Calls Try.prog 37 #[.string ⟨#[b0, b1, b2, b3, b4, b5]⟩] w fun e w' => e = .returned (.tuple #[.agg #[.int .i64 (0), .int .i64 (0), .int .i64 (0)], .bool false]) ∧ Below w.heap.size w w' := by
  have ⟨_, g0⟩ := hd_bd b0
  have e0 : decide (hd b0 < 0) = false := decide_eq_false (by omega)
  have ⟨_, g1⟩ := hd_bd b1
  have e1 : decide (hd b1 < 0) = false := decide_eq_false (by omega)
  have ⟨_, g2⟩ := hd_bd b2
  have e2 : decide (hd b2 < 0) = false := decide_eq_false (by omega)
  have ⟨_, g3⟩ := hd_bd b3
  have e3 : decide (hd b3 < 0) = false := decide_eq_false (by omega)
  have e4 : decide (hd b4 < 0) = true := decide_eq_true (by omega)
  clear h0 h1 h2 h3 h4
  go_enter Try.func37, Try.ntmps37
  go_wp2
  refine wp_loop_rounds 7 ?_
  iterate 5 (rw [rounds_succ]; go_wp2_with ((go_at_call 58; ((with_reducible refine (l9Digit_any _ _).mono ?_); rintro e w' ⟨rfl, rfl⟩))))
  refine bodyPost_ret ?hres rfl ⟨rfl, ?hlow⟩; (case hres => (first | (simp [results, Try.results37, go_sem]; done) | (simp [results, Try.results37, go_sem, *]; done))); (case hlow => repeat' (first | with_reducible exact lowRefl _ | with_reducible apply lowSet | with_reducible apply lowDrew | with_reducible apply lowDrewN | with_reducible apply lowAlloc | (with_reducible refine lowCall ?_ (by assumption)) | (show (_ : Nat) ≤ _; first | (simp; done) | (simp; omega) | omega)))
theorem sHueRead_bad5 (b0 b1 b2 b3 b4 b5 : UInt8) (w : World) (h0 : 0 ≤ hd b0) (h1 : 0 ≤ hd b1) (h2 : 0 ≤ hd b2) (h3 : 0 ≤ hd b3) (h4 : 0 ≤ hd b4) (h5 : hd b5 < 0) :
    Calls Try.prog 37 #[.string ⟨#[b0, b1, b2, b3, b4, b5]⟩] w fun e w' => e = .returned (.tuple #[.agg #[.int .i64 (0), .int .i64 (0), .int .i64 (0)], .bool false]) ∧ Below w.heap.size w w' := by
  have ⟨_, g0⟩ := hd_bd b0
  have e0 : decide (hd b0 < 0) = false := decide_eq_false (by omega)
  have ⟨_, g1⟩ := hd_bd b1
  have e1 : decide (hd b1 < 0) = false := decide_eq_false (by omega)
  have ⟨_, g2⟩ := hd_bd b2
  have e2 : decide (hd b2 < 0) = false := decide_eq_false (by omega)
  have ⟨_, g3⟩ := hd_bd b3
  have e3 : decide (hd b3 < 0) = false := decide_eq_false (by omega)
  have ⟨_, g4⟩ := hd_bd b4
  have e4 : decide (hd b4 < 0) = false := decide_eq_false (by omega)
  have e5 : decide (hd b5 < 0) = true := decide_eq_true (by omega)
  clear h0 h1 h2 h3 h4 h5
  go_enter Try.func37, Try.ntmps37
  go_wp2
  refine wp_loop_rounds 7 ?_
  iterate 6 (rw [rounds_succ]; go_wp2_with ((go_at_call 58; ((with_reducible refine (l9Digit_any _ _).mono ?_); rintro e w' ⟨rfl, rfl⟩))))
  refine bodyPost_ret ?hres rfl ⟨rfl, ?hlow⟩; (case hres => (first | (simp [results, Try.results37, go_sem]; done) | (simp [results, Try.results37, go_sem, *]; done))); (case hlow => repeat' (first | with_reducible exact lowRefl _ | with_reducible apply lowSet | with_reducible apply lowDrew | with_reducible apply lowDrewN | with_reducible apply lowAlloc | (with_reducible refine lowCall ?_ (by assumption)) | (show (_ : Nat) ≤ _; first | (simp; done) | (simp; omega) | omega)))
theorem sHueRead_good (b0 b1 b2 b3 b4 b5 : UInt8) (w : World) (h0 : 0 ≤ hd b0) (h1 : 0 ≤ hd b1) (h2 : 0 ≤ hd b2) (h3 : 0 ≤ hd b3) (h4 : 0 ≤ hd b4) (h5 : 0 ≤ hd b5) :
    Calls Try.prog 37 #[.string ⟨#[b0, b1, b2, b3, b4, b5]⟩] w fun e w' => e = .returned (.tuple #[.agg #[.int .i64 (hd b0 * 16 + hd b1), .int .i64 (hd b2 * 16 + hd b3), .int .i64 (hd b4 * 16 + hd b5)], .bool true]) ∧ Below w.heap.size w w' := by
  have ⟨_, g0⟩ := hd_bd b0
  have e0 : decide (hd b0 < 0) = false := decide_eq_false (by omega)
  have ⟨_, g1⟩ := hd_bd b1
  have e1 : decide (hd b1 < 0) = false := decide_eq_false (by omega)
  have ⟨_, g2⟩ := hd_bd b2
  have e2 : decide (hd b2 < 0) = false := decide_eq_false (by omega)
  have ⟨_, g3⟩ := hd_bd b3
  have e3 : decide (hd b3 < 0) = false := decide_eq_false (by omega)
  have ⟨_, g4⟩ := hd_bd b4
  have e4 : decide (hd b4 < 0) = false := decide_eq_false (by omega)
  have ⟨_, g5⟩ := hd_bd b5
  have e5 : decide (hd b5 < 0) = false := decide_eq_false (by omega)
  go_enter Try.func37, Try.ntmps37
  go_wp2
  refine wp_loop_rounds 7 ?_
  iterate 7 (rw [rounds_succ]; go_wp2_with ((go_at_call 58; ((with_reducible refine (l9Digit_any _ _).mono ?_); rintro e w' ⟨rfl, rfl⟩))))
  refine bodyPost_ret ?hres rfl ⟨rfl, ?hlow⟩; (case hres => (first | (simp [results, Try.results37, go_sem]; done) | (simp [results, Try.results37, go_sem, *]; done))); (case hlow => repeat' (first | with_reducible exact lowRefl _ | with_reducible apply lowSet | with_reducible apply lowDrew | with_reducible apply lowDrewN | with_reducible apply lowAlloc | (with_reducible refine lowCall ?_ (by assumption)) | (show (_ : Nat) ≤ _; first | (simp; done) | (simp; omega) | omega)))
theorem sHueRead_long (s : ByteArray) (w : World) (h : s.size ≠ 6) (hs : s.size ≤ 1048576) :
    Calls Try.prog 37 #[.string s] w fun e w' => e = .returned (.tuple #[.agg #[.int .i64 (0), .int .i64 (0), .int .i64 (0)], .bool false]) ∧ Below w.heap.size w w' := by
  go_enter Try.func37, Try.ntmps37
  go_wp2
  refine bodyPost_ret ?hres rfl ⟨rfl, ?hlow⟩; (case hres => (first | (simp [results, Try.results37, go_sem]; done) | (simp [results, Try.results37, go_sem, *]; done))); (case hlow => repeat' (first | with_reducible exact lowRefl _ | with_reducible apply lowSet | with_reducible apply lowDrew | with_reducible apply lowDrewN | with_reducible apply lowAlloc | (with_reducible refine lowCall ?_ (by assumption)) | (show (_ : Nat) ≤ _; first | (simp; done) | (simp; omega) | omega)))

/- what a text reads as -/
def hrd (s : ByteArray) (X Y Z : Int) (K : Bool) (w : World) : Prop :=
  (Calls Try.prog 38 #[.string s] w fun e w' => e = .returned (.tuple #[.agg #[.int .i64 (X), .int .i64 (Y), .int .i64 (Z)], .bool K]) ∧ Below w.heap.size w w') ∧ Calls Try.prog 37 #[.string s] w fun e w' => e = .returned (.tuple #[.agg #[.int .i64 (X), .int .i64 (Y), .int .i64 (Z)], .bool K]) ∧ Below w.heap.size w w'
theorem hrd_any (s : ByteArray) (hs : s.size ≤ 1048576) : ∃ X Y Z K, ∀ w, hrd s X Y Z K w := by
  by_cases h : s.size = 6
  · obtain ⟨b0, b1, b2, b3, b4, b5, rfl⟩ := six_of s h
    by_cases h0 : hd b0 < 0
    · exact ⟨0, 0, 0, false, fun w => ⟨iHueRead_bad0 b0 b1 b2 b3 b4 b5 w  h0, sHueRead_bad0 b0 b1 b2 b3 b4 b5 w  h0⟩⟩
    by_cases h1 : hd b1 < 0
    · exact ⟨0, 0, 0, false, fun w => ⟨iHueRead_bad1 b0 b1 b2 b3 b4 b5 w (by omega) h1, sHueRead_bad1 b0 b1 b2 b3 b4 b5 w (by omega) h1⟩⟩
    by_cases h2 : hd b2 < 0
    · exact ⟨0, 0, 0, false, fun w => ⟨iHueRead_bad2 b0 b1 b2 b3 b4 b5 w (by omega) (by omega) h2, sHueRead_bad2 b0 b1 b2 b3 b4 b5 w (by omega) (by omega) h2⟩⟩
    by_cases h3 : hd b3 < 0
    · exact ⟨0, 0, 0, false, fun w => ⟨iHueRead_bad3 b0 b1 b2 b3 b4 b5 w (by omega) (by omega) (by omega) h3, sHueRead_bad3 b0 b1 b2 b3 b4 b5 w (by omega) (by omega) (by omega) h3⟩⟩
    by_cases h4 : hd b4 < 0
    · exact ⟨0, 0, 0, false, fun w => ⟨iHueRead_bad4 b0 b1 b2 b3 b4 b5 w (by omega) (by omega) (by omega) (by omega) h4, sHueRead_bad4 b0 b1 b2 b3 b4 b5 w (by omega) (by omega) (by omega) (by omega) h4⟩⟩
    by_cases h5 : hd b5 < 0
    · exact ⟨0, 0, 0, false, fun w => ⟨iHueRead_bad5 b0 b1 b2 b3 b4 b5 w (by omega) (by omega) (by omega) (by omega) (by omega) h5, sHueRead_bad5 b0 b1 b2 b3 b4 b5 w (by omega) (by omega) (by omega) (by omega) (by omega) h5⟩⟩
    refine ⟨_, _, _, true, fun w => ⟨iHueRead_good b0 b1 b2 b3 b4 b5 w (by omega) (by omega) (by omega) (by omega) (by omega) (by omega), ?_⟩⟩
    have k := sHueRead_good b0 b1 b2 b3 b4 b5 w (by omega) (by omega) (by omega) (by omega) (by omega) (by omega)
    rwa [Int.mul_comm (hd b0), Int.mul_comm (hd b2), Int.mul_comm (hd b4)] at k
  · exact ⟨0, 0, 0, false, fun w => ⟨iHueRead_long s w h hs, sHueRead_long s w h hs⟩⟩
theorem wFnExactHueRead (s : ByteArray) (w : World) (hm : s.size ≤ maxLen) : Calls Try.prog 11 #[.string s] w fun e w' => e = .returned (.bool true) ∧ Below w.heap.size w w' := by
  by_cases hs : s.size ≤ 1048576
  · obtain ⟨X, Y, Z, K, hk⟩ := hrd_any s hs
    have CI := Lib.hid fun w => (hk w).1
    have CS := Lib.hid fun w => (hk w).2
    have h1 : decide ((1048576 : Int) < (s.size : Int)) = false := decide_eq_false (by omega)
    clear hk hs hm
    go_enter Try.func11, Try.ntmps11
    go_upto_region 4 with (go_at_call 37; (with_reducible refine (CS.out _).mono ?_); rintro e w' ⟨rfl, hbq⟩)
    refine (fun (k : ∀ wm, Has wm w'.heap.size #[.int .i64 (X), .int .i64 (Y), .int .i64 (Z)] 25 → Below w.heap.size w wm → Code.wp _ _ _ _ wm) => k _ ?_ ?_) ?_
    · (refine Has.as (by repeat' (first | with_reducible assumption | with_reducible apply Has.new | with_reducible apply Has.new1 | with_reducible apply Has.new2 | with_reducible apply Has.new3 | with_reducible apply Has.new4 | with_reducible apply Has.drew | with_reducible apply Has.drewN | with_reducible apply Has.alloc | with_reducible apply Has.same | with_reducible apply Has.other | (with_reducible show _ ≠ _; first | omega | (simp; done)))) ?_; first | (with_reducible rfl) | (simp only [List.setIfInBounds_toArray, List.set_cons_zero, List.set_cons_succ]; done) | (simp only [List.setIfInBounds_toArray, List.set_cons_zero, List.set_cons_succ]; rfl) | rfl | (simp; done))
    · repeat' (first | with_reducible exact lowRefl _ | with_reducible apply lowSet | with_reducible apply lowDrew | with_reducible apply lowDrewN | with_reducible apply lowAlloc | (with_reducible refine lowCall ?_ (by assumption)) | (show (_ : Nat) ≤ _; first | (simp; done) | (simp; omega) | omega))
    generalize w'.heap.size = bX
    clear hbq w'
    intro w1 BX hb
    go_upto_region 5 with (go_at_call 38; (with_reducible refine (CI.out _).mono ?_); rintro e w' ⟨rfl, hbq⟩)
    have BX2 := BX.below hbq
    have hb2 := lowCall hb hbq
    clear BX hb hbq
    refine (fun (k : ∀ wm, Has wm w'.heap.size #[.int .i64 (X), .int .i64 (Y), .int .i64 (Z)] 25 → Has wm bX #[.int .i64 (X), .int .i64 (Y), .int .i64 (Z)] 25 → Below w.heap.size w wm → Code.wp _ _ _ _ wm) => k _ ?_ ?_ ?_) ?_
    · (refine Has.as (by repeat' (first | with_reducible assumption | with_reducible apply Has.new | with_reducible apply Has.new1 | with_reducible apply Has.new2 | with_reducible apply Has.new3 | with_reducible apply Has.new4 | with_reducible apply Has.drew | with_reducible apply Has.drewN | with_reducible apply Has.alloc | with_reducible apply Has.same | with_reducible apply Has.other | (with_reducible show _ ≠ _; first | omega | (simp; done)))) ?_; first | (with_reducible rfl) | (simp only [List.setIfInBounds_toArray, List.set_cons_zero, List.set_cons_succ]; done) | (simp only [List.setIfInBounds_toArray, List.set_cons_zero, List.set_cons_succ]; rfl) | rfl | (simp; done))
    · (refine Has.as (by repeat' (first | with_reducible assumption | with_reducible apply Has.new | with_reducible apply Has.new1 | with_reducible apply Has.new2 | with_reducible apply Has.new3 | with_reducible apply Has.new4 | with_reducible apply Has.drew | with_reducible apply Has.drewN | with_reducible apply Has.alloc | with_reducible apply Has.same | with_reducible apply Has.other | (with_reducible show _ ≠ _; first | omega | (simp; done)))) ?_; first | (with_reducible rfl) | (simp only [List.setIfInBounds_toArray, List.set_cons_zero, List.set_cons_succ]; done) | (simp only [List.setIfInBounds_toArray, List.set_cons_zero, List.set_cons_succ]; rfl) | rfl | (simp; done))
    · repeat' (first | with_reducible exact lowRefl _ | with_reducible apply lowSet | with_reducible apply lowDrew | with_reducible apply lowDrewN | with_reducible apply lowAlloc | (with_reducible refine lowCall ?_ (by assumption)) | (show (_ : Nat) ≤ _; first | (simp; done) | (simp; omega) | omega))
    generalize w'.heap.size = bY
    clear BX2 hb2 w'
    intro w2 BY BX hb
    have CX := Has.cell BX
    have CY := Has.cell BY
    go_wp2_with (go_at_call 21; (with_reducible refine (eqHue_yes X Y Z _).mono ?_); rintro e w' ⟨rfl, hbq⟩)
    go_ret
    exact ⟨rfl, lowCall hb hbq⟩
  · have h1 : decide ((1048576 : Int) < (s.size : Int)) = true := decide_eq_true (by omega)
    have h2 : s.size ≤ 9223372036854775807 := hm
    clear hs hm
    go_enter Try.func11, Try.ntmps11
    go_wp2
    go_ret; refine ⟨rfl, ?_⟩; (repeat' (first | with_reducible exact lowRefl _ | with_reducible apply lowSet | with_reducible apply lowDrew | with_reducible apply lowDrewN | with_reducible apply lowAlloc | (with_reducible refine lowCall ?_ (by assumption)) | (show (_ : Nat) ≤ _; first | (simp; done) | (simp; omega) | omega)))

end Go.Proofs.Ytegibpepdndocaa
