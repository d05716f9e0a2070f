
import Derived.Test.YtegibpepdndocaaInts
import Derived.BigQuiet
import Derived.Deep.QuietTactic
import Derived.Laws.BitsAllLaws
import Derived.Laws.BitsLemmas
namespace Go.Proofs.Ytegibpepdndocaa
open Go.ChangeShapes Go.WideShapes Go.ChangeAt Go.RowKit

/- the bytes that a law gets -/
def Code (w : World) (B : Nat) (A : Option Addr) (n : Nat) : Prop :=
  0 < n → ∃ b off, A = some ⟨b, off, none⟩ ∧ b < B ∧ ∀ j, j < n → ∃ x : Int, 0 ≤ x ∧ x ≤ 255 ∧ w.cell? ⟨b, off + j, none⟩ = some (.int .u8 x)
theorem Code.keep {w w' : World} {B n : Nat} {A : Option Addr} (h : Code w B A n) (hk : ∀ b o, b < B → w'.cell? ⟨b, o, none⟩ = w.cell? ⟨b, o, none⟩) : Code w' B A n := fun hn => by
  obtain ⟨b, off, rfl, hb, hc⟩ := h hn
  refine ⟨b, off, rfl, hb, fun j hj => ?_⟩
  obtain ⟨x, h0, h1, h2⟩ := hc j hj
  exact ⟨x, h0, h1, (hk b _ hb).trans h2⟩
/- a reader of these bytes, in block g, that has been asked m times at most -/
structure Rd (w : World) (B g : Nat) (A : Option Addr) (n c m : Nat) : Prop where
  lo : B ≤ g
  len : n ≤ 2000
  cap : n ≤ c
  cells : ∃ p : Nat, p ≤ m ∧ w.heap[g]? = some (.cells #[.slice A n c, .int .i64 p] 77 (0, 0))
  code : Code w B A n
theorem Rd.mono {w : World} {B g n c m m' : Nat} {A : Option Addr} (h : Rd w B g A n c m) (hm : m ≤ m') : Rd w B g A n c m' := by
  obtain ⟨p, hp, hc⟩ := h.cells
  exact ⟨h.lo, h.len, h.cap, ⟨p, by omega, hc⟩, h.code⟩
theorem Rd.below {w w' : World} {B g n c m : Nat} {A : Option Addr} (h : Rd w B g A n c m) (hb : Below w.heap.size w w') : Rd w' B g A n c m := by
  obtain ⟨p, hp, hc⟩ := h.cells
  have hg : g < w.heap.size := (Array.getElem?_eq_some_iff.1 hc).1
  have hlo := h.lo
  exact ⟨h.lo, h.len, h.cap, ⟨p, hp, by rw [hb.block g hg]; exact hc⟩, h.code.keep fun b o hlt => hb.cell (p := ⟨b, o, none⟩) (Nat.lt_of_lt_of_le hlt (by omega))⟩
theorem Rd.drewN {w : World} {B g n c m : Nat} {A : Option Addr} (h : Rd w B g A n c m) (k : Nat) : Rd (w.drewN k) B g A n c m := ⟨h.lo, h.len, h.cap, h.cells, h.code⟩
theorem Rd.alloc {w : World} {B g n c m : Nat} {A : Option Addr} (h : Rd w B g A n c m) (o : Obj) : Rd (w.alloc o) B g A n c m := h.below ((Below.refl _ _).alloc (Nat.le_refl _) o)
theorem Rd.lt {w : World} {B g n c m : Nat} {A : Option Addr} (h : Rd w B g A n c m) : g < w.heap.size := by
  obtain ⟨p, hp, hc⟩ := h.cells
  exact (Array.getElem?_eq_some_iff.1 hc).1
theorem blk_cell {w : World} {g : Nat} {cs : Array Value} {t : TypeId} (h : w.heap[g]? = some (.cells cs t (0, 0))) (i : Nat) : w.cell? ⟨g, i, none⟩ = cs[i]? := cell_of_row w g i cs t (0, 0) h
theorem blk_frozen {w : World} {g : Nat} {cs : Array Value} {t : TypeId} (h : w.heap[g]? = some (.cells cs t (0, 0))) (i : Nat) : w.frozen? ⟨g, i, none⟩ = false := frozen_of_row w g i cs t h
theorem blk_set {w : World} {g : Nat} {cs : Array Value} {t : TypeId} (h : w.heap[g]? = some (.cells cs t (0, 0))) (i : Nat) (u : Value) : (w.setCell ⟨g, i, none⟩ u).heap[g]? = some (.cells (cs.setIfInBounds i u) t (0, 0)) := heap_setCell_same w g i cs t u h
theorem by_drewN {a w : World} {r : Option Nat} (h : a.grownBy w r) (n : Nat) : a.grownBy (w.drewN n) r := ⟨h.os, h.tape, h.output, h.size, h.block⟩
theorem by_setCell {a w : World} {g : Nat} (h : a.grownBy w (some g)) (i : Nat) (u : Value) : a.grownBy (w.setCell ⟨g, i, none⟩ u) (some g) :=
  ⟨h.os, h.tape, h.output, by simpa using h.size, fun k hk hne => (Below.heap_setCell w ⟨g, i, none⟩ u k (fun e => hne (by rw [e]))).trans (h.block k hk hne)⟩
/- the reader behind one more question -/
theorem Rd.next {w : World} {B g n c m p : Nat} {A : Option Addr} (h : Rd w B g A n c m) (hp : p ≤ m) (hc : w.heap[g]? = some (.cells #[.slice A n c, .int .i64 p] 77 (0, 0))) :
    Rd (w.setCell ⟨g, 1, none⟩ (.int .i64 ((p : Int) + 1))) B g A n c (m + 1) :=
  ⟨h.lo, h.len, h.cap, ⟨p + 1, by omega, by rw [blk_set hc]; rfl⟩, h.code.keep fun b o hb => World.cell?_setCell_other w _ _ _ (fun e => by have h1 := h.lo; injection e with e1; omega)⟩
theorem xor_low (x y : Int) (h1 : 0 ≤ x) (h2 : x < 4611686018427387904) (h3 : 0 ≤ y) (h4 : y < 4611686018427387904) : 0 ≤ bits .xor .i64 x y ∧ bits .xor .i64 x y < 4611686018427387904 := by
  obtain ⟨a, rfl⟩ := Int.eq_ofNat_of_zero_le h1
  obtain ⟨b, rfl⟩ := Int.eq_ofNat_of_zero_le h3
  have hlt : a ^^^ b < 2 ^ 62 := Nat.xor_lt_two_pow (by omega) (by omega)
  have hv : (BitVec.ofInt 64 (a : Int) ^^^ BitVec.ofInt 64 (b : Int)).toNat = a ^^^ b := by
    simp only [BitVec.toNat_xor, BitVec.ofInt_natCast, BitVec.toNat_ofNat]
    rw [Nat.mod_eq_of_lt (by omega), Nat.mod_eq_of_lt (by omega)]
  have hw : bits .xor .i64 (a : Int) (b : Int) = IntKind.i64.wrap ((a ^^^ b : Nat) : Int) := by rw [← hv]; rfl
  rw [hw, IntKind.wrap_i64]
  omega

theorem pick_sums (p n k1 k2 z : Nat) (x y : Int) (hp : p ≤ 1000000) (hk1 : k1 = p % n) (hk2 : k2 = (p * 7 + 3) % n) (hz : z = p / n) (hz2 : z ≤ p) (x0 : 0 ≤ x) (x1 : x ≤ 255) (y0 : 0 ≤ y) (y1 : y ≤ 255) :
    ((p : Int).tmod (n : Int)) = (k1 : Int) ∧ (((p : Int) * 7 + 3).tmod (n : Int)) = (k2 : Int) ∧ IntKind.i64.wrap ((p : Int).tdiv (n : Int)) = (z : Int) ∧
    IntKind.i64.wrap ((p : Int) * 7) = (p : Int) * 7 ∧ IntKind.i64.wrap ((p : Int) * 7 + 3) = (p : Int) * 7 + 3 ∧ IntKind.i64.wrap (x * 131) = x * 131 ∧ IntKind.i64.wrap (y * 1117) = y * 1117 ∧
    IntKind.i64.wrap (x * 131 + y * 1117) = x * 131 + y * 1117 ∧ IntKind.i64.wrap ((p : Int) * 29) = (p : Int) * 29 ∧ IntKind.i64.wrap (x * 131 + y * 1117 + (p : Int) * 29) = x * 131 + y * 1117 + (p : Int) * 29 ∧
    IntKind.i64.wrap ((z : Int) * 53) = (z : Int) * 53 ∧ IntKind.i64.wrap (x * 131 + y * 1117 + (p : Int) * 29 + (z : Int) * 53) = x * 131 + y * 1117 + (p : Int) * 29 + (z : Int) * 53 := by
  refine ⟨by rw [hk1]; exact (Int.ofNat_tmod p n).symm, by rw [hk2]; exact (Int.ofNat_tmod (p * 7 + 3) n).symm, ?_, ?_, ?_, ?_, ?_, ?_, ?_, ?_, ?_, ?_⟩
  · have e : (p : Int) / (n : Int) = (z : Int) := by rw [hz]; rfl
    rw [Int.tdiv_eq_ediv_of_nonneg (by omega), e]; exact IntWalk.i64_in _ ⟨by omega, by omega⟩
  all_goals first | exact IntWalk.i64_in _ ⟨by omega, by omega⟩ | exact wrap64_of _ (by omega) (by omega)

theorem pick_last (p n : Nat) (x y : Int) (hp : p ≤ 1000000) (x0 : 0 ≤ x) (x1 : x ≤ 255) (y0 : 0 ≤ y) (y1 : y ≤ 255) :
    ∃ s : Int, wrap64 (x * 131 + y * 1117 + (p : Int) * 29 + wrap64 (wrap64 ((p : Int) / (n : Int)) * 53)) = s ∧ 0 ≤ s ∧ s < 4611686018427387904 := by
  obtain ⟨z, hz⟩ : ∃ z : Nat, z = p / n := ⟨_, rfl⟩
  have hz2 : z ≤ p := by rw [hz]; exact Nat.div_le_self p n
  have e : (p : Int) / (n : Int) = (z : Int) := by rw [hz]; rfl
  rw [e, wrap64_of (z : Int) (by omega) (by omega), wrap64_of ((z : Int) * 53) (by omega) (by omega), wrap64_of _ (by omega) (by omega)]
  exact ⟨_, rfl, by omega, by omega⟩

def Picked (w : World) (B g : Nat) (A : Option Addr) (n c m : Nat) (N : Int) (e : Ending) (w' : World) : Prop :=
  ∃ v : Int, e = .returned (.int .i64 v) ∧ 0 ≤ v ∧ (v < N ∨ v = 0) ∧ Rd w' B g A n c (m + 1) ∧ w.grownBy w' (some g)
theorem pick_any (B g n c m : Nat) (A : Option Addr) (N : Int) (w : World) (hr : Rd w B g A n c m) (hm : m ≤ 1000000) (hN : N ≤ 4611686018427387904) :
    Calls Try.prog 66 #[.pointer (some ⟨g, 0, none⟩), .int .i64 N] w (Picked w B g A n c m N) := by
  obtain ⟨p, hp, hc⟩ := hr.cells
  have c0 : w.cell? ⟨g, 0, none⟩ = some (.slice A n c) := blk_cell hc 0
  have c1 : w.cell? ⟨g, 1, none⟩ = some (.int .i64 p) := blk_cell hc 1
  have f1 := blk_frozen hc 1
  have hnx := hr.next hp hc
  have hgr := by_setCell (World.grownBy.refl w (some g)) 1 (.int .i64 ((p : Int) + 1))
  have Hnx := Lib.hid hnx
  have Hgr := Lib.hid hgr
  have hlen := hr.len
  have hcap := hr.cap
  clear hnx hgr
  by_cases h1 : N < 1
  · go_enter Try.func66, Try.ntmps66
    go_wp2
    go_ret
    exact ⟨0, rfl, by omega, .inr rfl, Hnx.out, Hgr.out⟩
  by_cases h2 : n = 0
  · subst h2
    go_enter Try.func66, Try.ntmps66
    go_wp2
    go_ret
    exact ⟨0, rfl, by omega, .inr rfl, Hnx.out, Hgr.out⟩
  obtain ⟨b, off, rfl, hb, hcode⟩ := hr.code (by omega)
  have hgb : (b == g) = false := by have := hr.lo; simp; omega
  have hbg : b ≠ g := by have := hr.lo; omega
  have hgb2 : g ≠ b := fun e => hbg e.symm
  by_cases h3 : p < n
  · obtain ⟨x, x0, x1, hx⟩ := hcode p h3
    have h1' : 1 ≤ N := by omega
    have hz : ((n : Int) == 0) = false := by simp; omega
    go_enter Try.func66, Try.ntmps66
    go_wp2
    go_ret
    refine ⟨x % N, rfl, Int.emod_nonneg _ (by omega), .inl (Int.emod_lt_of_pos _ (by omega)), Hnx.out, Hgr.out⟩
  · have h1' : 1 ≤ N := by omega
    have hz : ((n : Int) == 0) = false := by simp; omega
    obtain ⟨k1, hk1⟩ : ∃ k, k = p % n := ⟨_, rfl⟩
    obtain ⟨k2, hk2⟩ : ∃ k, k = (p * 7 + 3) % n := ⟨_, rfl⟩
    have hm1 : (k1 : Int) < n := by have := Nat.mod_lt p (show n > 0 by omega); omega
    have hm2 : (k2 : Int) < n := by have := Nat.mod_lt (p * 7 + 3) (show n > 0 by omega); omega
    obtain ⟨x, x0, x1, hx⟩ := hcode k1 (by omega)
    obtain ⟨y, y0, y1, hy⟩ := hcode k2 (by omega)
    obtain ⟨z, hz1⟩ : ∃ z : Nat, z = p / n := ⟨_, rfl⟩
    have hz2 : z ≤ p := by rw [hz1]; exact Nat.div_le_self p n
    obtain ⟨e1, e2, e3, w1, w2, w3, w4, w5, w6, w7, w10, w11⟩ := pick_sums p n k1 k2 z x y (by omega) hk1 hk2 hz1 hz2 x0 x1 y0 y1
    clear hk1 hk2 hz1
    go_enter Try.func66, Try.ntmps66
    go_wp2
    go_quiet (fail)
    clear e1 e2 e3 w1 w2 w3 w4 w5 w6 w7 w10 w11
    obtain ⟨s, hs, hs0, hs1⟩ := pick_last p n x y (by omega) x0 x1 y0 y1
    rw [hs]
    obtain ⟨hx0, hx1⟩ := xor_low s (s / 64) hs0 hs1 (by omega) (by omega)
    clear hs
    go_wp2
    go_ret
    exact ⟨_, rfl, Int.emod_nonneg _ (by omega), .inl (Int.emod_lt_of_pos _ (by omega)), Hnx.out.drewN _, by_drewN Hgr.out _⟩
end Go.Proofs.Ytegibpepdndocaa
