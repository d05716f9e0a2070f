
import Derived.Test.YtegibpepdndocaaRd
namespace Go.Proofs.Ytegibpepdndocaa
open Go.ChangeShapes Go.WideShapes Go.ChangeAt Go.RowKit

theorem by_alloc {a w : World} {r : Option Nat} (h : a.grownBy w r) (o : Obj) : a.grownBy (w.alloc o) r := by_trans h (World.grownBy_alloc w o r)
theorem below_by {B : Nat} {a w w' : World} {g : Nat} (h : Below B a w) (hg : w.grownBy w' (some g)) (hB : B ≤ w.heap.size) (hlo : B ≤ g) : Below B a w' := h.grown hg hB (fun k hk => by injection hk with e; omega)
def AllI (Q : Int → Prop) : List Value → Prop
  | [] => True
  | u :: us => (∃ z, u = .int .i64 z ∧ Q z) ∧ AllI Q us
theorem allI_at {Q : Int → Prop} : ∀ (us : List Value) (k : Nat), AllI Q us → k < us.length → ∃ z, us[k]? = some (.int .i64 z) ∧ Q z
  | [], k, _, hk => by simp at hk
  | u :: us, 0, h, _ => by
    obtain ⟨⟨z, rfl, hz⟩, _⟩ := h
    exact ⟨z, rfl, hz⟩
  | u :: us, k + 1, h, hk => by
    obtain ⟨z, h1, h2⟩ := allI_at us k h.2 (by simpa using hk)
    exact ⟨z, by simpa using h1, h2⟩
theorem lit_at {Q : Int → Prop} (w : World) (cs : Array Value) (t : TypeId) (h : AllI Q cs.toList) (k : Nat) (hk : k < cs.size) : ∃ z, (w.alloc (.cells cs t)).cell? ⟨w.heap.size, k, none⟩ = some (.int .i64 z) ∧ Q z := by
  obtain ⟨z, h1, h2⟩ := allI_at cs.toList k h (by simpa using hk)
  exact ⟨z, by rw [World.cell?_alloc_at _ _ _ _ rfl]; simpa using h1, h2⟩

theorem open_any (A : Option Addr) (n c : Nat) (w : World) (hnc : n ≤ c) (hm : c ≤ 9223372036854775807) (hcode : Code w w.heap.size A n) :
    Calls Try.prog 60 #[.slice A n c] w fun e w' => ∃ g n', e = .returned (.pointer (some ⟨g, 0, none⟩)) ∧ Rd w' w.heap.size g A n' c 0 ∧ Below w.heap.size w w' := by
  have key : ∀ n', n' ≤ n → n' ≤ 2000 → Rd (w.alloc (.cells #[.slice A n' c, .int .i64 0] 77)) w.heap.size w.heap.size A n' c 0 := fun n' h1 h2 =>
    ⟨Nat.le_refl _, h2, by omega, ⟨0, Nat.le_refl _, heap_alloc_new w _⟩, fun hn => by
      obtain ⟨b, off, rfl, hb, hc⟩ := hcode (by omega)
      refine ⟨b, off, rfl, hb, fun j hj => ?_⟩
      obtain ⟨x, x0, x1, hx⟩ := hc j (by omega)
      exact ⟨x, x0, x1, by rw [World.cell?_alloc_past _ _ _ hb]; exact hx⟩⟩
  have Key := Lib.hid key
  clear key
  by_cases h : n ≤ 2000
  · go_enter Try.func60, Try.ntmps60
    go_wp2
    go_ret
    exact ⟨_, n, rfl, Key.out n (Nat.le_refl _) h, (Below.refl _ _).alloc (Nat.le_refl _) _⟩
  · go_enter Try.func60, Try.ntmps60
    go_wp2
    go_ret
    exact ⟨_, 2000, rfl, Key.out 2000 (by omega) (Nat.le_refl _), (Below.refl _ _).alloc (Nat.le_refl _) _⟩
theorem num_any (Q : Int → Prop) (B g n c m b k cap : Nat) (A : Option Addr) (w : World) (hr : Rd w B g A n c m) (hm : m ≤ 1000000) (hbg : b ≠ g) (hlt : b < w.heap.size) (hk0 : 0 < k) (hk1 : k ≤ 1000)
    (hL : ∀ i, i < k → ∃ z, w.cell? ⟨b, i, none⟩ = some (.int .i64 z) ∧ Q z) :
    Calls Try.prog 64 #[.pointer (some ⟨g, 0, none⟩), .slice (some ⟨b, 0, none⟩) k cap] w fun e w' => ∃ z, e = .returned (.int .i64 z) ∧ Q z ∧ Rd w' B g A n c (m + 1) ∧ w.grownBy w' (some g) := by
  have HL := Lib.hid hL
  clear hL
  go_enter Try.func64, Try.ntmps64
  go_wp2_with fail
  refine (pick_any B g n c m A _ w hr hm (by omega)).mono ?_
  rintro e w1 ⟨v, rfl, h0, h1, hr1, hg1⟩
  obtain ⟨i, rfl⟩ := Int.eq_ofNat_of_zero_le h0
  obtain ⟨z, hz, hQ⟩ := HL.out i (by omega)
  have hz1 : w1.cell? ⟨b, i, none⟩ = some (.int .i64 z) := by rw [World.cell?_of_block (hg1.block b hlt (by simpa using hbg))]; exact hz
  have hi : i < k := by omega
  go_wp2
  go_ret
  exact ⟨z, rfl, hQ, hr1, hg1⟩

def In64 (z : Int) : Prop := -9223372036854775808 ≤ z ∧ z ≤ 9223372036854775807
theorem in64_wrap (z : Int) : In64 (wrap64 z) := by unfold In64 wrap64; omega
/- the reader in world w, and what has happened since world a -/
structure St (a w : World) (B g : Nat) (A : Option Addr) (n c m : Nat) : Prop where
  rd : Rd w B g A n c m
  by_ : a.grownBy w (some g)
  lt : g < a.heap.size
section
variable {a w : World} {B g n c m : Nat} {A : Option Addr}
theorem St.alloc (h : St a w B g A n c m) (o : Obj) : St a (w.alloc o) B g A n c m := ⟨h.rd.alloc o, by_alloc h.by_ o, h.lt⟩
theorem St.start (h : Rd w B g A n c m) : St w w B g A n c m := ⟨h, World.grownBy.refl _ _, h.lt⟩
theorem St.lt2 (h : St a w B g A n c m) : g < w.heap.size := Nat.lt_of_lt_of_le h.lt h.by_.size
theorem pick_st (N : Int) (h : St a w B g A n c m) (hm : m ≤ 1000000) (hN : N ≤ 4611686018427387904) :
    Calls Try.prog 66 #[.pointer (some ⟨g, 0, none⟩), .int .i64 N] w fun e w' => ∃ v : Int, e = .returned (.int .i64 v) ∧ 0 ≤ v ∧ (v < N ∨ v = 0) ∧ St a w' B g A n c (m + 1) :=
  (pick_any B g n c m A N w h.rd hm hN).mono fun _ _ ⟨v, h1, h2, h3, h4, h5⟩ => ⟨v, h1, h2, h3, h4, by_trans h.by_ h5, h.lt⟩
/- 'r.num([]int{..})' -/
theorem num_st (Q : Int → Prop) {cs : Array Value} {t : TypeId} {k cap : Nat} (h : St a w B g A n c m) (hm : m ≤ 1000000) (hk0 : 0 < k) (hk1 : k ≤ 1000) (hL : AllI Q cs.toList) (hk : k = cs.size := by rfl) :
    Calls Try.prog 64 #[.pointer (some ⟨g, 0, none⟩), .slice (some ⟨w.heap.size, 0, none⟩) k cap] (w.alloc (.cells cs t)) fun e w' => ∃ z, e = .returned (.int .i64 z) ∧ Q z ∧ St a w' B g A n c (m + 1) := by
  have hlt := h.lt2
  refine (num_any Q B g n c m w.heap.size k cap A _ (h.rd.alloc _) hm (by omega) (by simp) hk0 hk1 (fun i hi => lit_at _ _ _ hL i (by omega))).mono ?_
  rintro e w1 ⟨z, rfl, hz, hr, hg⟩
  exact ⟨z, rfl, hz, hr, by_trans (by_alloc h.by_ _) hg, h.lt⟩
end
/- a function that draws one number: it returns a number in Q, and the reader has been asked m times at most -/
def Drew (Q : Int → Prop) (a : World) (B g : Nat) (A : Option Addr) (n c m : Nat) (e : Ending) (w' : World) : Prop :=
  ∃ z, e = .returned (.int .i64 z) ∧ Q z ∧ St a w' B g A n c m
theorem Drew.mk {Q : Int → Prop} {a w' : World} {B g n c m m' : Nat} {A : Option Addr} {z : Int} (h : St a w' B g A n c m) (hq : Q z) (hm : m ≤ m') : Drew Q a B g A n c m' (.returned (.int .i64 z)) w' :=
  ⟨z, rfl, hq, h.rd.mono hm, h.by_, h.lt⟩
end Go.Proofs.Ytegibpepdndocaa
