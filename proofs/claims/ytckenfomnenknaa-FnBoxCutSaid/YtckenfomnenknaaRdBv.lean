import Derived.Test.YtckenfomnenknaaRdv
import Derived.Test.YtckenfomnenknaaRowv
section
namespace Go.Proofs.Ytckenfomnenknaa
open Go.ChangeShapes Go.WideShapes Go.ChangeAt Go.RowKit

theorem by_alloc {a w : World} {r : Option Nat} (h : a.grownBy w r) (o : Obj) : a.grownBy (w.alloc o) r := by_trans h (World.grownBy_alloc w o r)
def AllI (Q : Int → Prop) : List Value → Prop
  | [] => True
  | u :: us => (∃ z, u = .int .i64 z ∧ Q z) ∧ AllI Q us
theorem allI_at {Q : Int → Prop} : ∀ (us : List Value) (k : Nat), AllI Q us → k < us.length → ∃ z, us[k]? = some (.int .i64 z) ∧ Q z
  | [], k, _, hk => by simp at hk
  | u :: us, 0, h, _ => by
    obtain ⟨⟨z, rfl, hz⟩, _⟩ := h
    exact ⟨z, rfl, hz⟩
  | u :: us, k + 1, h, hk => by
    obtain ⟨z, h1, h2⟩ := allI_at us k h.2 (by simpa using hk)
    exact ⟨z, by simpa using h1, h2⟩
theorem lit_at {Q : Int → Prop} (w : World) (cs : Array Value) (t : TypeId) (h : AllI Q cs.toList) (k : Nat) (hk : k < cs.size) : ∃ z, (w.alloc (.cells cs t)).cell? ⟨w.heap.size, k, none⟩ = some (.int .i64 z) ∧ Q z := by
  obtain ⟨z, h1, h2⟩ := allI_at cs.toList k h (by simpa using hk)
  exact ⟨z, by rw [World.cell?_alloc_at _ _ _ _ rfl]; simpa using h1, h2⟩

theorem open_any (A : Option Addr) (n c : Nat) (w : World) (hnc : n ≤ c) (hm : c ≤ 9223372036854775807) (hcode : Code w w.heap.size A n) :
    Calls Try.prog 46 #[.slice A n c] w fun e w' => ∃ g n', e = .returned (.pointer (some ⟨g, 0, none⟩)) ∧ Rd w' w.heap.size g A n' c 0 ∧ Below w.heap.size w w' := by
  have key : ∀ n', n' ≤ n → n' ≤ 2000 → Rd (w.alloc (.cells #[.slice A n' c, .int .i64 0] 125)) w.heap.size w.heap.size A n' c 0 := fun n' h1 h2 =>
    ⟨Nat.le_refl _, h2, by omega, ⟨0, Nat.le_refl _, heap_alloc_new w _⟩, fun hn => by
      obtain ⟨b, off, rfl, hb, hc⟩ := hcode (by omega)
      refine ⟨b, off, rfl, hb, fun j hj => ?_⟩
      obtain ⟨x, x0, x1, hx⟩ := hc j (by omega)
      exact ⟨x, x0, x1, by rw [World.cell?_alloc_past _ _ _ hb]; exact hx⟩⟩
  have Key := Lib.hid key
  clear key
  by_cases h : n ≤ 2000
  · go_enter Try.func46, Try.ntmps46
    go_wp2
    go_ret
    exact ⟨_, n, rfl, Key.out n (Nat.le_refl _) h, (Below.refl _ _).alloc (Nat.le_refl _) _⟩
  · go_enter Try.func46, Try.ntmps46
    go_wp2
    go_ret
    exact ⟨_, 2000, rfl, Key.out 2000 (by omega) (Nat.le_refl _), (Below.refl _ _).alloc (Nat.le_refl _) _⟩
theorem num_any (Q : Int → Prop) (B g n c m b k cap : Nat) (A : Option Addr) (w : World) (hr : Rd w B g A n c m) (hm : m ≤ 1000000) (hbg : b ≠ g) (hlt : b < w.heap.size) (hk0 : 0 < k) (hk1 : k ≤ 1000)
    (hL : ∀ i, i < k → ∃ z, w.cell? ⟨b, i, none⟩ = some (.int .i64 z) ∧ Q z) :
    Calls Try.prog 96 #[.pointer (some ⟨g, 0, none⟩), .slice (some ⟨b, 0, none⟩) k cap] w fun e w' => ∃ z, e = .returned (.int .i64 z) ∧ Q z ∧ Rd w' B g A n c (m + 1) ∧ w.grownBy w' (some g) := by
  have HL := Lib.hid hL
  clear hL
  go_enter Try.func96, Try.ntmps96
  go_wp2_with fail
  refine (pick_any B g n c m A _ w hr hm (by omega)).mono ?_
  rintro e w1 ⟨v, rfl, h0, h1, hr1, hg1⟩
  obtain ⟨i, rfl⟩ := Int.eq_ofNat_of_zero_le h0
  obtain ⟨z, hz, hQ⟩ := HL.out i (by omega)
  have hz1 : w1.cell? ⟨b, i, none⟩ = some (.int .i64 z) := by rw [World.cell?_of_block (hg1.block b hlt (by simpa using hbg))]; exact hz
  have hi : i < k := by omega
  go_wp2
  go_ret
  exact ⟨z, rfl, hQ, hr1, hg1⟩

/- the reader in world w, and what has happened since world a -/
structure St (a w : World) (B g : Nat) (A : Option Addr) (n c m : Nat) : Prop where
  rd : Rd w B g A n c m
  by_ : a.grownBy w (some g)
  lt : g < a.heap.size
section
variable {a w : World} {B g n c m : Nat} {A : Option Addr}
theorem St.alloc (h : St a w B g A n c m) (o : Obj) : St a (w.alloc o) B g A n c m := ⟨h.rd.alloc o, by_alloc h.by_ o, h.lt⟩
end
/- a function that draws one number: it returns a number in Q, and the reader has been asked m times at most -/
def Drew (Q : Int → Prop) (a : World) (B g : Nat) (A : Option Addr) (n c m : Nat) (e : Ending) (w' : World) : Prop :=
  ∃ z, e = .returned (.int .i64 z) ∧ Q z ∧ St a w' B g A n c m
theorem Drew.mk {Q : Int → Prop} {a w' : World} {B g n c m m' : Nat} {A : Option Addr} {z : Int} (h : St a w' B g A n c m) (hq : Q z) (hm : m ≤ m') : Drew Q a B g A n c m' (.returned (.int .i64 z)) w' :=
  ⟨z, rfl, hq, h.rd.mono hm, h.by_, h.lt⟩
end Go.Proofs.Ytckenfomnenknaa
end
section
namespace Go.Proofs.Ytckenfomnenknaa
open Go.ChangeShapes Go.WideShapes Go.ChangeAt Go.RowKit

/- the reader and blocks of one's own -/
/- a block of one's own stays while numbers are drawn -/
theorem Has.by_ {w w' : World} {b g : Nat} {cs : Array Value} {T : TypeId} (h : Has w b cs T) (hg : w.grownBy w' (some g)) (hne : b ≠ g) : Has w' b cs T := (hg.block b h.lt (by simpa using hne)).trans h
/- the reader stays while a block of one's own is set -/
theorem Rd.set {w : World} {B g b n c m : Nat} {A : Option Addr} (h : Rd w B g A n c m) (hB : B ≤ b) (hne : g ≠ b) (i : Nat) (v : Value) : Rd (w.setCell ⟨b, i, none⟩ v) B g A n c m := by
  obtain ⟨p, hp, hc⟩ := h.cells
  exact ⟨h.lo, h.len, h.cap, ⟨p, hp, (Below.heap_setCell w ⟨b, i, none⟩ v g hne).trans hc⟩, h.code.keep fun b' o hb => World.cell?_setCell_other w _ _ _ (fun e => by injection e with e1; omega)⟩
theorem lowBy {a w w' : World} {g : Nat} {B : Nat} (h : Below B a w) (hg : w.grownBy w' (some g)) (hB : B ≤ w.heap.size) (hlo : B ≤ g) : Below B a w' := h.grown hg hB (fun k hk => by injection hk with e; omega)
theorem gAlloc {a w : World} {r : Option Nat} (h : a.grownBy w r) (o : Obj) : a.grownBy (w.alloc o) r := by_trans h (World.grownBy_alloc w o r)
theorem gSetOwn {a w : World} {r : Option Nat} {p : Addr} (h : a.grownBy w r) (hp : a.heap.size ≤ p.block) (v : Value) : a.grownBy (w.setCell p v) r :=
  ⟨h.os, h.tape, h.output, by simpa using h.size, fun k hk hne => (Below.heap_setCell w p v k (by omega)).trans (h.block k hk hne)⟩
theorem Rd.call {w w' : World} {B g n c m : Nat} {A : Option Addr} (h : Rd w B g A n c m) (hb : Below w.heap.size w w') : Rd w' B g A n c m := h.below hb
theorem num_rdP {w : World} {B g n c m : Nat} {A : Option Addr} {cs : Array Value} {t : TypeId} {k cap : Nat} (p : Int → Prop) (h : Rd w B g A n c m) (hm : m ≤ 1000000) (hk0 : 0 < k) (hk1 : k ≤ 1000) (hL : AllI p cs.toList) (hk : k = cs.size) :
    Calls Try.prog 96 #[.pointer (some ⟨g, 0, none⟩), .slice (some ⟨w.heap.size, 0, none⟩) k cap] (w.alloc (.cells cs t)) fun e w' => ∃ z, e = .returned (.int .i64 z) ∧ p z ∧ Rd w' B g A n c (m + 1) ∧ (w.alloc (.cells cs t)).grownBy w' (some g) := by
  have hlt := h.lt
  refine (num_any p B g n c m w.heap.size k cap A _ (h.alloc _) hm (by omega) (by simp) hk0 hk1 (fun i hi => lit_at _ _ _ hL i (by omega))).mono ?_
  rintro e w1 ⟨z, rfl, hz, hr, hg⟩
  exact ⟨z, rfl, hz, hr, hg⟩
/- the reader stays while a row of another type grows -/
theorem Rd.row {w w' : World} {B0 B C g n c m : Nat} {T : TypeId} {A : Option Addr} {v : Value} {L : List (List Value)} (hrd : Rd w B0 g A n c m) (h : RowK w B T C v L) (hT : T ≠ 125) (hB : B0 ≤ B) (hby : w.grownBy w' v.ownBlock) : Rd w' B0 g A n c m := by
  obtain ⟨p, hp, hc⟩ := hrd.cells
  have hlt := hrd.lt
  refine ⟨hrd.lo, hrd.len, hrd.cap, ⟨p, hp, ?_⟩, hrd.code.keep fun b o hlb => World.cell?_of_block (hby.block b (by have := hrd.lo; omega) (fun e => by have := (h.own.lt b e.symm).1; omega))⟩
  rw [hby.block g hlt (own_ne h.own (b := g) hc hT)]; exact hc
end Go.Proofs.Ytckenfomnenknaa
end
