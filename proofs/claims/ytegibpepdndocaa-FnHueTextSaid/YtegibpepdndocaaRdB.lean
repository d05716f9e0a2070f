
import Derived.Test.YtegibpepdndocaaDraw
import Derived.Test.YtegibpepdndocaaRow
namespace Go.Proofs.Ytegibpepdndocaa
open Go.ChangeShapes Go.WideShapes Go.ChangeAt Go.RowKit

/- the reader and blocks of one's own -/
/- a block of one's own stays while numbers are drawn -/
theorem Has.by_ {w w' : World} {b g : Nat} {cs : Array Value} {T : TypeId} (h : Has w b cs T) (hg : w.grownBy w' (some g)) (hne : b ≠ g) : Has w' b cs T := (hg.block b h.lt (by simpa using hne)).trans h
/- the reader stays while a block of one's own is set -/
theorem Rd.set {w : World} {B g b n c m : Nat} {A : Option Addr} (h : Rd w B g A n c m) (hB : B ≤ b) (hne : g ≠ b) (i : Nat) (v : Value) : Rd (w.setCell ⟨b, i, none⟩ v) B g A n c m := by
  obtain ⟨p, hp, hc⟩ := h.cells
  exact ⟨h.lo, h.len, h.cap, ⟨p, hp, (Below.heap_setCell w ⟨b, i, none⟩ v g hne).trans hc⟩, h.code.keep fun b' o hb => World.cell?_setCell_other w _ _ _ (fun e => by injection e with e1; omega)⟩
theorem lowBy {a w w' : World} {g : Nat} {B : Nat} (h : Below B a w) (hg : w.grownBy w' (some g)) (hB : B ≤ w.heap.size) (hlo : B ≤ g) : Below B a w' := h.grown hg hB (fun k hk => by injection hk with e; omega)
theorem gAlloc {a w : World} {r : Option Nat} (h : a.grownBy w r) (o : Obj) : a.grownBy (w.alloc o) r := by_trans h (World.grownBy_alloc w o r)
theorem gSetOwn {a w : World} {r : Option Nat} {p : Addr} (h : a.grownBy w r) (hp : a.heap.size ≤ p.block) (v : Value) : a.grownBy (w.setCell p v) r :=
  ⟨h.os, h.tape, h.output, by simpa using h.size, fun k hk hne => (Below.heap_setCell w p v k (by omega)).trans (h.block k hk hne)⟩
theorem Rd.call {w w' : World} {B g n c m : Nat} {A : Option Addr} (h : Rd w B g A n c m) (hb : Below w.heap.size w w') : Rd w' B g A n c m := h.below hb
theorem gBelow {a w w' : World} {r : Option Nat} (h : a.grownBy w r) (hb : Below w.heap.size w w') : a.grownBy w' r :=
  by_trans h ⟨hb.os, hb.tape, hb.output, hb.size, fun k hk _ => hb.block k hk⟩
theorem num_rd {w : World} {B g n c m : Nat} {A : Option Addr} {cs : Array Value} {t : TypeId} {k cap : Nat} (h : Rd w B g A n c m) (hm : m ≤ 1000000) (hk0 : 0 < k) (hk1 : k ≤ 1000) (hL : AllI (fun _ => True) cs.toList) (hk : k = cs.size) :
    Calls Try.prog 64 #[.pointer (some ⟨g, 0, none⟩), .slice (some ⟨w.heap.size, 0, none⟩) k cap] (w.alloc (.cells cs t)) fun e w' => ∃ z, e = .returned (.int .i64 z) ∧ Rd w' B g A n c (m + 1) ∧ (w.alloc (.cells cs t)).grownBy w' (some g) := by
  have hlt := h.lt
  refine (num_any (fun _ => True) B g n c m w.heap.size k cap A _ (h.alloc _) hm (by omega) (by simp) hk0 hk1 (fun i hi => lit_at _ _ _ hL i (by omega))).mono ?_
  rintro e w1 ⟨z, rfl, _, hr, hg⟩
  exact ⟨z, rfl, hr, hg⟩
theorem num_rdP {w : World} {B g n c m : Nat} {A : Option Addr} {cs : Array Value} {t : TypeId} {k cap : Nat} (p : Int → Prop) (h : Rd w B g A n c m) (hm : m ≤ 1000000) (hk0 : 0 < k) (hk1 : k ≤ 1000) (hL : AllI p cs.toList) (hk : k = cs.size) :
    Calls Try.prog 64 #[.pointer (some ⟨g, 0, none⟩), .slice (some ⟨w.heap.size, 0, none⟩) k cap] (w.alloc (.cells cs t)) fun e w' => ∃ z, e = .returned (.int .i64 z) ∧ p z ∧ Rd w' B g A n c (m + 1) ∧ (w.alloc (.cells cs t)).grownBy w' (some g) := by
  have hlt := h.lt
  refine (num_any p B g n c m w.heap.size k cap A _ (h.alloc _) hm (by omega) (by simp) hk0 hk1 (fun i hi => lit_at _ _ _ hL i (by omega))).mono ?_
  rintro e w1 ⟨z, rfl, hz, hr, hg⟩
  exact ⟨z, rfl, hz, hr, hg⟩
/- a row stays while numbers are drawn -/
theorem RowK.pick {w w' : World} {B0 B C g n c m : Nat} {T : TypeId} {A : Option Addr} {v : Value} {L : List (List Value)} (h : RowK w B T C v L) (hrd : Rd w B0 g A n c m) (hT : T ≠ 77) (hby : w.grownBy w' (some g)) : RowK w' B T C v L := by
  obtain ⟨p, _, hc⟩ := hrd.cells
  exact h.kept hby (.inr fun e => own_ne h.own (b := g) hc hT e.symm)
/- the reader stays while a row of another type grows -/
theorem Rd.row {w w' : World} {B0 B C g n c m : Nat} {T : TypeId} {A : Option Addr} {v : Value} {L : List (List Value)} (hrd : Rd w B0 g A n c m) (h : RowK w B T C v L) (hT : T ≠ 77) (hB : B0 ≤ B) (hby : w.grownBy w' v.ownBlock) : Rd w' B0 g A n c m := by
  obtain ⟨p, hp, hc⟩ := hrd.cells
  have hlt := hrd.lt
  refine ⟨hrd.lo, hrd.len, hrd.cap, ⟨p, hp, ?_⟩, hrd.code.keep fun b o hlb => World.cell?_of_block (hby.block b (by have := hrd.lo; omega) (fun e => by have := (h.own.lt b e.symm).1; omega))⟩
  rw [hby.block g hlt (own_ne h.own (b := g) hc hT)]; exact hc
/- what grows of one's own, while a reader is asked -/
theorem gRow {a w w' : World} {B C g : Nat} {T : TypeId} {v : Value} {L : List (List Value)} (h : a.grownBy w (some g)) (hr : RowK w B T C v L) (hB : a.heap.size ≤ B) (hby : w.grownBy w' v.ownBlock) : a.grownBy w' (some g) :=
  ⟨hby.os.trans h.os, hby.tape.trans h.tape, hby.output.trans h.output, Nat.le_trans h.size hby.size, fun k hk hne => (hby.block k (Nat.lt_of_lt_of_le hk h.size) (fun e => by have := (hr.own.lt k e.symm).1; omega)).trans (h.block k hk hne)⟩
end Go.Proofs.Ytegibpepdndocaa
