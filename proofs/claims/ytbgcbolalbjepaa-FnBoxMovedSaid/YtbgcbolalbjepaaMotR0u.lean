import Derived.Deep.Cut
import Derived.LoopN
import Derived.Outline
import Derived.OwnWalk
import Derived.Test.YtbgcbolalbjepaaEndu
import Derived.Test.YtbgcbolalbjepaaIntsu
import Derived.Test.YtbgcbolalbjepaaMotHu
import Derived.Test.YtbgcbolalbjepaaMotMu
namespace Go.Proofs.Ytbgcbolalbjepaa
open Go.ChangeShapes Go.WideShapes Go.ChangeAt Go.RowKit
set_option maxHeartbeats 4000000
set_option maxRecDepth 8000

/- the 48 motions that do not move, cell by cell -/
def axs : Nat → Int × Int × Int
  | 0 => (0, 1, 2)
  | 1 => (0, 2, 1)
  | 2 => (1, 0, 2)
  | 3 => (1, 2, 0)
  | 4 => (2, 0, 1)
  | _ => (2, 1, 0)
def bt (d k : Nat) : Bool := d / 2 ^ k % 2 == 1
def moC (a b c : Int) (k l n : Bool) (x y z : Int) : List Value := [.int .i64 a, .int .i64 b, .int .i64 c, .bool k, .bool l, .bool n, .int .i64 x, .int .i64 y, .int .i64 z]
def moN (i : Nat) : List Value := moC (axs (i / 8)).1 (axs (i / 8)).2.1 (axs (i / 8)).2.2 (bt (i % 8) 0) (bt (i % 8) 1) (bt (i % 8) 2) 0 0 0
def mots (n : Nat) : List Value := (List.range n).flatMap moN
theorem mots_succ (n : Nat) : mots (n + 1) = mots n ++ moN n := by simp [mots, List.range_succ]
theorem moN_len (n : Nat) : (moN n).length = 9 := rfl
theorem mots_len (n : Nat) : (mots n).length = n * 9 := by
  induction n with
  | zero => rfl
  | succ n ih => rw [mots_succ, List.length_append, ih, moN_len]; omega
theorem mots_get (n i c : Nat) (hi : i < n) (hc : c < 9) : (mots n)[i * 9 + c]? = (moN i)[c]? := by
  induction n with
  | zero => omega
  | succ n ih =>
    rw [mots_succ, List.getElem?_append, mots_len]
    by_cases h : i < n
    · rw [if_pos (by omega)]; exact ih h
    · obtain rfl : i = n := by omega
      rw [if_neg (by omega)]
      congr 1; omega
abbrev MRow (w : World) (B : Nat) (v : Value) (n : Nat) : Prop := w.ownsRow B 54 9 v n (mots n)
theorem infoM : (Try.prog.info? 54).map (fun i => (i.zero, i.size, i.bytes)) = some (some (.agg #[.int .i64 0, .int .i64 0, .int .i64 0, .bool false, .bool false, .bool false, .int .i64 0, .int .i64 0, .int .i64 0]), 9, 56) := by kernel_rfl
theorem append_mot (wr : World) {ops : Array Oper} {rest : List Oper} {o : Oper} {a : Act} {Q : Exit → Act → World → Prop} (hgd : o.guard = none) (s x : Operand)
    (ho : o.op = .call { callee := .builtin .append, args := #[s, x], argTypes := #[122, 122] })
    (B : Nat) (v : Value) (n : Nat) (cs : Array Value) (hr : MRow wr B v n) (hcs : cs.toList = moN n) (hs : a.eval s = v) (b : Nat) (hx : a.eval x = .slice (some ⟨b, 0, none⟩) 1 1) (hbl : b = wr.heap.size) (hn : n < 1000000) (hB : B ≤ wr.heap.size)
    (hK : ∀ v' w', MRow w' B v' (n + 1) → wr.grownBy w' v.ownBlock → wpList Try.prog ops Q rest (a.put o.dst v') w') :
    wpList Try.prog ops Q (o :: rest) a (wr.alloc (.cells cs 54)) := by
  subst hbl
  obtain ⟨i0, hi, hz0, hz1, hz2⟩ := info_parts infoM
  refine wpList_append_own _ hgd s x 122 ho B 54 i0 (.agg #[.int .i64 0, .int .i64 0, .int .i64 0, .bool false, .bool false, .bool false, .int .i64 0, .int .i64 0, .int .i64 0]) 9 56 Try.underlying122 hi hz0 hz1 hz2 rfl (by decide) v _ _ hs (World.ownsRow.alloc hr _) ⟨wr.heap.size, 0, none⟩ 1 1 (moN n) hx rfl ?_ ?_ ?_ ?_ ?_ ?_
  · intro j u hu
    rw [addr_add, cell_of_row (wr.alloc (.cells cs 54)) wr.heap.size j cs 54 (0, 0) (heap_alloc_new wr _), ← hu, ← hcs]
    simp
  · intro u hu
    simp only [moN, moC, List.mem_cons, List.not_mem_nil, or_false] at hu
    rcases hu with rfl | rfl | rfl | rfl | rfl | rfl | rfl | rfl | rfl <;> rfl
  · unfold maxLen; omega
  · omega
  · rw [World.size_alloc]; omega
  · intro v' w' h1 h2 _
    exact hK v' w' (by rw [MRow, mots_succ]; exact h1) (by_trans (World.grownBy_alloc wr _ _) h2)
theorem MRow.alloc {w : World} {B n : Nat} {v : Value} (h : MRow w B v n) (o : Obj) : MRow (w.alloc o) B v n := World.ownsRow.alloc h o
theorem MRow.below {w w' : World} {B n : Nat} {v : Value} (h : MRow w B v n) (hb : Below w.heap.size w w') : MRow w' B v n :=
  World.ownsRow.kept h (row := none) ⟨hb.os, hb.tape, hb.output, hb.size, fun k hk _ => hb.block k hk⟩ (by cases v.ownBlock <;> simp)
theorem eight (d : Nat) (h : d ≤ 8) : d = 0 ∨ d = 1 ∨ d = 2 ∨ d = 3 ∨ d = 4 ∨ d = 5 ∨ d = 6 ∨ d = 7 ∨ d = 8 := by omega
end Go.Proofs.Ytbgcbolalbjepaa
