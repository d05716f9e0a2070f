
import Derived.Test.YtegibpepdndocaaNum2
import Derived.OwnWalk
import Derived.Deep.OwnRows
import Derived.Below
import Derived.Outline
namespace Go.Proofs.Ytegibpepdndocaa
open Go.ChangeShapes Go.WideShapes Go.ChangeAt Go.RowKit

/- slices of integers -/
abbrev ints (zs : List Int) : List Value := zs.map (Value.int .i64)
/- the slice value v of world w lies alone in a block from B on and reads as zs -/
def Row (w : World) (B : Nat) (v : Value) (zs : List Int) : Prop := w.ownsRow B 3 1 v zs.length (ints zs)

theorem row_shape {w : World} {B : Nat} {v : Value} {zs : List Int} (h : Row w B v zs) : ∃ A c, v = .slice A zs.length c ∧ (0 < zs.length → ∃ g, A = some ⟨g, 0, none⟩) := by
  rcases h.2 with ⟨h', hn⟩ | ⟨g, cap, cur, h', hb, hg, hnc, hcm, hcs, htake⟩
  · exact ⟨none, 0, by rw [h', hn], fun h => by omega⟩
  · exact ⟨some ⟨g, 0, none⟩, cap, h', fun _ => ⟨g, rfl⟩⟩
theorem row_cell {w : World} {B g n c : Nat} {zs : List Int} (h : Row w B (.slice (some ⟨g, 0, none⟩) n c) zs) (hn : n = zs.length) (k : Nat) (z : Int) (hk : zs[k]? = some z) : w.cell? ⟨g, k, none⟩ = some (.int .i64 z) := by
  subst hn
  have hlt : k < zs.length := (List.getElem?_eq_some_iff.1 hk).1
  have h1 := World.ownsRow.cellAt h k (by omega)
  rw [h1]; simp [ints, hk]
theorem row_frozen {w : World} {B g n c : Nat} {zs : List Int} (h : Row w B (.slice (some ⟨g, 0, none⟩) n c) zs) (hn : n = zs.length) (k : Nat) : w.frozen? ⟨g, k, none⟩ = false := by
  subst hn; exact World.ownsRow.frozenAt h k

theorem row_of {w : World} {B n : Nat} {v : Value} {zs : List Int} (hn : n = zs.length) (h : w.ownsRow B 3 1 v n (ints zs)) : Row w B v zs := by subst hn; exact h
theorem by_trans {a b c : World} {r : Option Nat} (h : a.grownBy b r) (k : b.grownBy c r) : a.grownBy c r :=
  ⟨k.os.trans h.os, k.tape.trans h.tape, k.output.trans h.output, Nat.le_trans h.size k.size, fun i hi hn => (k.block i (Nat.lt_of_lt_of_le hi h.size) hn).trans (h.block i hi hn)⟩

/- the numbers K, K+1, .. -/
def marks (K : Int) (n : Nat) : List Int := (List.range n).map fun (i : Nat) => K + i
theorem marks_len (K : Int) (n : Nat) : (marks K n).length = n := by simp [marks]
theorem marks_get (K : Int) (n k : Nat) (h : k < n) : (marks K n)[k]? = some (K + k) := by simp [marks, h]
theorem marks_set (K : Int) (zs : List Int) (j : Nat) (h : j < zs.length) : (ints (marks K j ++ zs.drop j)).set j (.int .i64 (K + j)) = ints (marks K (j + 1) ++ zs.drop (j + 1)) := by
  apply List.ext_getElem?
  intro i
  simp only [ints, List.getElem?_set, List.getElem?_map, List.getElem?_append, marks_len, List.getElem?_drop, List.length_map, List.length_append, List.length_drop]
  by_cases h1 : j = i
  · subst h1
    rw [if_pos rfl, if_pos (by omega), if_pos (by omega), marks_get K (j + 1) j (by omega)]
    rfl
  · rw [if_neg h1]
    by_cases h2 : i < j
    · rw [if_pos h2, if_pos (by omega), marks_get K j i h2, marks_get K (j + 1) i (by omega)]
    · rw [if_neg h2, if_neg (by omega)]
      congr 2
      omega
theorem info : (Try.prog.info? 3).map (fun i => (i.zero, i.size, i.bytes)) = some (some (.int .i64 0), 1, 8) := by kernel_rfl
/- 'append(v, z)' -/
theorem append_int (wr : World) {ops : Array Oper} {rest : List Oper} {o : Oper} {a : Act} {Q : Exit → Act → World → Prop} (hgd : o.guard = none) (s x : Operand)
    (ho : o.op = .call { callee := .builtin .append, args := #[s, x], argTypes := #[71, 71] })
    (B : Nat) (v : Value) (zs : List Int) (z : Int) (hr : Row wr B v zs) (hs : a.eval s = v) (hx : a.eval x = .slice (some ⟨wr.heap.size, 0, none⟩) 1 1) (hlen : zs.length < 1000000000) (hB : B ≤ wr.heap.size)
    (hK : ∀ v' w', Row w' B v' (zs ++ [z]) → wr.grownBy w' v.ownBlock → wpList Try.prog ops Q rest (a.put o.dst v') w') :
    wpList Try.prog ops Q (o :: rest) a (wr.alloc (.cells #[.int .i64 z] 3)) := by
  obtain ⟨i0, hi, hz0, hz1, hz2⟩ := info_parts info
  refine wpList_append_own _ hgd s x 71 ho B 3 i0 (.int .i64 0) 1 8 Try.underlying71 hi hz0 hz1 hz2 rfl (by decide) v _ _ hs (World.ownsRow.alloc hr _) ⟨wr.heap.size, 0, none⟩ 1 1 [.int .i64 z] hx rfl ?_ ?_ ?_ ?_ ?_ ?_
  · intro j u hu
    match j, hu with
    | 0, hu =>
      obtain rfl : Value.int .i64 z = u := by simpa using hu
      show (wr.alloc (.cells #[.int .i64 z] 3)).cell? ⟨wr.heap.size, 0, none⟩ = _
      rw [World.cell?_alloc_at _ _ _ _ rfl]; rfl
    | j + 1, hu => simp at hu
  · intro u hu
    simp only [List.mem_singleton] at hu
    subst hu; rfl
  · unfold maxLen; omega
  · omega
  · rw [World.size_alloc]; omega
  · intro v' w' h1 h2 _
    exact hK v' w' (row_of (n := zs.length + 1) (by simp) (by simpa [ints] using h1)) (by_trans (World.grownBy_alloc wr _ _) h2)
end Go.Proofs.Ytegibpepdndocaa
