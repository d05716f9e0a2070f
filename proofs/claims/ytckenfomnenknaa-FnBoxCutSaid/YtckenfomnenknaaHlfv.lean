import Derived.Deep.Cut
import Derived.Test.YtckenfomnenknaaBoxIv
import Derived.Test.YtckenfomnenknaaEndv
import Derived.Test.YtckenfomnenknaaRayHv
import Derived.Test.YtckenfomnenknaaRayv
import Derived.Test.YtckenfomnenknaaRowv
import Derived.Test.YtckenfomnenknaaUndv
section
namespace Go.Proofs.Ytckenfomnenknaa
open Go.ChangeShapes Go.WideShapes Go.ChangeAt Go.RowKit
set_option linter.unusedSimpArgs false
set_option linter.unusedVariables false
set_option maxHeartbeats 4000000

/- two half-spaces of a box against its slab on that axis: x1 y1 of the lower face, x2 y2 of the upper one -/
theorem faces {l h f t F1 F2 x1 y1 x2 y2 X Y : Int} (hl : -800 ≤ l ∧ l ≤ 800) (hh : -800 ≤ h ∧ h ≤ 800) (hf : -800 ≤ f ∧ f ≤ 800) (s : SlE l h f t X Y)
    (e1 : ((-l - -f) * 4096).fdiv (-t) = F1) (c1 : CutE (-l) (-f) (-t) F1 x1 y1) (e2 : ((h - f) * 4096).fdiv t = F2) (c2 : CutE h f t F2 x2 y2) :
    max x1 x2 = X ∧ min y1 y2 = Y ∧ (-1073741824 ≤ X ∧ X ≤ 1073741824 ∧ -1073741824 ≤ Y ∧ Y ≤ 1073741824) ∧ (x1 = y1 ∨ x2 = y2 → X = 0 ∧ Y = 0) := by
  have dv : ∀ {k t : Int}, 0 < t → -6553600 ≤ k → k ≤ 6553600 → -6553600 ≤ k.fdiv t ∧ k.fdiv t ≤ 6553600 := fun {k t} ht h1 h2 => by
    constructor
    · rw [fdiv_le ht]
      have : 6553600 * 1 ≤ 6553600 * t := Int.mul_le_mul_of_nonneg_left (by omega) (by omega)
      omega
    · false_or_by_contra
      rename_i hc
      have h3 : (6553601 : Int) ≤ k.fdiv t := by omega
      rw [fdiv_le ht] at h3
      have : 6553601 * 1 ≤ 6553601 * t := Int.mul_le_mul_of_nonneg_left (by omega) (by omega)
      omega
  have g1 : ((l - f) * 4096).fdiv t = F1 := by rw [← e1, fdiv_neg' _ t]; congr 1; omega
  have b1 : t ≠ 0 → -6553600 ≤ F1 ∧ F1 ≤ 6553600 := fun h0 => by
    by_cases ht : 0 < t
    · rw [← g1]; exact dv ht (by omega) (by omega)
    · rw [← e1]; exact dv (by omega) (by omega) (by omega)
  have b2 : t ≠ 0 → -6553600 ≤ F2 ∧ F2 ≤ 6553600 := fun h0 => by
    by_cases ht : 0 < t
    · rw [← e2]; exact dv ht (by omega) (by omega)
    · rw [← e2, fdiv_neg' _ t]; exact dv (by omega) (by omega) (by omega)
  unfold CutE at c1 c2
  rcases s with ⟨c, h1, h2⟩ | ⟨c, h1, h2⟩ | ⟨rfl, h1, h2, rfl, rfl⟩ | ⟨rfl, h1, rfl, rfl⟩
  · have b1 := b1 (by omega)
    have b2 := b2 (by omega)
    omega
  · have b1 := b1 (by omega)
    have b2 := b2 (by omega)
    omega
  · omega
  · omega
end Go.Proofs.Ytckenfomnenknaa
end
section
namespace Go.Proofs.Ytckenfomnenknaa
open Go.ChangeShapes Go.WideShapes Go.ChangeAt Go.RowKit
set_option maxHeartbeats 1000000
set_option linter.unusedSimpArgs false

/- four integers that stand in a row: half-spaces, keys -/
structure Qd where
  f : Int
  t : Int
  i : Int
  o : Int
def Qd.cells (s : Qd) : List Value := [.int .i64 s.f, .int .i64 s.t, .int .i64 s.i, .int .i64 s.o]
abbrev Qd.val (s : Qd) : Value := .agg #[.int .i64 (s.f), .int .i64 (s.t), .int .i64 (s.i), .int .i64 (s.o)]
def Quad (w : World) (b k : Nat) (s : Qd) : Prop :=
  w.cell? ⟨b, k, none⟩ = some (.int .i64 s.f) ∧ w.cell? ⟨b, k + 1, none⟩ = some (.int .i64 s.t) ∧ w.cell? ⟨b, k + 2, none⟩ = some (.int .i64 s.i) ∧ w.cell? ⟨b, k + 3, none⟩ = some (.int .i64 s.o)
theorem qcell_lift {w w' : World} {a : Addr} {u : Value} (h : w.cell? a = some u) (he : w'.heap[a.block]? = w.heap[a.block]?) : w'.cell? a = some u := by rw [World.cell?_of_block he]; exact h
theorem Quad.lift {w w' : World} {b k : Nat} {s : Qd} (h : Quad w b k s) (he : w'.heap[b]? = w.heap[b]?) : Quad w' b k s := by
  obtain ⟨h0, h1, h2, h3⟩ := h
  exact ⟨qcell_lift h0 he, qcell_lift h1 he, qcell_lift h2 he, qcell_lift h3 he⟩
theorem Quad.lt {w : World} {b k : Nat} {s : Qd} (h : Quad w b k s) : b < w.heap.size := block_lt_of_cell h.1
theorem Quad.below {w w' : World} {b k : Nat} {s : Qd} (h : Quad w b k s) (hb : Below w.heap.size w w') : Quad w' b k s := h.lift (hb.block b h.lt)
def QIn (w : World) (v : Value) (l : List Qd) : Prop := ∃ A c, v = .slice A l.length c ∧ (0 < l.length → ∃ b off, A = some ⟨b, off, none⟩ ∧ ∀ i (h : i < l.length), Quad w b (off + i * 4) l[i])
theorem QIn.lift {w w' : World} {v : Value} {l : List Qd} (h : QIn w v l) (he : ∀ b, v.ownBlock = some b → b < w.heap.size → w'.heap[b]? = w.heap[b]?) : QIn w' v l := by
  obtain ⟨A, c, rfl, h⟩ := h
  refine ⟨A, c, rfl, fun h0 => ?_⟩
  obtain ⟨b, off, rfl, hf⟩ := h h0
  exact ⟨b, off, rfl, fun i hi => (hf i hi).lift (he b rfl (hf i hi).lt)⟩
theorem QIn.below {w w' : World} {v : Value} {l : List Qd} (h : QIn w v l) (hb : Below w.heap.size w w') : QIn w' v l := h.lift fun b _ hlt => hb.block b hlt
theorem qcells_len {l : List Qd} : ∀ x ∈ l.map Qd.cells, x.length = 4 := fun x hx => by obtain ⟨s, _, rfl⟩ := List.mem_map.1 hx; rfl
end Go.Proofs.Ytckenfomnenknaa
end
section
namespace Go.Proofs.Ytckenfomnenknaa
open Go.ChangeShapes Go.WideShapes Go.ChangeAt Go.RowKit
set_option maxHeartbeats 1000000
set_option linter.unusedSimpArgs false
attribute [local go_sem] VGo_value VGo_skip VGo_enter

/- rows of half-spaces: four integers each, as spans are -/
abbrev HRow (w : World) (B : Nat) (v : Value) (l : List Qd) : Prop := RowK w B 38 4 v (l.map Qd.cells)
theorem HRow.seen {w : World} {B : Nat} {v : Value} {l : List Qd} (h : HRow w B v l) : QIn w v l := by
  obtain ⟨A, c, rfl, hA, _⟩ := h.shape
  rw [List.length_map] at hA h ⊢
  refine ⟨A, c, rfl, fun h0 => ?_⟩
  obtain ⟨g, rfl, _⟩ := hA h0
  refine ⟨g, 0, rfl, fun i hi => ?_⟩
  have hc : ∀ j, j < 4 → w.cell? ⟨g, i * 4 + j, none⟩ = (l[i].cells)[j]? := fun j hj => by
    have := h.cell (by simp) i j (by simpa using hi) hj
    simpa using this
  rw [Nat.zero_add]
  exact ⟨hc 0 (by omega), hc 1 (by omega), hc 2 (by omega), hc 3 (by omega)⟩
theorem HRow.shape0 {w : World} {B : Nat} {v : Value} {l : List Qd} (h : HRow w B v l) : ∃ A c, v = .slice A l.length c ∧ (0 < l.length → ∃ g, A = some ⟨g, 0, none⟩ ∧ B ≤ g ∧ g < w.heap.size) := by
  obtain ⟨A, c, hv, hA, _⟩ := h.shape
  rw [List.length_map] at hA hv
  exact ⟨A, c, hv, hA⟩
theorem HRow.four {w : World} {B g n c : Nat} {l : List Qd} (h : HRow w B (.slice (some ⟨g, 0, none⟩) n c) l) (hn : n = l.length) (i : Nat) (hi : i < l.length) : Quad w g (i * 4) l[i] := by
  obtain ⟨A, c', hv, h'⟩ := h.seen
  subst hn
  simp only [Value.slice.injEq] at hv
  obtain ⟨b, off, hA, hf⟩ := h' (by omega)
  rw [← hv.1] at hA
  simp only [Option.some.injEq, Addr.mk.injEq] at hA
  obtain ⟨rfl, rfl, _⟩ := hA
  have := hf i hi
  rwa [Nat.zero_add] at this

end Go.Proofs.Ytckenfomnenknaa
end
