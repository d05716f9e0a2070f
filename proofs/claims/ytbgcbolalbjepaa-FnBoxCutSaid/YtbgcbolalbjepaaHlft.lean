import Derived.Deep.Cut
import Derived.Test.YtbgcbolalbjepaaQdt
import Derived.Test.YtbgcbolalbjepaaRayt
import Derived.Test.YtbgcbolalbjepaaUndt
namespace Go.Proofs.Ytbgcbolalbjepaa
open Go.ChangeShapes Go.WideShapes Go.ChangeAt Go.RowKit
set_option maxHeartbeats 1000000
set_option linter.unusedSimpArgs false
attribute [local go_sem] VGo_value VGo_skip VGo_enter

/- rows of half-spaces: four integers each, as spans are -/
abbrev HRow (w : World) (B : Nat) (v : Value) (l : List Qd) : Prop := RowK w B 74 4 v (l.map Qd.cells)
theorem HRow.seen {w : World} {B : Nat} {v : Value} {l : List Qd} (h : HRow w B v l) : QIn w v l := by
  obtain ⟨A, c, rfl, hA, _⟩ := h.shape
  rw [List.length_map] at hA h ⊢
  refine ⟨A, c, rfl, fun h0 => ?_⟩
  obtain ⟨g, rfl, _⟩ := hA h0
  refine ⟨g, 0, rfl, fun i hi => ?_⟩
  have hc : ∀ j, j < 4 → w.cell? ⟨g, i * 4 + j, none⟩ = (l[i].cells)[j]? := fun j hj => by
    have := h.cell (by simp) i j (by simpa using hi) hj
    simpa using this
  rw [Nat.zero_add]
  exact ⟨hc 0 (by omega), hc 1 (by omega), hc 2 (by omega), hc 3 (by omega)⟩
theorem HRow.shape0 {w : World} {B : Nat} {v : Value} {l : List Qd} (h : HRow w B v l) : ∃ A c, v = .slice A l.length c ∧ (0 < l.length → ∃ g, A = some ⟨g, 0, none⟩ ∧ B ≤ g ∧ g < w.heap.size) := by
  obtain ⟨A, c, hv, hA, _⟩ := h.shape
  rw [List.length_map] at hA hv
  exact ⟨A, c, hv, hA⟩
theorem HRow.four {w : World} {B g n c : Nat} {l : List Qd} (h : HRow w B (.slice (some ⟨g, 0, none⟩) n c) l) (hn : n = l.length) (i : Nat) (hi : i < l.length) : Quad w g (i * 4) l[i] := by
  obtain ⟨A, c', hv, h'⟩ := h.seen
  subst hn
  simp only [Value.slice.injEq] at hv
  obtain ⟨b, off, hA, hf⟩ := h' (by omega)
  rw [← hv.1] at hA
  simp only [Option.some.injEq, Addr.mk.injEq] at hA
  obtain ⟨rfl, rfl, _⟩ := hA
  have := hf i hi
  rwa [Nat.zero_add] at this

end Go.Proofs.Ytbgcbolalbjepaa
