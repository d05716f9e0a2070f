
import Derived.Test.YtegibpepdndocaaRd
import Derived.Test.YtegibpepdndocaaPost
namespace Go.Proofs.Ytegibpepdndocaa
open Go.ChangeShapes Go.WideShapes Go.ChangeAt Go.RowKit

theorem Try.cells5 : Try.prog.cellsOf 5 = 1 := by kernel_rfl
/- the bytes that a law gets, out of their reading -/
theorem code_of {H : Type} {enc : TypeId × Value → H} {W : World} {A : Option Addr} {n c : Nat} {d : DataW H} {p : List MemPlace}
    (h : DataW.Trod enc Try.prog W 0 (fun _ => true) true 48 (.slice A n c) d p) : n ≤ c ∧ c ≤ 9223372036854775807 ∧ Code W W.heap.size A n := by
  obtain ⟨fuel, hf⟩ := h
  rcases open_ints Try.underlying48 Try.underlying5 Try.cells5 hf with ⟨hc, _⟩ | ⟨a, len, cap, zs, hc, _, hl, hm, hz, _, hcell, hw⟩
  · simp [Value.cells] at hc
    obtain ⟨rfl, rfl, rfl⟩ := hc
    exact ⟨by omega, by omega, fun h => absurd h (by omega)⟩
  · simp [Value.cells] at hc
    obtain ⟨rfl, rfl, rfl⟩ := hc
    simp only [if_true] at hz
    have hm' : c ≤ 9223372036854775807 := by unfold maxLen at hm; omega
    refine ⟨hl, hm', fun h0 => ?_⟩
    obtain ⟨b, off, rfl, hc2⟩ := ints_at hcell (by omega)
    have hb := block_lt_of_cell (hc2 0 (by omega))
    refine ⟨b, off, rfl, hb, fun j hj => ?_⟩
    have hj2 : j < zs.length := by omega
    have hwf := hw (zs.getD j 0) (by rw [List.getD_eq_getElem?_getD, List.getElem?_eq_getElem hj2]; exact List.getElem_mem hj2)
    have hbd := bounds_u8 hwf
    exact ⟨zs.getD j 0, hbd.1, hbd.2, hc2 j hj2⟩
end Go.Proofs.Ytegibpepdndocaa
