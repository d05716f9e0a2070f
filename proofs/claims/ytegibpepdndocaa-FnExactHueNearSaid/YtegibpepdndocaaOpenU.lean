
import Derived.Test.YtegibpepdndocaaHuS
import Derived.Test.YtegibpepdndocaaFlat
import Derived.Test.YtegibpepdndocaaPost
import Derived.Deep.Slices
namespace Go.Proofs.Ytegibpepdndocaa
open Go.ChangeShapes Go.WideShapes Go.ChangeAt Go.RowKit

/- a list of structs of integers that a law gets, out of its reading: each cell of each element -/
theorem helems_of {H : Type} {enc : TypeId × Value → H} {P : Program} {W : World} {t e : TypeId} {A : Option Addr} {n c : Nat} {d : DataW H} {p : List MemPlace} (ht : P.underlying t = some (.slice e))
    (C : Nat) (hC : P.cellsOf e = C) (hC0 : 0 < C) (hk : ∀ j, j < C → kindAt P 9 e j = some (some .i64)) (h : DataW.Trod enc P W 0 (fun _ => true) true t (.slice A n c) d p) :
    n ≤ 9223372036854775807 ∧ (0 < n → ∃ b off, A = some ⟨b, off, none⟩ ∧ ∀ i j, i < n → j < C → ∃ z, W.cell? ⟨b, off + i * C + j, none⟩ = some (.int .i64 z)) := by
  obtain ⟨fuel, hf⟩ := h
  rcases Go.Deep.open_slice ht hf with ⟨hc, _⟩ | ⟨a, len, cap, m, n0, D, Pl, hc, _, hl, hm, hmm, _, hel⟩
  · simp [Value.cells] at hc
    obtain ⟨rfl, rfl, rfl⟩ := hc
    exact ⟨by omega, fun h => by omega⟩
  · simp [Value.cells] at hc
    obtain ⟨rfl, rfl, rfl⟩ := hc
    simp only [if_true] at hmm
    have hm' : c ≤ 9223372036854775807 := by unfold maxLen at hm; omega
    refine ⟨by omega, fun h0 => ?_⟩
    have each : ∀ i j, i < n → j < C → ∃ z, W.cell? ((a.add (i * C)).add j) = some (.int .i64 z) := fun i j hi hj => by
      obtain ⟨cs', h1, h2⟩ := hel i (by omega)
      rw [hC] at h1
      obtain ⟨_, _, h3⟩ := World.cells?_some h1
      obtain ⟨v, hv, z, rfl, _⟩ := kindAt_spec 9 e j n0 cs' _ _ h2 (hk j hj)
      exact ⟨z, by rw [h3 j hj, hv]⟩
    obtain ⟨b, off, spot⟩ := a
    obtain ⟨z0, hz0⟩ := each 0 0 h0 hC0
    have hspot : spot = none := by
      have := World.cell?_spot hz0
      simpa [Addr.add] using this
    subst hspot
    refine ⟨b, off, rfl, fun i j hi hj => ?_⟩
    obtain ⟨z, hz⟩ := each i j hi hj
    rw [Go.WideShapes.add_plain, Go.WideShapes.add_plain] at hz
    exact ⟨z, hz⟩
set_option maxRecDepth 100000 in
theorem hues_of {H : Type} {enc : TypeId × Value → H} {W : World} {A : Option Addr} {n c : Nat} {d : DataW H} {p : List MemPlace}
    (h : DataW.Trod enc Try.prog W 0 (fun _ => true) true 36 (.slice A n c) d p) : ∃ l, HuIn W (.slice A n c) l ∧ l.length ≤ 9223372036854775807 := by
  have k0 : kindAt Try.prog 9 23 0 = some (some .i64) := by kernel_rfl
  have k1 : kindAt Try.prog 9 23 1 = some (some .i64) := by kernel_rfl
  have k2 : kindAt Try.prog 9 23 2 = some (some .i64) := by kernel_rfl
  obtain ⟨hn, hr⟩ := helems_of Try.underlying36 3 (by kernel_rfl) (by omega) (fun j hj => by
    have : j = 0 ∨ j = 1 ∨ j = 2 := by omega
    rcases this with rfl | rfl | rfl
    · exact k0
    · exact k1
    · exact k2) h
  by_cases h0 : 0 < n
  · obtain ⟨b, off, rfl, hc⟩ := hr h0
    obtain ⟨f, hf⟩ := Go.Deep.choose_lt (n := n) (p := fun i s => Tri W b (off + i * 3) s) fun i hi => by
      obtain ⟨z0, e0⟩ := hc i 0 hi (by omega)
      obtain ⟨z1, e1⟩ := hc i 1 hi (by omega)
      obtain ⟨z2, e2⟩ := hc i 2 hi (by omega)
      exact ⟨⟨z0, z1, z2⟩, e0, e1, e2⟩
    exact ⟨(List.range n).map f, ⟨some ⟨b, off, none⟩, c, by simp, fun _ => ⟨b, off, rfl, fun i hi => by simpa using hf i (by simpa using hi)⟩⟩, by simpa using hn⟩
  · obtain rfl : n = 0 := by omega
    exact ⟨[], ⟨A, c, rfl, fun h => absurd h (by simp)⟩, by simp⟩
end Go.Proofs.Ytegibpepdndocaa
