import Derived.Deep.Cut
import Derived.LoopN
import Derived.Test.YtckenfomnenknaaHeldv
import Derived.Test.YtckenfomnenknaaIntsv
namespace Go.Proofs.Ytckenfomnenknaa
open Go.ChangeShapes Go.WideShapes Go.ChangeAt Go.RowKit

/- a block of another type, or below the row's base, is not the row's -/
theorem own_ne {w : World} {B b n : Nat} {e T : TypeId} {v : Value} {xs : List Value} {cs : Array Value} {sz : Nat} (hr : w.ownsRow B e sz v n xs) (hb : Has w b cs T) (he : e ≠ T) : some b ≠ v.ownBlock := by
  rcases hr.2 with ⟨rfl, _⟩ | ⟨g, cap, cur, rfl, _, hg, _⟩
  · simp [Value.ownBlock]
  · intro h
    have : g = b := by simpa [Value.ownBlock] using h.symm
    subst this
    unfold Has at hb
    rw [hg] at hb
    simp only [Option.some.injEq, Obj.cells.injEq] at hb
    exact he hb.2.1
theorem own_fresh {w : World} {B n : Nat} {e : TypeId} {v : Value} {xs : List Value} {sz : Nat} (hr : w.ownsRow B e sz v n xs) : some w.heap.size ≠ v.ownBlock := by
  intro h
  have := (hr.lt _ h.symm).2
  omega
theorem Has.grown {w w' : World} {b : Nat} {cs : Array Value} {T : TypeId} {row : Option Nat} (h : Has w b cs T) (hg : w.grownBy w' row) (hne : some b ≠ row) : Has w' b cs T := (hg.block b h.lt hne).trans h
theorem own_below {w w' : World} {B n sz : Nat} {e : TypeId} {v : Value} {xs : List Value} (h : w.ownsRow B e sz v n xs) (hb : Below w.heap.size w w') : w'.ownsRow B e sz v n xs :=
  World.ownsRow.kept h (row := none) ⟨hb.os, hb.tape, hb.output, hb.size, fun k hk _ => hb.block k hk⟩ (by cases v.ownBlock <;> simp)
theorem own_set {w : World} {B n sz b i : Nat} {e : TypeId} {v u : Value} {xs : List Value} (h : w.ownsRow B e sz v n xs) (hne : some b ≠ v.ownBlock) : (w.setCell ⟨b, i, none⟩ u).ownsRow B e sz v n xs := by
  refine ⟨h.1, h.2.imp id fun ⟨g, cap, cur, hv, hg, hh, r⟩ => ⟨g, cap, cur, hv, hg, ?_, r⟩⟩
  subst hv
  exact (Below.heap_setCell w ⟨b, i, none⟩ u g (fun e => hne (by simp [Value.ownBlock, e]))).trans hh
theorem Has.as {w : World} {b : Nat} {cs cs' : Array Value} {T : TypeId} (h : Has w b cs T) (e : cs = cs') : Has w b cs' T := e ▸ h

/- a list of elements of K cells each, by index -/
theorem flat_len {K : Nat} : ∀ {L : List (List Value)}, (∀ x ∈ L, x.length = K) → L.flatten.length = L.length * K
  | [], _ => by simp
  | x :: L, h => by
    have := flat_len (L := L) (fun y hy => h y (by simp [hy]))
    rw [List.flatten_cons, List.length_append, this, h x (by simp), List.length_cons, Nat.succ_mul, Nat.add_comm]
theorem flat_get {K : Nat} : ∀ {L : List (List Value)}, (∀ x ∈ L, x.length = K) → ∀ (i c : Nat) (hi : i < L.length), c < K → L.flatten[i * K + c]? = (L[i])[c]?
  | x :: L, h, 0, c, _, hc => by
    rw [List.flatten_cons, Nat.zero_mul, Nat.zero_add, List.getElem?_append_left (by rw [h x (by simp)]; exact hc)]; rfl
  | x :: L, h, i + 1, c, hi, hc => by
    have hx := h x (by simp)
    rw [List.flatten_cons, List.getElem?_append_right (by rw [hx, Nat.succ_mul]; omega), hx, show (i + 1) * K + c - K = i * K + c by rw [Nat.succ_mul]; omega]
    exact flat_get (fun y hy => h y (by simp [hy])) i c (by simpa using hi) hc

/- the slice value v owns elements of K cells -/
structure RowK (w : World) (B : Nat) (T : TypeId) (K : Nat) (v : Value) (L : List (List Value)) : Prop where
  own : w.ownsRow B T K v L.length L.flatten
  each : ∀ x ∈ L, x.length = K
theorem RowK.shape {w : World} {B K : Nat} {T : TypeId} {v : Value} {L : List (List Value)} (h : RowK w B T K v L) : ∃ A c, v = .slice A L.length c ∧ (0 < L.length → ∃ g, A = some ⟨g, 0, none⟩ ∧ B ≤ g ∧ g < w.heap.size) ∧ (L.length = 0 → A = none ∧ c = 0 ∨ ∃ g, A = some ⟨g, 0, none⟩) := by
  rcases h.own.2 with ⟨h', hn⟩ | ⟨g, cap, cur, h', hb, hg, _⟩
  · exact ⟨none, 0, by rw [h', hn], fun h => by omega, fun _ => .inl ⟨rfl, rfl⟩⟩
  · exact ⟨some ⟨g, 0, none⟩, cap, h', fun _ => ⟨g, rfl, hb, (Array.getElem?_eq_some_iff.1 hg).1⟩, fun _ => .inr ⟨g, rfl⟩⟩
theorem RowK.cell {w : World} {B K g n c : Nat} {T : TypeId} {L : List (List Value)} (h : RowK w B T K (.slice (some ⟨g, 0, none⟩) n c) L) (hn : n = L.length) (i j : Nat) (hi : i < L.length) (hj : j < K) : w.cell? ⟨g, i * K + j, none⟩ = (L[i])[j]? := by
  subst hn
  have hlt : i * K + j < L.length * K := by
    have : (i + 1) * K ≤ L.length * K := Nat.mul_le_mul_right _ hi
    rw [Nat.succ_mul] at this; omega
  rw [World.ownsRow.cellAt h.own _ hlt, flat_get h.each i j hi hj]
theorem RowK.frozen {w : World} {B K g n c : Nat} {T : TypeId} {L : List (List Value)} (h : RowK w B T K (.slice (some ⟨g, 0, none⟩) n c) L) (hn : n = L.length) (k : Nat) : w.frozen? ⟨g, k, none⟩ = false := by
  subst hn; exact World.ownsRow.frozenAt h.own k
theorem RowK.below {w w' : World} {B K : Nat} {T : TypeId} {v : Value} {L : List (List Value)} (h : RowK w B T K v L) (hb : Below w.heap.size w w') : RowK w' B T K v L := ⟨own_below h.own hb, h.each⟩
theorem RowK.drew {w : World} {B K : Nat} {T : TypeId} {v : Value} {L : List (List Value)} (h : RowK w B T K v L) : RowK w.drew B T K v L := ⟨h.own, h.each⟩
theorem RowK.alloc {w : World} {B K : Nat} {T : TypeId} {v : Value} {L : List (List Value)} (h : RowK w B T K v L) (o : Obj) : RowK (w.alloc o) B T K v L := ⟨World.ownsRow.alloc h.own o, h.each⟩
theorem RowK.set {w : World} {B K b i : Nat} {T : TypeId} {v u : Value} {L : List (List Value)} (h : RowK w B T K v L) (hne : some b ≠ v.ownBlock) : RowK (w.setCell ⟨b, i, none⟩ u) B T K v L := ⟨own_set h.own hne, h.each⟩
theorem RowK.mono {w : World} {B B' K : Nat} {T : TypeId} {v : Value} {L : List (List Value)} (h : RowK w B T K v L) (hb : B' ≤ B) : RowK w B' T K v L := ⟨⟨h.own.1, h.own.2.imp id fun ⟨g, cap, cur, h1, h2, h3⟩ => ⟨g, cap, cur, h1, Nat.le_trans hb h2, h3⟩⟩, h.each⟩
theorem RowK.kept {w w' : World} {B K : Nat} {T : TypeId} {v : Value} {L : List (List Value)} {row : Option Nat} (h : RowK w B T K v L) (hg : w.grownBy w' row) (hne : v.ownBlock = none ∨ v.ownBlock ≠ row) : RowK w' B T K v L := ⟨World.ownsRow.kept h.own hg hne, h.each⟩
theorem RowK.nil (w : World) (B K : Nat) (T : TypeId) : RowK w B T K (.slice none 0 0) [] := ⟨⟨by simp, .inl ⟨rfl, rfl⟩⟩, by simp⟩
/- a cell of an element is stored -/
theorem flat_set {K : Nat} : ∀ {L : List (List Value)}, (∀ x ∈ L, x.length = K) → ∀ (i c : Nat) (_ : i < L.length) (_ : c < K) (u : Value), L.flatten.set (i * K + c) u = (L.set i ((L.getD i []).set c u)).flatten
  | x :: L, h, 0, c, _, hc, u => by
    have hx := h x (by simp)
    simp only [Nat.zero_mul, Nat.zero_add, List.flatten_cons, List.set_cons_zero, List.getD_cons_zero]
    rw [List.set_append_left _ _ (by omega)]
  | x :: L, h, i + 1, c, hi, hc, u => by
    have hx := h x (by simp)
    simp only [List.flatten_cons, List.set_cons_succ, List.getD_cons_succ]
    rw [List.set_append_right _ _ (by rw [hx, Nat.succ_mul]; omega), hx, show (i + 1) * K + c - K = i * K + c by rw [Nat.succ_mul]; omega,
      flat_set (fun y hy => h y (by simp [hy])) i c (by simpa using hi) hc u]
theorem RowK.store {w : World} {B K g n c : Nat} {T : TypeId} {L : List (List Value)} (h : RowK w B T K (.slice (some ⟨g, 0, none⟩) n c) L) (hn : n = L.length) (i j : Nat) (hi : i < L.length) (hj : j < K) (u : Value) :
    RowK (w.setCell ⟨g, i * K + j, none⟩ u) B T K (.slice (some ⟨g, 0, none⟩) n c) (L.set i ((L.getD i []).set j u)) ∧ w.grownBy (w.setCell ⟨g, i * K + j, none⟩ u) (some g) := by
  subst hn
  have hs := World.ownsRow.stored h.own (i * K + j) u
  refine ⟨⟨?_, ?_⟩, hs.2⟩
  · rw [List.length_set, ← flat_set h.each i j hi hj u]; exact hs.1
  · intro x hx
    rcases List.mem_or_eq_of_mem_set hx with h1 | rfl
    · exact h.each x h1
    · rw [List.length_set, List.getD_eq_getElem?_getD, List.getElem?_eq_getElem hi]; exact h.each _ (List.getElem_mem hi)
end Go.Proofs.Ytckenfomnenknaa
