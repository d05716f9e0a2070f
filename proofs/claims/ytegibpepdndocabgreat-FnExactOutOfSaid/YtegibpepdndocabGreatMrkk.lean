import Derived.Test.YtegibpepdndocabGreatEndk
import Derived.Test.YtegibpepdndocabGreatPrtBk
section
namespace Go.Proofs.YtegibpepdndocabGreat
open Go.ChangeShapes Go.WideShapes Go.ChangeAt Go.RowKit
set_option linter.unusedSimpArgs false
set_option linter.unusedVariables false

/- trees of parts, in plain words -/
def made (p : Pt) : List Int := if 3 ≤ p.k ∧ p.k ≤ 5 then [p.A, p.B] else if p.k = 6 then [p.A] else []
theorem made_two (p : Pt) (h1 : 3 ≤ p.k) (h2 : p.k ≤ 5) : made p = [p.A, p.B] := by unfold made; rw [if_pos ⟨h1, h2⟩]
theorem made_one (p : Pt) (h : p.k = 6) : made p = [p.A] := by unfold made; rw [if_neg (by omega), if_pos h]
theorem made_none (p : Pt) (h : p.k < 3 ∨ 6 < p.k) : made p = [] := by unfold made; rw [if_neg (by omega), if_neg (by omega)]
/- what is used so far: a bool for each index -/
def mrk (U : Nat → Bool) (k : Int) : Nat → Bool := fun x => U x || decide ((x : Int) = k)
def mrks (U : Nat → Bool) (ks : List Int) : Nat → Bool := ks.foldl mrk U
/- whether what part i is made of is ahead of it and not used yet -/
def Lks (U : Nat → Bool) (i : Nat) : List Int → Prop
  | [] => True
  | k :: ks => (0 ≤ k ∧ k < i) ∧ U k.toNat = false ∧ Lks (mrk U k) i ks
def usd (l : List Pt) : Nat → Nat → Bool
  | 0 => fun _ => false
  | j + 1 => match l[j]? with
    | some p => mrks (usd l j) (made p)
    | none => usd l j
theorem usd_succ (l : List Pt) (j : Nat) (h : j < l.length) : usd l (j + 1) = mrks (usd l j) (made l[j]) := by
  simp only [usd, List.getElem?_eq_getElem h]
def Good (l : List Pt) (i : Nat) : Prop := ∀ h : i < l.length, PtP l[i] ∧ Lks (usd l i) i (made l[i])
def Form (l : List Pt) : Prop := (1 ≤ l.length ∧ l.length ≤ 24) ∧ (∀ i, i < l.length → Good l i) ∧ ∀ x, x + 1 < l.length → usd l l.length x = true
/- a row of bools -/
def cellsB (n : Nat) (U : Nat → Bool) : Array Value := ((List.range n).map fun x => Value.bool (U x)).toArray
theorem cellsB_get (n : Nat) (U : Nat → Bool) (x : Nat) (h : x < n) : (cellsB n U)[x]? = some (.bool (U x)) := by simp [cellsB, h]
theorem cellsB_set (n : Nat) (U : Nat → Bool) (x : Nat) (k : Int) (hk : (x : Int) = k) : (cellsB n U).setIfInBounds x (.bool true) = cellsB n (mrk U k) := by
  subst hk
  apply Array.ext'
  apply List.ext_getElem?
  intro i
  simp only [cellsB, List.setIfInBounds_toArray, List.getElem?_set, List.length_map, List.length_range, List.getElem?_map, List.getElem?_range]
  by_cases h : x = i
  · subst h
    by_cases hn : x < n <;> simp [hn, mrk]
  · by_cases hn : i < n
    · simp [h, hn, mrk, show ¬ ((i : Int) = x) by omega]
    · simp [h, hn]
/- a row of integers of its own -/
def kints (ks : List Int) : Array Value := (ks.map (Value.int .i64)).toArray
def KIn (w : World) (B : Nat) (v : Value) (ks : List Int) : Prop := ∃ A c, v = .slice A ks.length c ∧ (0 < ks.length → ∃ g, A = some ⟨g, 0, none⟩ ∧ Has w g (kints ks) 3 ∧ B ≤ g)
theorem madeOf_any (p : Pt) (w : World) (h : 0 ≤ p.k ∧ p.k ≤ 6) : Calls Tryz.prog 163 #[p.val] w fun e w' => ∃ v, e = .returned v ∧ KIn w' w.heap.size v (made p) ∧ Below w.heap.size w w' := by
  by_cases h3 : p.k < 3
  · rw [made_none p (.inl h3)]
    exact (madeOf_none p w (.inl h3)).mono fun e w' ⟨he, hb⟩ => ⟨_, he, ⟨none, 0, rfl, fun h => by simp at h⟩, hb⟩
  · by_cases h5 : p.k ≤ 5
    · rw [made_two p (by omega) h5]
      exact (madeOf_two p w (by omega) h5).mono fun e w' ⟨g, he, hB, hg, hb⟩ => ⟨_, he, ⟨_, 2, rfl, fun _ => ⟨g, rfl, hB, hg⟩⟩, hb⟩
    · rw [made_one p (by omega)]
      exact (madeOf_one p w (by omega)).mono fun e w' ⟨g, he, hB, hg, hb⟩ => ⟨_, he, ⟨_, 1, rfl, fun _ => ⟨g, rfl, hB, hg⟩⟩, hb⟩
theorem made_len (p : Pt) : (made p).length ≤ 2 := by unfold made; split; simp; split <;> simp
theorem kints_get (ks : List Int) (t : Nat) (h : t < ks.length) : (kints ks)[t]? = some (.int .i64 ks[t]) := by simp [kints, h]
theorem mrks_take (U : Nat → Bool) (ks : List Int) (t : Nat) (h : t < ks.length) : mrks U (ks.take (t + 1)) = mrk (mrks U (ks.take t)) ks[t] := by
  unfold mrks; rw [List.take_succ_eq_append_getElem h, List.foldl_append]; rfl
end Go.Proofs.YtegibpepdndocabGreat
end
section
namespace Go.Proofs.YtegibpepdndocabGreat
open Go.ChangeShapes Go.WideShapes Go.ChangeAt Go.RowKit

/- an element of a row whose cells are written one after another: M are the values, c of them are written -/
def Mk (w : World) (B : Nat) (T : TypeId) (C : Nat) (v : Value) (L : List (List Value)) (j : Nat) (M : List Value) (c : Nat) : Prop :=
  ∃ cs : List Value, cs.length = C ∧ cs.take c = M.take c ∧ RowK w B T C v (L.set j cs)
theorem Mk.step {w : World} {B C j g n cap c : Nat} {T : TypeId} {L : List (List Value)} {M : List Value} (h : Mk w B T C (.slice (some ⟨g, 0, none⟩) n cap) L j M c) (hn : n = L.length) (hj : j < L.length) (hc : c < C) (u : Value) (hu : M[c]? = some u) :
    Mk (w.setCell ⟨g, j * C + c, none⟩ u) B T C (.slice (some ⟨g, 0, none⟩) n cap) L j M (c + 1) ∧ w.grownBy (w.setCell ⟨g, j * C + c, none⟩ u) (some g) := by
  obtain ⟨cs, hl, ht, hr⟩ := h
  obtain ⟨h1, h2⟩ := hr.store (by simpa using hn) j c (by simpa using hj) hc u
  refine ⟨⟨cs.set c u, by simpa using hl, ?_, ?_⟩, h2⟩
  · have hcl : c < cs.length := by omega
    have hcM : c < M.length := (List.getElem?_eq_some_iff.1 hu).1
    rw [List.take_succ_eq_append_getElem (by simpa using hcl), List.take_succ_eq_append_getElem hcM, List.take_set_of_le (Nat.le_refl _), ht]
    congr 1
    rw [List.getElem_set_self]
    have := (List.getElem?_eq_some_iff.1 hu).2
    rw [this]
  · have e : (L.set j cs).set j (((L.set j cs).getD j []).set c u) = L.set j (cs.set c u) := by
      rw [List.set_set, List.getD_eq_getElem?_getD, List.getElem?_set_self hj, Option.getD_some]
    rw [e] at h1
    exact h1
theorem Mk.cell {w : World} {B C j g n cap c : Nat} {T : TypeId} {L : List (List Value)} {M : List Value} (h : Mk w B T C (.slice (some ⟨g, 0, none⟩) n cap) L j M c) (hn : n = L.length) (hj : j < L.length) (d : Nat) (hd : d < C) :
    ∃ old, w.cell? ⟨g, j * C + d, none⟩ = some old := by
  obtain ⟨cs, hl, ht, hr⟩ := h
  have h1 := hr.cell (by simpa using hn) j d (by simpa using hj) hd
  rw [List.getElem_set_self] at h1
  rw [h1]
  exact ⟨cs[d]'(by omega), List.getElem?_eq_getElem _⟩
/- all cells of an element at once -/
def setAll (w : World) (g off : Nat) : Nat → List Value → World
  | _, [] => w
  | c, v :: vs => setAll (w.setCell ⟨g, off + c, none⟩ v) g off (c + 1) vs
theorem RowK.storeAll {B C g n cap : Nat} {T : TypeId} : ∀ (vs : List Value) (c : Nat) (w : World) (L : List (List Value)) (j : Nat) (cs : List Value), RowK w B T C (.slice (some ⟨g, 0, none⟩) n cap) L → n = L.length → (hj : j < L.length) → L[j] = cs → c + vs.length = C →
    RowK (setAll w g (j * C) c vs) B T C (.slice (some ⟨g, 0, none⟩) n cap) (L.set j (cs.take c ++ vs)) ∧ w.grownBy (setAll w g (j * C) c vs) (some g)
  | [], c, w, L, j, cs, hr, hn, hj, he, hC => by
    have hl := hr.each _ (List.getElem_mem hj)
    rw [he] at hl
    rw [List.append_nil, List.take_of_length_le (by simp at hC; omega), ← he, List.set_getElem_self]
    exact ⟨hr, World.grownBy.refl _ _⟩
  | v :: vs, c, w, L, j, cs, hr, hn, hj, he, hC => by
    simp only [List.length_cons] at hC
    have hl := hr.each _ (List.getElem_mem hj)
    rw [he] at hl
    obtain ⟨h1, g1⟩ := hr.store hn j c hj (by omega) v
    have e : L.set j ((L.getD j []).set c v) = L.set j (cs.set c v) := by rw [List.getD_eq_getElem?_getD, List.getElem?_eq_getElem hj, Option.getD_some, he]
    rw [e] at h1
    obtain ⟨h2, g2⟩ := RowK.storeAll vs (c + 1) _ (L.set j (cs.set c v)) j (cs.set c v) h1 (by simpa using hn) (by simpa using hj) (List.getElem_set_self _) (by omega)
    refine ⟨?_, by_trans g1 g2⟩
    have e2 : (L.set j (cs.set c v)).set j ((cs.set c v).take (c + 1) ++ vs) = L.set j (cs.take c ++ v :: vs) := by
      rw [List.set_set, List.take_succ_eq_append_getElem (by rw [List.length_set]; omega), List.take_set_of_le (Nat.le_refl _), List.getElem_set_self, List.append_assoc]
      rfl
    rw [e2] at h2
    exact h2
end Go.Proofs.YtegibpepdndocabGreat
end
