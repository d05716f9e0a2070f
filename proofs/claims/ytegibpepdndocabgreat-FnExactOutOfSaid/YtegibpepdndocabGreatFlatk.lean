import Derived.OpenShut
import Derived.ProofKit
namespace Go.Proofs.YtegibpepdndocabGreat
open Go Go.ChangeShapes Go.WideShapes

/- values whose cells are integers and bools alone: what stands in each cell -/
def kindAt (P : Program) : Nat → TypeId → Nat → Option (Option IntKind)
  | 0, _, _ => none
  | m + 1, t, off =>
    match P.underlying t with
    | some .bool => if off = 0 then some none else none
    | some (.int k) => if off = 0 then some (some k) else none
    | some (.struct fs) => fs.toList.findSome? fun f => if f.offset ≤ off ∧ off < f.offset + P.cellsOf f.type then kindAt P m f.type (off - f.offset) else none
    | some (.array n e) => if P.cellsOf e = 0 ∨ n * P.cellsOf e ≤ off then none else kindAt P m e (off % P.cellsOf e)
    | _ => none
def fitsK : Option IntKind → Value → Prop
  | none, v => ∃ b, v = .bool b
  | some k, v => ∃ n, v = .int k n ∧ (Lit.int k n).wf = true
theorem get_cut {α : Type} {cs : List α} {o c i : Nat} {v : α} (h : ((cs.drop o).take c)[i]? = some v) : cs[o + i]? = some v := by
  rw [List.getElem?_take] at h
  split at h
  · rwa [List.getElem?_drop] at h
  · cases h
theorem kindAt_spec {H : Type} {enc : TypeId × Value → H} {P : Program} {w : World} {base : Nat} {spare : Nat → Bool} {held : Bool} :
    ∀ (m : Nat) (t : TypeId) (off n : Nat) (cs : List Value) (x : DataW H × List MemPlace) (k : Option IntKind), DataW.trod enc P w base spare held n t cs = some x → kindAt P m t off = some k → ∃ v, cs[off]? = some v ∧ fitsK k v
  | 0, _, _, _, _, _, _, _, h => by cases h
  | m + 1, t, off, n, cs, x, k, ht, h => by
    unfold kindAt at h
    split at h
    · rename_i hu
      split at h
      · rename_i h0; subst h0; cases h
        obtain ⟨b, rfl, _⟩ := DataW.trod_bool hu ht
        exact ⟨_, rfl, b, rfl⟩
      · cases h
    · rename_i k' hu
      split at h
      · rename_i h0; subst h0; cases h
        obtain ⟨a, rfl, _, hw⟩ := DataW.trod_int hu ht
        exact ⟨_, rfl, a, rfl, hw⟩
      · cases h
    · rename_i fs hu
      obtain ⟨f, hf, hif⟩ := List.exists_of_findSome?_eq_some h
      split at hif
      · rename_i hr
        obtain ⟨xs, n', _, _, _, hl, hg⟩ := DataW.trod_struct hu ht
        obtain ⟨i, hi, hfi⟩ := List.getElem_of_mem hf
        have hfs : fs[i]? = some f := by
          rw [← hfi]; simp at hi; simp [hi]
        have hlt : i < xs.length := by rw [hl]; simpa using hi
        have h1 := hg i f hfs
        rw [List.getElem?_eq_getElem hlt] at h1
        obtain ⟨v, hv, hk⟩ := kindAt_spec m f.type (off - f.offset) n' _ _ k h1 hif
        have h2 := get_cut hv
        rw [show f.offset + (off - f.offset) = off by omega] at h2
        exact ⟨v, h2, hk⟩
      · cases hif
    · rename_i c e hu
      split at h
      · cases h
      · rename_i hno
        obtain ⟨xs, n', _, _, _, hl, hg⟩ := DataW.trod_array hu ht
        have hpos : 0 < P.cellsOf e := by omega
        have hlt : off / P.cellsOf e < c := by
          rw [Nat.div_lt_iff_lt_mul hpos]; omega
        have h1 := hg (off / P.cellsOf e) hlt
        rw [List.getElem?_eq_getElem (by rw [hl]; exact hlt)] at h1
        obtain ⟨v, hv, hk⟩ := kindAt_spec m e (off % P.cellsOf e) n' _ _ k h1 h
        have h2 := get_cut hv
        rw [Nat.mul_comm, Nat.div_add_mod] at h2
        exact ⟨v, h2, hk⟩
    · cases h
def Fits : List (Option IntKind) → List Value → Prop
  | [], cs => cs = []
  | none :: L, cs => ∃ b rest, cs = .bool b :: rest ∧ Fits L rest
  | some k :: L, cs => ∃ n rest, (Lit.int k n).wf = true ∧ cs = .int k n :: rest ∧ Fits L rest
theorem fits_of : ∀ (L : List (Option IntKind)) (cs : List Value), cs.length = L.length → (∀ (i : Nat) (k : Option IntKind), L[i]? = some k → ∃ v, cs[i]? = some v ∧ fitsK k v) → Fits L cs
  | [], cs, hl, _ => by simpa [Fits] using hl
  | k :: L, [], hl, _ => by simp at hl
  | k :: L, c :: cs, hl, h => by
    have h0 := h 0 k rfl
    have ih := fits_of L cs (by simpa using hl) (fun i k' hi => by have := h (i + 1) k' (by simpa using hi); simpa using this)
    obtain ⟨v, hv, hk⟩ := h0
    have : c = v := by simpa using hv
    subst this
    cases k with
    | none => obtain ⟨b, rfl⟩ := hk; exact ⟨b, cs, rfl, ih⟩
    | some k => obtain ⟨n, rfl, hw⟩ := hk; exact ⟨n, cs, hw, rfl, ih⟩
theorem open_flat {H : Type} {enc : TypeId × Value → H} {P : Program} {w : World} {base : Nat} {spare : Nat → Bool} {held : Bool} {r : Reach} {b0 : Nat} {t : TypeId} {fs : Array Field} {v : Value} {d : DataW H} {p : List MemPlace}
    (hs : P.underlying t = some (.struct fs)) (hv : Value.okWide P w r b0 t v) (h : DataW.Trod enc P w base spare held t v d p) (L : List (Option IntKind)) (hN : P.cellsOf t = L.length)
    (hk : (List.range L.length).map (kindAt P 9 t) = L.map some) : ∃ cs, v = .agg cs.toArray ∧ Fits L cs := by
  obtain ⟨cs, rfl, hsz⟩ := okWide_struct hs hv
  obtain ⟨fuel, hf⟩ := h
  refine ⟨cs.toList, by simp, fits_of L _ (by simp [hsz, hN]) fun i k hi => ?_⟩
  refine kindAt_spec 9 t i fuel _ _ k hf ?_
  have h1 : (List.map (kindAt P 9 t) (List.range L.length))[i]? = (L.map some)[i]? := by rw [hk]
  have hlt : i < L.length := (List.getElem?_eq_some_iff.1 hi).1
  rw [List.getElem?_map, List.getElem?_map, hi, List.getElem?_range hlt] at h1
  simpa using h1
end Go.Proofs.YtegibpepdndocabGreat
