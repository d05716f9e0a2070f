import Derived.OpenShut
import Derived.ProofKit
import Derived.Test.YtfcafomjldomfaaSpTq
section
namespace Go.Proofs.Ytfcafomjldomfaa
open Go.ChangeShapes Go.WideShapes Go.ChangeAt Go.RowKit
set_option linter.unusedSimpArgs false
set_option linter.unusedVariables false
set_option maxHeartbeats 2000000

attribute [local go_sem] VGo_value VGo_skip VGo_enter
theorem wFnExactSolidOk (l : List Pt) (vl : Value) (w : World) (hl : PIn w vl l) (nl : l.length ≤ 9223372036854775807) :
    Calls Try.prog 3 #[vl] w fun e w' => e = .returned (.bool true) ∧ Below w.heap.size w w' := by
  obtain ⟨Al, cl, el, _⟩ := id hl
  subst el
  have H0l := Lib.hid hl
  have H1l := Lib.hid hl
  clear hl
  by_cases sl : (1048576 : Int) - l.length < 0
  · go_enter Try.func3, Try.ntmps3
    go_wp2_with (first | (go_at_call 7; (with_reducible refine (szPartS_no Al l.length cl (1048576) _ (by omega) (by omega) nl).mono ?_); rintro e w' ⟨rfl, rfl⟩))
    go_ret; refine ⟨rfl, ?_⟩; (repeat' (first | with_reducible exact lowRefl _ | with_reducible apply lowSet | with_reducible apply lowDrew | with_reducible apply lowDrewN | with_reducible apply lowAlloc | (with_reducible refine lowCall ?_ (by assumption)) | (show (_ : Nat) ≤ _; first | (simp; done) | (simp; omega) | omega)))
  have ml : l.length ≤ 1048576 := by omega
  go_enter Try.func3, Try.ntmps3
  go_upto_region 5 with (first | (go_at_call 7; (with_reducible refine (szPartS_yes Al l.length cl (1048576) _ (by omega) (by omega)).mono ?_); rintro e w' ⟨rfl, rfl⟩))
  clear sl
  go_upto_region 6 with (first | (go_at_call 9; (with_reducible refine (toPartS_any l _ _ (H1l.out) ml).mono ?_); rintro e w4 ⟨t1, rfl, r2, b3⟩) | (go_at_call 8; (with_reducible refine (sSolidOk_any l t1 _ (PRow.seen r2) ml).mono ?_); rintro e w5 ⟨rfl, b6⟩))
  have f7 := Lib.hid (H1l.out.below b3)
  clear H1l
  have L8 := b3
  have f9 := Lib.hid (f7.out.below b6)
  clear f7
  have L10 := lowCall L8 b6
  clear L8
  go_upto_region 7 with (go_at_call 9; (with_reducible refine (toPartS_any l _ _ (f9.out) ml).mono ?_); rintro e w14 ⟨t11, rfl, r12, b13⟩)
  have lo_xl := L10.size
  have f15 := Lib.hid (f9.out.below b13)
  clear f9
  have L16 := lowCall L10 b13
  clear L10
  go_upto_region 8 with (first | (go_at_call 10; (with_reducible refine (iSolidOk_any l t11 _ (PRow.seen r12) ml).mono ?_); rintro e w17 ⟨rfl, b18⟩))
  have f19 := Lib.hid (f15.out.below b18)
  clear f15
  have f20 := RowK.below r12 b18
  clear r12
  have L21 := lowCall L16 b18
  clear L16
  generalize dec (SolidP l) = bd
  go_wp2_with (first | (go_at_call 9; (with_reducible refine (toPartS_any l _ _ (f19.out) ml).mono ?_); rintro e w25 ⟨t22, rfl, r23, b24⟩) | (go_at_call 11; (with_reducible refine (eqPartS_yes l t11 t22 _ (PRow.seen (RowK.below f20 b24)) (PRow.seen (r23)) (by omega)).mono ?_); rintro e w27 ⟨rfl, b26⟩))
  have hLL := lowCall (lowCall L21 b24) b26
  go_ret
  exact ⟨rfl, hLL⟩
end Go.Proofs.Ytfcafomjldomfaa
end
section
namespace Go.Proofs.Ytfcafomjldomfaa
open Go Go.ChangeShapes Go.WideShapes

/- values whose cells are integers and bools alone: what stands in each cell -/
def kindAt (P : Program) : Nat → TypeId → Nat → Option (Option IntKind)
  | 0, _, _ => none
  | m + 1, t, off =>
    match P.underlying t with
    | some .bool => if off = 0 then some none else none
    | some (.int k) => if off = 0 then some (some k) else none
    | some (.struct fs) => fs.toList.findSome? fun f => if f.offset ≤ off ∧ off < f.offset + P.cellsOf f.type then kindAt P m f.type (off - f.offset) else none
    | some (.array n e) => if P.cellsOf e = 0 ∨ n * P.cellsOf e ≤ off then none else kindAt P m e (off % P.cellsOf e)
    | _ => none
def fitsK : Option IntKind → Value → Prop
  | none, v => ∃ b, v = .bool b
  | some k, v => ∃ n, v = .int k n ∧ (Lit.int k n).wf = true
theorem get_cut {α : Type} {cs : List α} {o c i : Nat} {v : α} (h : ((cs.drop o).take c)[i]? = some v) : cs[o + i]? = some v := by
  rw [List.getElem?_take] at h
  split at h
  · rwa [List.getElem?_drop] at h
  · cases h
theorem kindAt_spec {H : Type} {enc : TypeId × Value → H} {P : Program} {w : World} {base : Nat} {spare : Nat → Bool} {held : Bool} :
    ∀ (m : Nat) (t : TypeId) (off n : Nat) (cs : List Value) (x : DataW H × List MemPlace) (k : Option IntKind), DataW.trod enc P w base spare held n t cs = some x → kindAt P m t off = some k → ∃ v, cs[off]? = some v ∧ fitsK k v
  | 0, _, _, _, _, _, _, _, h => by cases h
  | m + 1, t, off, n, cs, x, k, ht, h => by
    unfold kindAt at h
    split at h
    · rename_i hu
      split at h
      · rename_i h0; subst h0; cases h
        obtain ⟨b, rfl, _⟩ := DataW.trod_bool hu ht
        exact ⟨_, rfl, b, rfl⟩
      · cases h
    · rename_i k' hu
      split at h
      · rename_i h0; subst h0; cases h
        obtain ⟨a, rfl, _, hw⟩ := DataW.trod_int hu ht
        exact ⟨_, rfl, a, rfl, hw⟩
      · cases h
    · rename_i fs hu
      obtain ⟨f, hf, hif⟩ := List.exists_of_findSome?_eq_some h
      split at hif
      · rename_i hr
        obtain ⟨xs, n', _, _, _, hl, hg⟩ := DataW.trod_struct hu ht
        obtain ⟨i, hi, hfi⟩ := List.getElem_of_mem hf
        have hfs : fs[i]? = some f := by
          rw [← hfi]; simp at hi; simp [hi]
        have hlt : i < xs.length := by rw [hl]; simpa using hi
        have h1 := hg i f hfs
        rw [List.getElem?_eq_getElem hlt] at h1
        obtain ⟨v, hv, hk⟩ := kindAt_spec m f.type (off - f.offset) n' _ _ k h1 hif
        have h2 := get_cut hv
        rw [show f.offset + (off - f.offset) = off by omega] at h2
        exact ⟨v, h2, hk⟩
      · cases hif
    · rename_i c e hu
      split at h
      · cases h
      · rename_i hno
        obtain ⟨xs, n', _, _, _, hl, hg⟩ := DataW.trod_array hu ht
        have hpos : 0 < P.cellsOf e := by omega
        have hlt : off / P.cellsOf e < c := by
          rw [Nat.div_lt_iff_lt_mul hpos]; omega
        have h1 := hg (off / P.cellsOf e) hlt
        rw [List.getElem?_eq_getElem (by rw [hl]; exact hlt)] at h1
        obtain ⟨v, hv, hk⟩ := kindAt_spec m e (off % P.cellsOf e) n' _ _ k h1 h
        have h2 := get_cut hv
        rw [Nat.mul_comm, Nat.div_add_mod] at h2
        exact ⟨v, h2, hk⟩
    · cases h
end Go.Proofs.Ytfcafomjldomfaa
end
