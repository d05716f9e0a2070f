import Derived.OpenShut
import Derived.ProofKit
import Derived.Test.YtckenfomnenknaaGreatShcb
section
namespace Go.Proofs.YtckenfomnenknaaGreat
open Go.ChangeShapes Go.WideShapes Go.ChangeAt Go.RowKit
set_option linter.unusedSimpArgs false
set_option linter.unusedVariables false
set_option maxHeartbeats 4000000

attribute [local go_sem] VGo_value VGo_skip VGo_enter
set_option maxRecDepth 100000 in
theorem wFnExactSolidBox (l : List Pt) (vl : Value) (w : World) (hl : PIn w vl l) (nl : l.length ≤ 9223372036854775807) :
    Calls Tryz.prog 9 #[vl] w fun e w' => e = .returned (.bool true) ∧ Below w.heap.size w w' := by
  obtain ⟨Al, cl, el, _⟩ := id hl
  subst el
  by_cases sl : (1048576 : Int) - l.length < 0
  · go_enter Tryz.func9, Tryz.ntmps9
    go_wp2_with (first | (go_at_call 41; (with_reducible refine (szPartS_no Al l.length cl (1048576) _ (by omega) (by omega) nl).mono ?_); rintro e w' ⟨rfl, rfl⟩))
    go_ret; refine ⟨rfl, ?_⟩; (repeat' (first | with_reducible exact lowRefl _ | with_reducible apply lowSet | with_reducible apply lowDrew | with_reducible apply lowDrewN | with_reducible apply lowAlloc | (with_reducible refine lowCall ?_ (by assumption)) | (show (_ : Nat) ≤ _; first | (simp; done) | (simp; omega) | omega)))
  have ml : l.length ≤ 1048576 := by omega
  have CS := Lib.hid (fun v w (h : PIn w v l) => sSolidBox_any l v w h ml)
  have CI := Lib.hid (fun v w (h : PIn w v l) => iSolidBox_any l v w h ml)
  generalize sbx l = ra at *
  obtain ⟨x, fa⟩ := ra
  simp only at CS CI
  have H1 := Lib.hid hl
  clear hl
  go_enter Tryz.func9, Tryz.ntmps9
  go_upto_region 5 with (first | (go_at_call 41; (with_reducible refine (szPartS_yes Al l.length cl (1048576) _ (by omega) (by omega)).mono ?_); rintro e w' ⟨rfl, rfl⟩))
  clear sl
  go_upto_region 6 with (first | (go_at_call 42; (with_reducible refine (toPartS_any l _ _ (H1.out.below (by repeat' (first | with_reducible exact lowRefl _ | with_reducible apply lowSet | with_reducible apply lowDrew | with_reducible apply lowDrewN | with_reducible apply lowAlloc | (with_reducible refine lowCall ?_ (by assumption)) | (show (_ : Nat) ≤ _; first | (simp; done) | (simp; omega) | omega)))) ml).mono ?_); rintro e w1 ⟨t1, rfl, r1, b1⟩) | (go_at_call 24; (with_reducible refine (CS.out _ _ (PRow.seen r1)).mono ?_); rintro e w2 ⟨rfl, b2⟩))
  have L2 := lowCall b1 b2
  refine (fun (k : ∀ wm, Has wm w2.heap.size #[.int .i64 (x.a), .int .i64 (x.b), .int .i64 (x.c), .int .i64 (x.d), .int .i64 (x.e), .int .i64 (x.f)] 36 → Below w.heap.size w wm → Code.wp _ _ _ _ wm) => k _ ?_ ?_) ?_
  · (refine Has.as (by repeat' (first | with_reducible assumption | with_reducible apply Has.new | with_reducible apply Has.new1 | with_reducible apply Has.new2 | with_reducible apply Has.new3 | with_reducible apply Has.new4 | with_reducible apply Has.drew | with_reducible apply Has.drewN | with_reducible apply Has.alloc | with_reducible apply Has.same | with_reducible apply Has.other | (with_reducible show _ ≠ _; first | omega | (simp; done)))) ?_; first | (with_reducible rfl) | (simp only [List.setIfInBounds_toArray, List.set_cons_zero, List.set_cons_succ]; done) | (simp only [List.setIfInBounds_toArray, List.set_cons_zero, List.set_cons_succ]; rfl) | rfl | (simp; done))
  · have := L2.size; repeat' (first | with_reducible exact lowRefl _ | with_reducible apply lowSet | with_reducible apply lowDrew | with_reducible apply lowDrewN | with_reducible apply lowAlloc | (with_reducible refine lowCall ?_ (by assumption)) | (show (_ : Nat) ≤ _; first | (simp; done) | (simp; omega) | omega))
  generalize w2.heap.size = b4 at *
  clear r1 b1 b2 L2
  clear w2
  intro wm B4 L3
  have f3 := Lib.hid (H1.out.below L3)
  go_upto_region 7 with (go_at_call 42; (with_reducible refine (toPartS_any l _ _ (f3.out) ml).mono ?_); rintro e w4 ⟨t4, rfl, r4, q4⟩)
  have L4 := lowCall L3 q4
  have f4 := Lib.hid (f3.out.below q4)
  have B5 := B4.below q4
  have l5 := B5.lt
  clear L3 f3 B4 q4
  go_upto_region 8 with (go_at_call 18; (with_reducible refine (CI.out _ _ (PRow.seen r4)).mono ?_); rintro e w6 ⟨rfl, q6⟩)
  have L6 := lowCall L4 q6
  have hW := (Below.refl w6.heap.size w6).alloc (Nat.le_refl _) (.cells #[.int .i64 (0), .int .i64 (0), .int .i64 (0), .int .i64 (0), .int .i64 (0), .int .i64 (0)] 36)
  refine (fun (k : ∀ wn, Has wn w6.heap.size #[.int .i64 (x.a), .int .i64 (x.b), .int .i64 (x.c), .int .i64 (x.d), .int .i64 (x.e), .int .i64 (x.f)] 36 → Has wn b4 #[.int .i64 (x.a), .int .i64 (x.b), .int .i64 (x.c), .int .i64 (x.d), .int .i64 (x.e), .int .i64 (x.f)] 36 → PRow wn wm.heap.size t4 l → Below w.heap.size w wn → Code.wp _ _ _ _ wn) => k _ ?_ ?_ ?_ ?_) ?_
  · (refine Has.as (by repeat' (first | with_reducible assumption | with_reducible apply Has.new | with_reducible apply Has.new1 | with_reducible apply Has.new2 | with_reducible apply Has.new3 | with_reducible apply Has.new4 | with_reducible apply Has.drew | with_reducible apply Has.drewN | with_reducible apply Has.alloc | with_reducible apply Has.same | with_reducible apply Has.other | (with_reducible show _ ≠ _; first | omega | (simp; done)))) ?_; first | (with_reducible rfl) | (simp only [List.setIfInBounds_toArray, List.set_cons_zero, List.set_cons_succ]; done) | (simp only [List.setIfInBounds_toArray, List.set_cons_zero, List.set_cons_succ]; rfl) | rfl | (simp; done))
  · have B6 := B5.below q6; have l6 := B6.lt; (refine Has.as (by repeat' (first | with_reducible assumption | with_reducible apply Has.new | with_reducible apply Has.new1 | with_reducible apply Has.new2 | with_reducible apply Has.new3 | with_reducible apply Has.new4 | with_reducible apply Has.drew | with_reducible apply Has.drewN | with_reducible apply Has.alloc | with_reducible apply Has.same | with_reducible apply Has.other | (with_reducible show _ ≠ _; first | omega | (simp; done)))) ?_; first | (with_reducible rfl) | (simp only [List.setIfInBounds_toArray, List.set_cons_zero, List.set_cons_succ]; done) | (simp only [List.setIfInBounds_toArray, List.set_cons_zero, List.set_cons_succ]; rfl) | rfl | (simp; done))
  · have r6 := RowK.below r4 q6
    have hne : some w6.heap.size ≠ t4.ownBlock := fun e => by have := (r4.own.lt _ e.symm).2; have := q6.size; omega
    repeat (first | exact r6 | exact RowK.alloc r6 _ | refine RowK.set ?_ hne)
  · have := L6.size; repeat' (first | with_reducible exact lowRefl _ | with_reducible apply lowSet | with_reducible apply lowDrew | with_reducible apply lowDrewN | with_reducible apply lowAlloc | (with_reducible refine lowCall ?_ (by assumption)) | (show (_ : Nat) ≤ _; first | (simp; done) | (simp; omega) | omega))
  generalize w6.heap.size = b6 at *
  clear L6 hW q6 r4 B5 L4 f4 l5
  clear w4 w6
  intro wn B6 B5 r7 L7
  have f7 := Lib.hid (H1.out.below L7)
  have C5 := Has.cell B5
  have C6 := Has.cell B6
  cases fa
  all_goals
    go_wp2_with (first | (go_at_call 50; (with_reducible refine (eqBox_yes _ _ _ _ _ _ _).mono ?_); rintro e w8 ⟨rfl, b8⟩) | (go_at_call 42; (with_reducible refine (toPartS_any l _ _ (f7.out.below b8) ml).mono ?_); rintro e w9 ⟨t9, rfl, r9, b9⟩) | (go_at_call 44; (with_reducible refine (eqPartS_yes l t4 t9 _ (PRow.seen (RowK.below (RowK.below r7 b8) b9)) (PRow.seen (r9)) (by omega)).mono ?_); rintro e w10 ⟨rfl, b10⟩))
    have hLL := lowCall (lowCall (lowCall L7 b8) b9) b10
    go_ret
    exact ⟨rfl, hLL⟩
end Go.Proofs.YtckenfomnenknaaGreat
end
section
namespace Go.Proofs.YtckenfomnenknaaGreat
open Go Go.ChangeShapes Go.WideShapes

/- values whose cells are integers and bools alone: what stands in each cell -/
def kindAt (P : Program) : Nat → TypeId → Nat → Option (Option IntKind)
  | 0, _, _ => none
  | m + 1, t, off =>
    match P.underlying t with
    | some .bool => if off = 0 then some none else none
    | some (.int k) => if off = 0 then some (some k) else none
    | some (.struct fs) => fs.toList.findSome? fun f => if f.offset ≤ off ∧ off < f.offset + P.cellsOf f.type then kindAt P m f.type (off - f.offset) else none
    | some (.array n e) => if P.cellsOf e = 0 ∨ n * P.cellsOf e ≤ off then none else kindAt P m e (off % P.cellsOf e)
    | _ => none
def fitsK : Option IntKind → Value → Prop
  | none, v => ∃ b, v = .bool b
  | some k, v => ∃ n, v = .int k n ∧ (Lit.int k n).wf = true
theorem get_cut {α : Type} {cs : List α} {o c i : Nat} {v : α} (h : ((cs.drop o).take c)[i]? = some v) : cs[o + i]? = some v := by
  rw [List.getElem?_take] at h
  split at h
  · rwa [List.getElem?_drop] at h
  · cases h
theorem kindAt_spec {H : Type} {enc : TypeId × Value → H} {P : Program} {w : World} {base : Nat} {spare : Nat → Bool} {held : Bool} :
    ∀ (m : Nat) (t : TypeId) (off n : Nat) (cs : List Value) (x : DataW H × List MemPlace) (k : Option IntKind), DataW.trod enc P w base spare held n t cs = some x → kindAt P m t off = some k → ∃ v, cs[off]? = some v ∧ fitsK k v
  | 0, _, _, _, _, _, _, _, h => by cases h
  | m + 1, t, off, n, cs, x, k, ht, h => by
    unfold kindAt at h
    split at h
    · rename_i hu
      split at h
      · rename_i h0; subst h0; cases h
        obtain ⟨b, rfl, _⟩ := DataW.trod_bool hu ht
        exact ⟨_, rfl, b, rfl⟩
      · cases h
    · rename_i k' hu
      split at h
      · rename_i h0; subst h0; cases h
        obtain ⟨a, rfl, _, hw⟩ := DataW.trod_int hu ht
        exact ⟨_, rfl, a, rfl, hw⟩
      · cases h
    · rename_i fs hu
      obtain ⟨f, hf, hif⟩ := List.exists_of_findSome?_eq_some h
      split at hif
      · rename_i hr
        obtain ⟨xs, n', _, _, _, hl, hg⟩ := DataW.trod_struct hu ht
        obtain ⟨i, hi, hfi⟩ := List.getElem_of_mem hf
        have hfs : fs[i]? = some f := by
          rw [← hfi]; simp at hi; simp [hi]
        have hlt : i < xs.length := by rw [hl]; simpa using hi
        have h1 := hg i f hfs
        rw [List.getElem?_eq_getElem hlt] at h1
        obtain ⟨v, hv, hk⟩ := kindAt_spec m f.type (off - f.offset) n' _ _ k h1 hif
        have h2 := get_cut hv
        rw [show f.offset + (off - f.offset) = off by omega] at h2
        exact ⟨v, h2, hk⟩
      · cases hif
    · rename_i c e hu
      split at h
      · cases h
      · rename_i hno
        obtain ⟨xs, n', _, _, _, hl, hg⟩ := DataW.trod_array hu ht
        have hpos : 0 < P.cellsOf e := by omega
        have hlt : off / P.cellsOf e < c := by
          rw [Nat.div_lt_iff_lt_mul hpos]; omega
        have h1 := hg (off / P.cellsOf e) hlt
        rw [List.getElem?_eq_getElem (by rw [hl]; exact hlt)] at h1
        obtain ⟨v, hv, hk⟩ := kindAt_spec m e (off % P.cellsOf e) n' _ _ k h1 h
        have h2 := get_cut hv
        rw [Nat.mul_comm, Nat.div_add_mod] at h2
        exact ⟨v, h2, hk⟩
    · cases h
end Go.Proofs.YtckenfomnenknaaGreat
end
