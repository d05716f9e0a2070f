import Derived.Deep.Slices
import Derived.OpenShut
import Derived.ProofKit
import Derived.Test.YtegibpepdndocabGreatBlkb
import Derived.Test.YtegibpepdndocabGreatIntsb
import Derived.Test.YtegibpepdndocabGreatSpTb
section
namespace Go.Proofs.YtegibpepdndocabGreat
open Go.ChangeShapes Go.WideShapes Go.ChangeAt Go.RowKit
set_option linter.unusedSimpArgs false
set_option linter.unusedVariables false
set_option maxHeartbeats 4000000

attribute [local go_sem] VGo_value VGo_skip VGo_enter
set_option maxRecDepth 100000 in
theorem wBlocked0 (r : Sx) (l : List Pt) (vl : Value) (a b : Int) (w : World) (hl : PIn w vl l) (nl : l.length ≤ 9223372036854775807) :
    Calls Tryz.prog 4 #[vl, r.val, .int .i64 a, .int .i64 b] w fun e w' => e = .returned (.bool true) ∧ Below w.heap.size w w' := by
  obtain ⟨Al, cl, el, _⟩ := id hl
  subst el
  by_cases sl : (1048576 : Int) - l.length < 0
  · go_enter Tryz.func4, Tryz.ntmps4
    go_wp2_with (first | (go_at_call 20; (with_reducible refine (szPartS_no Al l.length cl (1048576) _ (by omega) (by omega) nl).mono ?_); rintro e w' ⟨rfl, rfl⟩))
    go_ret; refine ⟨rfl, ?_⟩; (repeat' (first|with_reducible (first|exact lowRefl _|apply lowSet|apply lowDrew|apply lowDrewN|apply lowAlloc)|(with_reducible refine lowCall ?_ (by assumption))|(show (_ : Nat) ≤ _;first|(simp;done)|(simp;omega)|omega)))
  have ml : l.length ≤ 1048576 := by omega
  have hq0 := lowAlloc (lowRefl w) (.cells #[.int .i64 (r.a), .int .i64 (r.b), .int .i64 (r.c), .int .i64 (r.d), .int .i64 (r.e), .int .i64 (r.f)] 37)
  have B0 := Has.new w #[.int .i64 (r.a), .int .i64 (r.b), .int .i64 (r.c), .int .i64 (r.d), .int .i64 (r.e), .int .i64 (r.f)] 37
  have H1 := Lib.hid (hl.below hq0)
  clear hl
  go_enter Tryz.func4, Tryz.ntmps4
  go_upto_region 5 with (first | (go_at_call 20; (with_reducible refine (szPartS_yes Al l.length cl (1048576) _ (by omega) (by omega)).mono ?_); rintro e w' ⟨rfl, rfl⟩))
  clear sl
  generalize w.alloc (.cells #[.int .i64 (r.a), .int .i64 (r.b), .int .i64 (r.c), .int .i64 (r.d), .int .i64 (r.e), .int .i64 (r.f)] 37) = w1 at *
  refine wp_region_heldG [true, false, true, false, true, true] 1 3 (by kernel_rfl) (by kernel_rfl) rfl rfl (fun _ _ _ d _ h => by cases d <;> exact h) ?_
  intro Fq hFq
  simp only [maskL]
  repeat (first | (refine wpHeld_skip (by rfl) ?_; ((try simp only [Act.put, List.setIfInBounds_toArray, List.set_cons_zero, List.set_cons_succ]))) | (refine wpHeld_run ?_ rfl ?_ ?_; rotate_left; (focus (intro w' hbq Kq hKq; go_simp; (try (rw [IntWalk.i64_in]; rotate_left; focus (constructor <;> omega))); first | exact hKq _ (Below.refl _ _) | (have C0 := Has.cell (B0.below (undrew hbq)); go_simp; exact hKq _ (Below.refl _ _)))); ((try simp only [Act.put, List.setIfInBounds_toArray, List.set_cons_zero, List.set_cons_succ]))))
  refine wpHeld_nil (hFq _ ⟨fun v w2 => PRow w2 w.heap.size v l, fun v u w2 => PRow w2 w.heap.size v l ∧ u = r.val, fun v w1 w2 h k => RowK.below h k, fun v u w1 w2 h k => ⟨RowK.below h.1 k, h.2⟩, rfl, fun _ => rfl, ?_, ?_, ?_⟩)
  · intro w2 hS2 K hK
    go_simp
    go_at_call 22; (with_reducible refine (toPartS_any l _ _ (H1.out.below (undrew hS2)) ml).mono ?_); rintro e w3 ⟨vc, rfl, hr, hb⟩
    refine back ?_
    exact hK _ _ hb (RowK.mono hr (Nat.le_trans hq0.size hS2.size))
  · intro vc w2 hS2 hr K hK
    have hr : PRow w2 w.heap.size vc l := hr
    go_simp
    go_at_call 17; (with_reducible refine (toRay_any _ _ _ _ _ _ _).mono ?_); rintro e w3 ⟨rfl, hb⟩
    refine back ?_
    exact hK _ _ hb ⟨RowK.below hr hb, rfl⟩
  intro vc u w2 hS2 hru
  obtain ⟨hr, rfl⟩ := hru
  have hr : PRow w2 w.heap.size vc l := hr
  have L2 := lowCall hq0 (undrew hS2)
  have f2 := Lib.hid (H1.out.below (undrew hS2))
  have B2 := B0.below (undrew hS2)
  clear hFq hq0 H1 B0 hS2
  simp only [List.length_cons, List.length_nil, Nat.zero_add, Nat.reduceAdd, List.drop_succ_cons, List.drop_zero]
  go_upto_region 6 with (go_at_call 21; (with_reducible refine (sBlocked_any l _ r a b _ (PRow.seen hr) ml).mono ?_); rintro e w3 ⟨rfl, b3⟩)
  have L3 := lowCall L2 b3
  have f3 := Lib.hid (f2.out.below b3)
  have B3 := B2.below b3
  clear L2 f2 B2 hr b3
  go_upto_region 7 with (go_at_call 22; (with_reducible refine (toPartS_any l _ _ (f3.out) ml).mono ?_); rintro e w4 ⟨t4, rfl, r4, b4⟩)
  have L4 := lowCall L3 b4
  have f4 := Lib.hid (f3.out.below b4)
  have B4 := B3.below b4
  have C4 := Has.cell B4
  clear L3 f3 B3 b4
  go_upto_region 8 with (first | (go_at_call 17; (with_reducible refine (toRay_any _ _ _ _ _ _ _).mono ?_); rintro e w5 ⟨rfl, b5⟩) | (go_at_call 23; (with_reducible refine (iBlocked_any l t4 r a b _ (PRow.seen (RowK.below r4 b5)) ml).mono ?_); rintro e w6 ⟨rfl, b6⟩))
  have L6 := lowCall (lowCall L4 b5) b6
  have f6 := Lib.hid ((f4.out.below b5).below b6)
  have r6 := RowK.below (RowK.below r4 b5) b6
  clear L4 f4 B4 C4 r4 b5 b6
  generalize dec (BlkP l r a b) = bd
  go_wp2_with (first | (go_at_call 22; (with_reducible refine (toPartS_any l _ _ (f6.out) ml).mono ?_); rintro e w7 ⟨t7, rfl, r7, b7⟩) | (go_at_call 24; (with_reducible refine (eqPartS_yes l t4 t7 _ (PRow.seen (RowK.below r6 b7)) (PRow.seen (r7)) (by omega)).mono ?_); rintro e w8 ⟨rfl, b8⟩))
  have hLL := lowCall (lowCall L6 b7) b8
  go_ret
  exact ⟨rfl, hLL⟩
theorem wFnExactBlocked (l : List Pt) (vl : Value) (a b c d e f : Int) (s t : Int) (w : World) (hl : PIn w vl l) (nl : l.length ≤ 9223372036854775807) :
    Calls Tryz.prog 4 #[vl, .agg #[.int .i64 (a), .int .i64 (b), .int .i64 (c), .int .i64 (d), .int .i64 (e), .int .i64 (f)], .int .i64 s, .int .i64 t] w fun e w' => e = .returned (.bool true) ∧ Below w.heap.size w w' := wBlocked0 ⟨a, b, c, d, e, f⟩ l vl s t w hl nl
end Go.Proofs.YtegibpepdndocabGreat
end
section
namespace Go.Proofs.YtegibpepdndocabGreat
open Go Go.ChangeShapes Go.WideShapes

/- values whose cells are integers and bools alone: what stands in each cell -/
def kindAt (P : Program) : Nat → TypeId → Nat → Option (Option IntKind)
  | 0, _, _ => none
  | m + 1, t, off =>
    match P.underlying t with
    | some .bool => if off = 0 then some none else none
    | some (.int k) => if off = 0 then some (some k) else none
    | some (.struct fs) => fs.toList.findSome? fun f => if f.offset ≤ off ∧ off < f.offset + P.cellsOf f.type then kindAt P m f.type (off - f.offset) else none
    | some (.array n e) => if P.cellsOf e = 0 ∨ n * P.cellsOf e ≤ off then none else kindAt P m e (off % P.cellsOf e)
    | _ => none
def fitsK : Option IntKind → Value → Prop
  | none, v => ∃ b, v = .bool b
  | some k, v => ∃ n, v = .int k n ∧ (Lit.int k n).wf = true
theorem get_cut {α : Type} {cs : List α} {o c i : Nat} {v : α} (h : ((cs.drop o).take c)[i]? = some v) : cs[o + i]? = some v := by
  rw [List.getElem?_take] at h
  split at h
  · rwa [List.getElem?_drop] at h
  · cases h
theorem kindAt_spec {H : Type} {enc : TypeId × Value → H} {P : Program} {w : World} {base : Nat} {spare : Nat → Bool} {held : Bool} :
    ∀ (m : Nat) (t : TypeId) (off n : Nat) (cs : List Value) (x : DataW H × List MemPlace) (k : Option IntKind), DataW.trod enc P w base spare held n t cs = some x → kindAt P m t off = some k → ∃ v, cs[off]? = some v ∧ fitsK k v
  | 0, _, _, _, _, _, _, _, h => by cases h
  | m + 1, t, off, n, cs, x, k, ht, h => by
    unfold kindAt at h
    split at h
    · rename_i hu
      split at h
      · rename_i h0; subst h0; cases h
        obtain ⟨b, rfl, _⟩ := DataW.trod_bool hu ht
        exact ⟨_, rfl, b, rfl⟩
      · cases h
    · rename_i k' hu
      split at h
      · rename_i h0; subst h0; cases h
        obtain ⟨a, rfl, _, hw⟩ := DataW.trod_int hu ht
        exact ⟨_, rfl, a, rfl, hw⟩
      · cases h
    · rename_i fs hu
      obtain ⟨f, hf, hif⟩ := List.exists_of_findSome?_eq_some h
      split at hif
      · rename_i hr
        obtain ⟨xs, n', _, _, _, hl, hg⟩ := DataW.trod_struct hu ht
        obtain ⟨i, hi, hfi⟩ := List.getElem_of_mem hf
        have hfs : fs[i]? = some f := by
          rw [← hfi]; simp at hi; simp [hi]
        have hlt : i < xs.length := by rw [hl]; simpa using hi
        have h1 := hg i f hfs
        rw [List.getElem?_eq_getElem hlt] at h1
        obtain ⟨v, hv, hk⟩ := kindAt_spec m f.type (off - f.offset) n' _ _ k h1 hif
        have h2 := get_cut hv
        rw [show f.offset + (off - f.offset) = off by omega] at h2
        exact ⟨v, h2, hk⟩
      · cases hif
    · rename_i c e hu
      split at h
      · cases h
      · rename_i hno
        obtain ⟨xs, n', _, _, _, hl, hg⟩ := DataW.trod_array hu ht
        have hpos : 0 < P.cellsOf e := by omega
        have hlt : off / P.cellsOf e < c := by
          rw [Nat.div_lt_iff_lt_mul hpos]; omega
        have h1 := hg (off / P.cellsOf e) hlt
        rw [List.getElem?_eq_getElem (by rw [hl]; exact hlt)] at h1
        obtain ⟨v, hv, hk⟩ := kindAt_spec m e (off % P.cellsOf e) n' _ _ k h1 h
        have h2 := get_cut hv
        rw [Nat.mul_comm, Nat.div_add_mod] at h2
        exact ⟨v, h2, hk⟩
    · cases h
def Fits : List (Option IntKind) → List Value → Prop
  | [], cs => cs = []
  | none :: L, cs => ∃ b rest, cs = .bool b :: rest ∧ Fits L rest
  | some k :: L, cs => ∃ n rest, (Lit.int k n).wf = true ∧ cs = .int k n :: rest ∧ Fits L rest
theorem fits_of : ∀ (L : List (Option IntKind)) (cs : List Value), cs.length = L.length → (∀ (i : Nat) (k : Option IntKind), L[i]? = some k → ∃ v, cs[i]? = some v ∧ fitsK k v) → Fits L cs
  | [], cs, hl, _ => by simpa [Fits] using hl
  | k :: L, [], hl, _ => by simp at hl
  | k :: L, c :: cs, hl, h => by
    have h0 := h 0 k rfl
    have ih := fits_of L cs (by simpa using hl) (fun i k' hi => by have := h (i + 1) k' (by simpa using hi); simpa using this)
    obtain ⟨v, hv, hk⟩ := h0
    have : c = v := by simpa using hv
    subst this
    cases k with
    | none => obtain ⟨b, rfl⟩ := hk; exact ⟨b, cs, rfl, ih⟩
    | some k => obtain ⟨n, rfl, hw⟩ := hk; exact ⟨n, cs, hw, rfl, ih⟩
theorem open_flat {H : Type} {enc : TypeId × Value → H} {P : Program} {w : World} {base : Nat} {spare : Nat → Bool} {held : Bool} {r : Reach} {b0 : Nat} {t : TypeId} {fs : Array Field} {v : Value} {d : DataW H} {p : List MemPlace}
    (hs : P.underlying t = some (.struct fs)) (hv : Value.okWide P w r b0 t v) (h : DataW.Trod enc P w base spare held t v d p) (L : List (Option IntKind)) (hN : P.cellsOf t = L.length)
    (hk : (List.range L.length).map (kindAt P 9 t) = L.map some) : ∃ cs, v = .agg cs.toArray ∧ Fits L cs := by
  obtain ⟨cs, rfl, hsz⟩ := okWide_struct hs hv
  obtain ⟨fuel, hf⟩ := h
  refine ⟨cs.toList, by simp, fits_of L _ (by simp [hsz, hN]) fun i k hi => ?_⟩
  refine kindAt_spec 9 t i fuel _ _ k hf ?_
  have h1 : (List.map (kindAt P 9 t) (List.range L.length))[i]? = (L.map some)[i]? := by rw [hk]
  have hlt : i < L.length := (List.getElem?_eq_some_iff.1 hi).1
  rw [List.getElem?_map, List.getElem?_map, hi, List.getElem?_range hlt] at h1
  simpa using h1
end Go.Proofs.YtegibpepdndocabGreat
end
section
namespace Go.Proofs.YtegibpepdndocabGreat
open Go.ChangeShapes Go.WideShapes Go.ChangeAt Go.RowKit
set_option linter.unusedVariables false
/- a list of structs of integers and bools that a law gets, out of its reading: each cell of each element -/
theorem elemsK_of {H : Type} {enc : TypeId × Value → H} {P : Program} {W : World} {t e : TypeId} {A : Option Addr} {n c : Nat} {d : DataW H} {p : List MemPlace} (ht : P.underlying t = some (.slice e))
    (C : Nat) (hC : P.cellsOf e = C) (hC0 : 0 < C) (K : Nat → Option IntKind) (hk : ∀ j, j < C → kindAt P 9 e j = some (K j)) (h : DataW.Trod enc P W 0 (fun _ => true) true t (.slice A n c) d p) :
    n ≤ 9223372036854775807 ∧ (0 < n → ∃ b off, A = some ⟨b, off, none⟩ ∧ ∀ i j, i < n → j < C → ∃ v, W.cell? ⟨b, off + i * C + j, none⟩ = some v ∧ fitsK (K j) v) := by
  obtain ⟨fuel, hf⟩ := h
  rcases Go.Deep.open_slice ht hf with ⟨hc, _⟩ | ⟨a, len, cap, m, n0, D, Pl, hc, _, hl, hm, hmm, _, hel⟩
  · simp [Value.cells] at hc
    obtain ⟨rfl, rfl, rfl⟩ := hc
    exact ⟨by omega, fun h => by omega⟩
  · simp [Value.cells] at hc
    obtain ⟨rfl, rfl, rfl⟩ := hc
    simp only [if_true] at hmm
    have hm' : c ≤ 9223372036854775807 := by unfold maxLen at hm; omega
    refine ⟨by omega, fun h0 => ?_⟩
    have each : ∀ i j, i < n → j < C → ∃ v, W.cell? ((a.add (i * C)).add j) = some v ∧ fitsK (K j) v := fun i j hi hj => by
      obtain ⟨cs', h1, h2⟩ := hel i (by omega)
      rw [hC] at h1
      obtain ⟨_, _, h3⟩ := World.cells?_some h1
      obtain ⟨v, hv, hz⟩ := kindAt_spec 9 e j n0 cs' _ _ h2 (hk j hj)
      exact ⟨v, by rw [h3 j hj, hv], hz⟩
    obtain ⟨b, off, spot⟩ := a
    obtain ⟨z0, hz0, _⟩ := each 0 0 h0 hC0
    have hspot : spot = none := by
      have := World.cell?_spot hz0
      simpa [Addr.add] using this
    subst hspot
    refine ⟨b, off, rfl, fun i j hi hj => ?_⟩
    obtain ⟨v, hv, hz⟩ := each i j hi hj
    rw [Go.WideShapes.add_plain, Go.WideShapes.add_plain] at hv
    exact ⟨v, hv, hz⟩
instance : Inhabited Pt := ⟨Pt.zero⟩
def kindP (j : Nat) : Option IntKind := if 18 ≤ j ∧ j ≤ 20 then none else some .i64
theorem kp0 : kindAt Tryz.prog 9 35 0 = some (kindP 0) := by kernel_rfl
theorem kp1 : kindAt Tryz.prog 9 35 1 = some (kindP 1) := by kernel_rfl
theorem kp2 : kindAt Tryz.prog 9 35 2 = some (kindP 2) := by kernel_rfl
theorem kp3 : kindAt Tryz.prog 9 35 3 = some (kindP 3) := by kernel_rfl
theorem kp4 : kindAt Tryz.prog 9 35 4 = some (kindP 4) := by kernel_rfl
theorem kp5 : kindAt Tryz.prog 9 35 5 = some (kindP 5) := by kernel_rfl
theorem kp6 : kindAt Tryz.prog 9 35 6 = some (kindP 6) := by kernel_rfl
theorem kp7 : kindAt Tryz.prog 9 35 7 = some (kindP 7) := by kernel_rfl
theorem kp8 : kindAt Tryz.prog 9 35 8 = some (kindP 8) := by kernel_rfl
theorem kp9 : kindAt Tryz.prog 9 35 9 = some (kindP 9) := by kernel_rfl
theorem kp10 : kindAt Tryz.prog 9 35 10 = some (kindP 10) := by kernel_rfl
theorem kp11 : kindAt Tryz.prog 9 35 11 = some (kindP 11) := by kernel_rfl
theorem kp12 : kindAt Tryz.prog 9 35 12 = some (kindP 12) := by kernel_rfl
theorem kp13 : kindAt Tryz.prog 9 35 13 = some (kindP 13) := by kernel_rfl
theorem kp14 : kindAt Tryz.prog 9 35 14 = some (kindP 14) := by kernel_rfl
theorem kp15 : kindAt Tryz.prog 9 35 15 = some (kindP 15) := by kernel_rfl
theorem kp16 : kindAt Tryz.prog 9 35 16 = some (kindP 16) := by kernel_rfl
theorem kp17 : kindAt Tryz.prog 9 35 17 = some (kindP 17) := by kernel_rfl
theorem kp18 : kindAt Tryz.prog 9 35 18 = some (kindP 18) := by kernel_rfl
theorem kp19 : kindAt Tryz.prog 9 35 19 = some (kindP 19) := by kernel_rfl
theorem kp20 : kindAt Tryz.prog 9 35 20 = some (kindP 20) := by kernel_rfl
theorem kp21 : kindAt Tryz.prog 9 35 21 = some (kindP 21) := by kernel_rfl
theorem kp22 : kindAt Tryz.prog 9 35 22 = some (kindP 22) := by kernel_rfl
theorem kp23 : kindAt Tryz.prog 9 35 23 = some (kindP 23) := by kernel_rfl
theorem kp24 : kindAt Tryz.prog 9 35 24 = some (kindP 24) := by kernel_rfl
theorem kp25 : kindAt Tryz.prog 9 35 25 = some (kindP 25) := by kernel_rfl
theorem kp26 : kindAt Tryz.prog 9 35 26 = some (kindP 26) := by kernel_rfl
theorem kpAll (j : Nat) (hj : j < 27) : kindAt Tryz.prog 9 35 j = some (kindP j) := by
  have : j = 0 ∨ j = 1 ∨ j = 2 ∨ j = 3 ∨ j = 4 ∨ j = 5 ∨ j = 6 ∨ j = 7 ∨ j = 8 ∨ j = 9 ∨ j = 10 ∨ j = 11 ∨ j = 12 ∨ j = 13 ∨ j = 14 ∨ j = 15 ∨ j = 16 ∨ j = 17 ∨ j = 18 ∨ j = 19 ∨ j = 20 ∨ j = 21 ∨ j = 22 ∨ j = 23 ∨ j = 24 ∨ j = 25 ∨ j = 26 := by omega
  rcases this with rfl | rfl | rfl | rfl | rfl | rfl | rfl | rfl | rfl | rfl | rfl | rfl | rfl | rfl | rfl | rfl | rfl | rfl | rfl | rfl | rfl | rfl | rfl | rfl | rfl | rfl | rfl
  · exact kp0
  · exact kp1
  · exact kp2
  · exact kp3
  · exact kp4
  · exact kp5
  · exact kp6
  · exact kp7
  · exact kp8
  · exact kp9
  · exact kp10
  · exact kp11
  · exact kp12
  · exact kp13
  · exact kp14
  · exact kp15
  · exact kp16
  · exact kp17
  · exact kp18
  · exact kp19
  · exact kp20
  · exact kp21
  · exact kp22
  · exact kp23
  · exact kp24
  · exact kp25
  · exact kp26
set_option maxRecDepth 100000 in
theorem parts_of {H : Type} {enc : TypeId × Value → H} {W : World} {A : Option Addr} {n c : Nat} {d : DataW H} {p : List MemPlace}
    (h : DataW.Trod enc Tryz.prog W 0 (fun _ => true) true 56 (.slice A n c) d p) : ∃ l, PIn W (.slice A n c) l ∧ l.length ≤ 9223372036854775807 := by
  obtain ⟨hn, hr⟩ := elemsK_of Tryz.underlying56 27 (by kernel_rfl) (by omega) kindP kpAll h
  by_cases h0 : 0 < n
  · obtain ⟨b, off, rfl, hc⟩ := hr h0
    obtain ⟨f, hf⟩ := Go.Deep.choose_lt (n := n) (p := fun i s => Pat W b (off + i * 27) s) fun i hi => by
      obtain ⟨_, e0, z0, rfl, _⟩ := hc i 0 hi (by omega)
      obtain ⟨_, e1, z1, rfl, _⟩ := hc i 1 hi (by omega)
      obtain ⟨_, e2, z2, rfl, _⟩ := hc i 2 hi (by omega)
      obtain ⟨_, e3, z3, rfl, _⟩ := hc i 3 hi (by omega)
      obtain ⟨_, e4, z4, rfl, _⟩ := hc i 4 hi (by omega)
      obtain ⟨_, e5, z5, rfl, _⟩ := hc i 5 hi (by omega)
      obtain ⟨_, e6, z6, rfl, _⟩ := hc i 6 hi (by omega)
      obtain ⟨_, e7, z7, rfl, _⟩ := hc i 7 hi (by omega)
      obtain ⟨_, e8, z8, rfl, _⟩ := hc i 8 hi (by omega)
      obtain ⟨_, e9, z9, rfl, _⟩ := hc i 9 hi (by omega)
      obtain ⟨_, e10, z10, rfl, _⟩ := hc i 10 hi (by omega)
      obtain ⟨_, e11, z11, rfl, _⟩ := hc i 11 hi (by omega)
      obtain ⟨_, e12, z12, rfl, _⟩ := hc i 12 hi (by omega)
      obtain ⟨_, e13, z13, rfl, _⟩ := hc i 13 hi (by omega)
      obtain ⟨_, e14, z14, rfl, _⟩ := hc i 14 hi (by omega)
      obtain ⟨_, e15, z15, rfl, _⟩ := hc i 15 hi (by omega)
      obtain ⟨_, e16, z16, rfl, _⟩ := hc i 16 hi (by omega)
      obtain ⟨_, e17, z17, rfl, _⟩ := hc i 17 hi (by omega)
      obtain ⟨_, e18, z18, rfl⟩ := hc i 18 hi (by omega)
      obtain ⟨_, e19, z19, rfl⟩ := hc i 19 hi (by omega)
      obtain ⟨_, e20, z20, rfl⟩ := hc i 20 hi (by omega)
      obtain ⟨_, e21, z21, rfl, _⟩ := hc i 21 hi (by omega)
      obtain ⟨_, e22, z22, rfl, _⟩ := hc i 22 hi (by omega)
      obtain ⟨_, e23, z23, rfl, _⟩ := hc i 23 hi (by omega)
      obtain ⟨_, e24, z24, rfl, _⟩ := hc i 24 hi (by omega)
      obtain ⟨_, e25, z25, rfl, _⟩ := hc i 25 hi (by omega)
      obtain ⟨_, e26, z26, rfl, _⟩ := hc i 26 hi (by omega)
      refine ⟨⟨z0, ⟨z1, z2, z3, z4⟩, ⟨z5, z6, z7, z8⟩, ⟨z9, z10, z11, z12, z13, z14⟩, ⟨z15, z16, z17, z18, z19, z20, z21, z22, z23⟩, z24, z25, z26⟩, fun j v hj => ?_⟩
      have hlt : j < 27 := (List.getElem?_eq_some_iff.1 hj).1
      have : j = 0 ∨ j = 1 ∨ j = 2 ∨ j = 3 ∨ j = 4 ∨ j = 5 ∨ j = 6 ∨ j = 7 ∨ j = 8 ∨ j = 9 ∨ j = 10 ∨ j = 11 ∨ j = 12 ∨ j = 13 ∨ j = 14 ∨ j = 15 ∨ j = 16 ∨ j = 17 ∨ j = 18 ∨ j = 19 ∨ j = 20 ∨ j = 21 ∨ j = 22 ∨ j = 23 ∨ j = 24 ∨ j = 25 ∨ j = 26 := by omega
      rcases this with rfl | rfl | rfl | rfl | rfl | rfl | rfl | rfl | rfl | rfl | rfl | rfl | rfl | rfl | rfl | rfl | rfl | rfl | rfl | rfl | rfl | rfl | rfl | rfl | rfl | rfl | rfl
      · cases hj; exact e0
      · cases hj; exact e1
      · cases hj; exact e2
      · cases hj; exact e3
      · cases hj; exact e4
      · cases hj; exact e5
      · cases hj; exact e6
      · cases hj; exact e7
      · cases hj; exact e8
      · cases hj; exact e9
      · cases hj; exact e10
      · cases hj; exact e11
      · cases hj; exact e12
      · cases hj; exact e13
      · cases hj; exact e14
      · cases hj; exact e15
      · cases hj; exact e16
      · cases hj; exact e17
      · cases hj; exact e18
      · cases hj; exact e19
      · cases hj; exact e20
      · cases hj; exact e21
      · cases hj; exact e22
      · cases hj; exact e23
      · cases hj; exact e24
      · cases hj; exact e25
      · cases hj; exact e26
    exact ⟨(List.range n).map f, ⟨some ⟨b, off, none⟩, c, by simp, fun _ => ⟨b, off, rfl, fun i hi => by simpa using hf i (by simpa using hi)⟩⟩, by simpa using hn⟩
  · obtain rfl : n = 0 := by omega
    exact ⟨[], ⟨A, c, rfl, fun h => absurd h (by simp)⟩, by simp⟩
end Go.Proofs.YtegibpepdndocabGreat
end
