import Derived.Test.YtegibpepdndocabGreatHeldk
import Derived.Test.YtegibpepdndocabGreatSpMk
section
namespace Go.Proofs.YtegibpepdndocabGreat
open Go Go.RowKit

/- A region whose order is open and that ends in 'x = append(x, T{..})': all that is reckoned gives the same value in every world that meets S (what was there is as it was, but for the row that grows); the new block, the append and the assignment come last. F: what stays true while only new memory comes; G: what is known behind the append. -/
section
variable {P : Program} {ops : Array Oper} {Q : Exit → Act → World → Prop} {md : Region.Mode} {S : World → Prop}
theorem heldAny_lexF {g : Nat} {T : Nat → Array Bool → Bool} {F : World → Prop} (hstabF : ∀ w1 w2, F w1 → Below w1.heap.size w1 w2 → F w2) (hstab : ∀ w w', S w → Below w.heap.size w w' → S w') (hsel : Region.noSelect ops = true) (hl : lastWaits md ops = true)
    (hQ : ∀ c a w (d : Option Tmp) (v : Value), Q (.panic c) (a.put d v) w → Q (.panic c) a w) {Fin : Act → Prop} {n : Nat} (hn : n < ops.size)
    (hfin : ∀ listed a, T n listed = true → Fin a → ∀ w, S w → F w → heldAny P md ops Q S g listed a w) :
    ∀ (l : List Oper) (k : Nat) (listed : Array Bool) (a : Act), (∀ j, j < l.length → l[j]? = ops[k + j]?) → k + l.length = n → listed.getD (ops.size - 1) true = false →
    headB md ops T l.length k listed = true → wpHeld P ops S Fin l a → ∀ w, S w → F w → heldAny P md ops Q S (l.length + g) listed a w
  | [], k, listed, a, _, hk, hu, hB, h => by
    have : k = n := by simpa using hk
    subst this
    simpa using hfin listed a (by simpa [headB] using hB) h
  | o :: l, k, listed, a, hlst, hk, hu, hB, h => by
    have h0 : ops[k]? = some o := by simpa using (hlst 0 (by simp)).symm
    simp only [List.length_cons, headB, Bool.and_eq_true] at hB
    obtain ⟨⟨hr, hf⟩, hB'⟩ := hB
    have hkn : k < n := by simp only [List.length_cons] at hk; omega
    have hkl : k ≠ ops.size - 1 := by omega
    have hr' : k ∈ Region.ready md ops listed := by simpa using hr
    obtain ⟨v, hy, hK⟩ := h
    rw [List.length_cons, show l.length + 1 + g = (l.length + g) + 1 by omega]
    intro w hS hFw
    exact heldAny_first (last := ops.size - 1) (F := F) hstab h0 (Region.noSelect_spec hsel) (fun c a w => hQ c a w _ _) hkl (by omega) (lastWaits_spec hl (by omega)) (l.length + g) listed a hstabF hu
      (Region.free_spec h0 hf) hr' hy
      (fun w hS hFw => heldAny_lexF hstabF hstab hsel hl hQ hn hfin l (k + 1) _ _ (fun j hj => by have := hlst (j + 1) (by simp; omega); simpa [Nat.add_assoc, Nat.add_comm 1 j] using this) (by simp only [List.length_cons] at hk; omega)
        (by rw [getD_set_ne true hkl]; exact hu) hB' hK w hS hFw) w hS hFw

def tail3B (md : Region.Mode) (ops : Array Oper) (n : Nat) (listed : Array Bool) : Bool :=
  decide (Region.ready md ops listed = [n]) && decide (n + 3 = ops.size) && seenB n listed && decide (Region.ready md ops (listed.setIfInBounds n true) = [n + 1]) &&
    decide (Region.ready md ops ((listed.setIfInBounds n true).setIfInBounds (n + 1) true) = [n + 2])
theorem upon_VGo {P : Program} {Q : Exit → Act → World → Prop} {o : Oper} {a : Act} {v : Value} {w w' : World} {K : Act → World → Prop}
    (h : VGo P (fun u x => u = v ∧ x = w') ((execOp a.eval o).run P w)) (hK : K (a.put o.dst v) w') : o.wp P a w K Q := by
  unfold Oper.wp
  generalize (execOp a.eval o).run P w = r at *
  cases r with
  | ok n x =>
    cases n <;> simp only [VGo] at h <;> simp only [Oper.upon]
    case value u => obtain ⟨rfl, rfl⟩ := h; exact hK
    case skip => obtain ⟨hu, rfl⟩ := h; rw [hu]; exact hK
    case enter f args => exact Calls.mono h fun e w'' ⟨u, he, hu, hw⟩ => by subst he; subst hu; subst hw; exact hK
  | halt x w' => simp only [VGo] at h

theorem held_tail3 {n m : Nat} {ob oa o : Oper} {obj : Obj} {listed : Array Bool} {a : Act} {N : Nat} {F : World → Prop} {G : Value → World → Prop} (hstab : ∀ w w', S w → Below w.heap.size w w' → S w') (hN : ∀ w, S w → N ≤ w.heap.size)
    (hstabF : ∀ w1 w2, F w1 → Below w1.heap.size w1 w2 → F w2) (hstabG : ∀ v w1 w2, G v w1 → Below w1.heap.size w1 w2 → G v w2)
    (hob : ops[n]? = some ob) (hoa : ops[n + 1]? = some oa) (ho : ops[n + 2]? = some o) (hT : tail3B md ops n listed = true) (hg : Region.wanted ob (yielded ops a.tmps) = true)
    (hal : ∀ w, S w → F w → ∀ K : Value → World → Prop, K (.slice (some ⟨w.heap.size, 0, none⟩) m m) (w.alloc obj) → VGo P K ((execOp a.eval ob).run P w))
    (hga : ∀ b, Region.wanted oa (yielded ops (a.put ob.dst (.slice (some ⟨b, 0, none⟩) m m)).tmps) = true)
    (happ : ∀ b w, S w → F w → N ≤ b → w.heap[b]? = some obj → ∀ K : Act → World → Prop, (∀ v' w', S w' → G v' w' → K ((a.put ob.dst (.slice (some ⟨b, 0, none⟩) m m)).put oa.dst v') w') → oa.wp P (a.put ob.dst (.slice (some ⟨b, 0, none⟩) m m)) w K Q)
    (h : ∀ b v' w, S w → N ≤ b → G v' w → wpList P ops Q [o] ((a.put ob.dst (.slice (some ⟨b, 0, none⟩) m m)).put oa.dst v') w) (w : World) (hS : S w) (hF : F w) : heldAny P md ops Q S 3 listed a w := by
  simp only [tail3B, Bool.and_eq_true, decide_eq_true_eq] at hT
  obtain ⟨⟨⟨⟨hr, hn⟩, hs⟩, hr2⟩, hr3⟩ := hT
  refine ⟨by rw [hr]; simp, hS, F, hstabF, hF, fun w1 hS1 hF1 i hi => ?_⟩
  rw [hr] at hi
  have hin : i = n := by simpa using hi
  subst hin
  unfold wpOp
  simp only [hob, hg, if_true]
  refine .inl (upon_VGo (hal w1 hS1 hF1 _ ⟨rfl, rfl⟩) ?_)
  have hb1 : Below w1.heap.size w1 (w1.alloc obj) := (Below.refl _ _).alloc (Nat.le_refl _) _
  refine ⟨by rw [hr2]; simp, hstab _ _ hS1 hb1, fun w2 => F w2 ∧ w2.heap[w1.heap.size]? = some obj, fun w2 w3 hF2 hb => ⟨hstabF _ _ hF2.1 hb, ?_⟩, ⟨hstabF _ _ hF1 hb1, ?_⟩, fun w2 hS2 hF2 j hj => ?_⟩
  · have hlt : w1.heap.size < w2.heap.size := (Array.getElem?_eq_some_iff.1 hF2.2).1
    show w3.heap[w1.heap.size]? = some obj
    rw [hb.block _ hlt]; exact hF2.2
  · show (w1.heap.push obj)[w1.heap.size]? = some obj
    simp
  · rw [hr2] at hj
    have hjn : j = i + 1 := by simpa using hj
    subst hjn
    unfold wpOp
    simp only [hoa, hga, if_true]
    refine .inl (happ _ w2 hS2 hF2.1 (hN _ hS1) hF2.2 _ fun v' w3 hS3 hG3 => ?_)
    refine ⟨by rw [hr3]; simp, hS3, G v', hstabG v', hG3, fun w4 hS4 hG4 k hk => ?_⟩
    rw [hr3] at hk
    have hkn : k = i + 2 := by simpa using hk
    subst hkn
    have hw := h w1.heap.size v' w4 hS4 (hN _ hS1) hG4
    have hw2 : wpOp P ops Q (i + 2) (wpList P ops Q []) ((a.put ob.dst (.slice (some ⟨w1.heap.size, 0, none⟩) m m)).put oa.dst v') w4 := by unfold wpOp; simp only [ho]; exact hw
    refine wpOp_mono (fun a' w' h' => ⟨fun q hq => ?_, h'⟩) hw2
    by_cases e : q = i + 2
    · subst e; exact seen_set _
    · by_cases e1 : q = i + 1
      · subst e1; exact seen_keep (seen_set _)
      · by_cases e2 : q = i
        · subst e2; exact seen_keep (seen_keep (seen_set _))
        · exact seen_keep (seen_keep (seen_keep (seenB_spec hs (by omega))))
end
def held3B (ops : Array Oper) (n : Nat) : Bool :=
  Region.noSelect ops && lastWaits .any ops && decide (n < ops.size) && headB .any ops (tail3B .any ops) n 0 (Array.replicate ops.size false)
theorem wp_region_heldA {P : Program} {Q : Exit → Act → World → Prop} {id : Nat} {a : Act} {w : World} {l : List Oper} {ob oa o : Oper} (n : Nat) (hm : P.follows .mixedOrders = true) (hB : held3B l.toArray n = true) (hdb : l[n]? = some ob) (hda : l[n + 1]? = some oa) (hd : l[n + 2]? = some o)
    (hQ : ∀ c a w (d : Option Tmp) (v : Value), Q (.panic c) (a.put d v) w → Q (.panic c) a w) (S F : World → Prop) (N : Nat) (hstab : ∀ w w', S w → Below w.heap.size w w' → S w') (hN : ∀ w, S w → N ≤ w.heap.size)
    (hstabF : ∀ w1 w2, F w1 → Below w1.heap.size w1 w2 → F w2) (hS : S w.drew) (hF : F w.drew)
    (h : ∀ Fin : Act → Prop, (∀ a', (∃ (m : Nat) (obj : Obj) (G : Value → World → Prop), (∀ v w1 w2, G v w1 → Below w1.heap.size w1 w2 → G v w2) ∧ Region.wanted ob (yielded l.toArray a'.tmps) = true ∧
      (∀ w, S w → F w → ∀ K : Value → World → Prop, K (.slice (some ⟨w.heap.size, 0, none⟩) m m) (w.alloc obj) → VGo P K ((execOp a'.eval ob).run P w)) ∧
      (∀ b, Region.wanted oa (yielded l.toArray (a'.put ob.dst (.slice (some ⟨b, 0, none⟩) m m)).tmps) = true) ∧
      (∀ b w, S w → F w → N ≤ b → w.heap[b]? = some obj → ∀ K : Act → World → Prop, (∀ v' w', S w' → G v' w' → K ((a'.put ob.dst (.slice (some ⟨b, 0, none⟩) m m)).put oa.dst v') w') → oa.wp P (a'.put ob.dst (.slice (some ⟨b, 0, none⟩) m m)) w K Q) ∧
      (∀ b v' w, S w → N ≤ b → G v' w → wpList P l.toArray Q [o] ((a'.put ob.dst (.slice (some ⟨b, 0, none⟩) m m)).put oa.dst v') w)) → Fin a') →
      wpHeld P l.toArray S Fin (l.take n) a) : (Code.region id l.toArray true).wp P Q a w := by
  replace h := h _ (fun _ hf => hf)
  simp only [held3B, Bool.and_eq_true, decide_eq_true_eq] at hB
  obtain ⟨⟨⟨hsel, hl⟩, hn⟩, hh⟩ := hB
  have hn' : n < l.length := by simpa using hn
  have htl : (l.take n).length = n := by simp; omega
  have hT1 : n + 3 = l.toArray.size := by
    have : ∀ (f k : Nat) (listed : Array Bool), headB .any l.toArray (tail3B .any l.toArray) f k listed = true → k + f + 3 = l.toArray.size := by
      intro f
      induction f with
      | zero => intro k listed hb; simp only [headB, tail3B, Bool.and_eq_true, decide_eq_true_eq] at hb; omega
      | succ f ih => intro k listed hb; simp only [headB, Bool.and_eq_true] at hb; have := ih (k + 1) _ hb.2; omega
    have := this n 0 _ hh
    omega
  refine wp_region_any hm (wpAny_of_heldAny (md := .any) (S := S) _ _ _ _ ?_)
  have := heldAny_lexF (md := .any) (P := P) (ops := l.toArray) (Q := Q) (S := S) (g := 3) (T := tail3B .any l.toArray) hstabF hstab hsel hl hQ hn
    (fun listed a' hT ⟨m, obj, G, hG, hg, hal, hga, happ, hlast⟩ w' hS hF => held_tail3 (N := N) hstab hN hstabF hG (by simpa using hdb) (by simpa using hda) (by simpa using hd) hT hg hal hga happ hlast w' hS hF) (l.take n) 0 (Array.replicate l.toArray.size false) a
    (fun j hj => by have hj' : j < n := by rw [htl] at hj; exact hj
                    simp [hj']) (by simpa using htl) (new_last _ (by omega)) (by rw [htl]; exact hh) h w.drew hS hF
  rw [htl, hT1] at this
  exact this
/- what was there is as it was, but for the row that grows -/
theorem grown_stab {W : World} {row : Option Nat} (w w' : World) (h : W.grownBy w row) (k : Below w.heap.size w w') : W.grownBy w' row :=
  ⟨k.os.trans h.os, k.tape.trans h.tape, k.output.trans h.output, Nat.le_trans h.size k.size, fun i hi hne => (k.block i (Nat.lt_of_lt_of_le hi h.size)).trans (h.block i hi hne)⟩
end Go.Proofs.YtegibpepdndocabGreat
end
section
namespace Go.Proofs.YtegibpepdndocabGreat
open Go.ChangeShapes Go.WideShapes Go.ChangeAt Go.RowKit
set_option linter.unusedSimpArgs false
set_option linter.unusedVariables false
set_option maxHeartbeats 4000000

attribute [local go_sem] VGo_value VGo_skip VGo_enter
attribute [local go_sem] Pt.arr0 Pt.arr1 Pt.arr2 Pt.arr3 Pt.arr4 Pt.arr5 Pt.arr6 Pt.arr7 Pt.arr8 Pt.arr9 Pt.arr10 Pt.arr11 Pt.arr12 Pt.arr13 Pt.arr14 Pt.arr15 Pt.arr16 Pt.arr17 Pt.arr18 Pt.arr19 Pt.arr20 Pt.arr21 Pt.arr22 Pt.arr23 Pt.arr24 Pt.arr25 Pt.arr26
attribute [-go_sem] loadVar storeVar
attribute [local go_sem] lvA svA
attribute [local go_sem high] ptLoadNew ptStoreNew moStoreNew
theorem Pt.arrSize (q : Pt) : q.arr.size = 27 := rfl
theorem Pt.fill (q : Pt) : Array.foldl (fun (cs : Array Value) (x : Value × Nat) => cs.setIfInBounds x.snd x.fst) #[Value.int IntKind.i64 0, Value.int IntKind.i64 0, Value.int IntKind.i64 0, Value.int IntKind.i64 0, Value.int IntKind.i64 0, Value.int IntKind.i64 0, Value.int IntKind.i64 0, Value.int IntKind.i64 0, Value.int IntKind.i64 0, Value.int IntKind.i64 0, Value.int IntKind.i64 0, Value.int IntKind.i64 0, Value.int IntKind.i64 0, Value.int IntKind.i64 0, Value.int IntKind.i64 0, Value.int IntKind.i64 0, Value.int IntKind.i64 0, Value.int IntKind.i64 0, Value.bool false, Value.bool false, Value.bool false, Value.int IntKind.i64 0, Value.int IntKind.i64 0, Value.int IntKind.i64 0, Value.int IntKind.i64 0, Value.int IntKind.i64 0, Value.int IntKind.i64 0] q.arr.zipIdx 0 27 = q.arr := by kernel_rfl
attribute [local go_sem] Pt.arrSize Pt.fill
theorem Pat.k {w : World} {b k : Nat} {p : Pt} (h : Pat w b k p) : w.cell? ⟨b, k, none⟩ = some (.int .i64 p.k) := by have := h 0 _ rfl; exact this
theorem lv_succ (l : List Pt) (j : Nat) : (List.range (j + 1)).map (lv l) = (List.range j).map (lv l) ++ [lv l j] := by simp [List.range_succ]
set_option maxRecDepth 100000 in
theorem l7Leaves_any (l : List Pt) (v : Value) (w : World) (hl : PIn w v l) (hF : SForm l) (hM : ∀ i, i < l.length → MOk l i) : Calls Tryz.prog 85 #[v] w fun e w' => ∃ v', e = .returned v' ∧ PRow w' w.heap.size v' (lvs l) ∧ Below w.heap.size w w' := by
  have h1 : 1 ≤ l.length := hF.1.1.1
  have h24 : l.length ≤ 24 := hF.1.1.2
  have HL := Lib.hid hl
  obtain ⟨A, c, rfl, hf⟩ := hl
  obtain ⟨b, off, rfl, hr⟩ := hf h1
  have HR := Lib.hid hr
  have HF := Lib.hid hF
  have HM := Lib.hid hM
  clear hr hF hf hM
  go_enter Tryz.func85, Tryz.ntmps85
  go_upto_region 3 with (go_at_call 97; (with_reducible refine (l7Motions_any l _ _ HL.out HF.out).mono ?_); rintro e w2 ⟨vm, rfl, hm, hb⟩; obtain ⟨A2, cm, hv, hA2, -⟩ := hm.shape; rw [List.length_map, List.length_range] at hv hA2; obtain ⟨gm, hgm, hg1, hg2⟩ := hA2 h1; subst hgm; subst hv; clear hA2)
  have hr0 : PRow (w2.alloc (.cells #[] 49)) w2.heap.size (.slice (some ⟨w2.heap.size, 0, none⟩) 0 0) [] := RowK.empty w2 _ _ _ (Nat.le_refl _)
  have hm0 := RowK.alloc hm (.cells #[] 49)
  have hb0 := lowAlloc hb (.cells #[] 49)
  have hw2 := hb.size
  have hgl : gm < (w2.alloc (.cells #[] 49)).heap.size := by simp; omega
  clear hm hb
  generalize hB : w2.heap.size = B at hr0 hg2 hw2 ⊢
  generalize w2.alloc (.cells #[] 49) = w3 at hr0 hm0 hb0 hgl ⊢
  have hBw : B ≤ w3.heap.size := by
    obtain ⟨A3, c3, hv3, _, h3⟩ := hr0.shape
    have := (hr0.own.lt B (by rfl)).2
    omega
  clear hB w2
  go_wp2
  go_loopw [5, 6] (fun o i wr => ∃ (j : Nat) (vo : Value), j ≤ l.length ∧ i = .int .i64 j ∧ vo = o ∧ PRow wr B vo ((List.range j).map (lv l)) ∧ MRo wr w.heap.size (.slice (some ⟨gm, 0, none⟩) l.length cm) l.length (Jn Mo.rest l l.length) ∧ B ≤ wr.heap.size ∧ Below w.heap.size w wr) (fun _ i _ => l.length - (intOf i).toNat)
  case atStart => exact ⟨0, _, by omega, rfl, rfl, hr0, hm0, hBw, hb0⟩
  case round =>
    clear hr0 hm0 hb0 hgl hBw
    obtain ⟨j, vo, hj, rfl, rfl, hro, hmr, hBr, hb⟩ := hrel
    by_cases hc : j < l.length
    · have LD := HR.out j hc
      have hlt := LD.lt
      have NA : ∀ w', wr.drew.grownBy w' vo.ownBlock → Pat w' b (off + j * 27) l[j] := fun w' hg =>
        (LD.below hb).lift (hg.block b (Nat.lt_of_lt_of_le hlt hb.size) (fun e => by have := (hro.own.lt b e.symm).1; omega))
      have NM : ∀ w', wr.drew.grownBy w' vo.ownBlock → MRo w' w.heap.size (.slice (some ⟨gm, 0, none⟩) l.length cm) l.length (Jn Mo.rest l l.length) := fun w' hg =>
        RowK.kept (RowK.drew hmr) hg (.inr fun e => by have := (hro.own.lt gm e.symm).1; omega)
      have hjn : Jn Mo.rest l l.length j = mo l j := by
        have := jn_later HF.out.1 hc (j + 1) (by omega)
        rwa [show l.length - 1 - j + (j + 1) = l.length by omega] at this
      have hmok : (mo l j).ok := mo_ok HF.out.1 hc (fun i hi _ => HM.out i hi)
      have hpt := (HF.out.1.2.1 j hc hc).1
      have hpa := pa_get l j hc
      have CK := (LD.below hb).k
      have hlen : ((List.range j).map (lv l)).length = j := by simp
      have hls := lv_succ l j
      have hlv : lv l j = if (pa l j).k ≤ 2 then leafAt (mo l j) (pa l j) else pa l j := rfl
      rw [hpa] at hlv
      generalize l[j] = p at LD NA hpt CK hlv
      generalize (List.range j).map (lv l) = zs at hro hlen hls
      have HNA := Lib.hid NA
      have HNM := Lib.hid NM
      have HLS := Lib.hid hls
      have HLV := Lib.hid hlv
      have HLEN := Lib.hid hlen
      have HMO := Lib.hid hmok
      have HPT := Lib.hid hpt
      have HJN := Lib.hid hjn
      clear NA NM hls hlv hlen hmok hpt hjn hpa
      by_cases hk2 : p.k ≤ 2
      · have HK : Hid (0 ≤ p.k ∧ p.k ≤ 2) := Lib.hid ⟨HPT.out.1.1, hk2⟩
        have HLF := Lib.hid (HPT.out.2.1 hk2).2
        go_upto_region 7 with fail
        refine wp_region_heldA 10 (by kernel_rfl) (by kernel_rfl) rfl rfl rfl (fun _ _ _ d _ h => by cases d <;> exact h) (fun w' => wr.drew.grownBy w' vo.ownBlock) (fun w' => PRow w' B vo zs) wr.heap.size grown_stab (fun w' h => h.size) (fun w1 w2 h k => h.below k) (World.grownBy.refl _ _) hro.drew ?_
        intro Fq hFq
        simp only [List.take_succ_cons, List.take_zero]
        repeat (first | (refine wpHeld_skip (by rfl) ?_; ((try simp only [Act.put, List.setIfInBounds_toArray, List.set_cons_zero, List.set_cons_succ]))) | (refine wpHeld_run ?_ rfl ?_ ?_; rotate_left; (focus (intro w' hbq Kq hKq; go_simp; (try (rw [IntWalk.i64_in]; rotate_left; focus (constructor <;> omega))); first | exact hKq _ (Below.refl _ _) | first | (go_at_call 142; ((with_reducible refine (l7At_any (mo l j) p _ HMO.out HK.out HLF.out).mono ?_); rintro e w2 ⟨rfl, hbr⟩; refine back ?_; exact hKq _ hbr)) | (have c1 := (HNA.out _ hbq).load; have c2 := MRo.load (HNM.out _ hbq) j hc; rw [HJN.out] at c2; go_simp; exact hKq _ (Below.refl _ _)))); ((try simp only [Act.put, List.setIfInBounds_toArray, List.set_cons_zero, List.set_cons_succ]))))
        refine wpHeld_nil (hFq _ ⟨1, .cells (leafAt (mo l j) p).arr 49, fun v' w' => PRow w' B v' (zs ++ [leafAt (mo l j) p]), fun v' w1 w2 h k => h.below k, rfl, ?_, fun _ => rfl, ?_, ?_⟩)
        · intro w' _ _ K hK
          generalize leafAt (mo l j) p = q at hK ⊢
          generalize mo l j = mq at hK ⊢
          generalize dec _ = bd at hK ⊢
          clear HLEN HPT HJN HLV HLS HMO HNM HNA hmr hro hb HLF HK hFq
          go_simp
          exact hK
        · intro b1 w1 hS1 hF1 hN hB1 K hK
          refine append_wp w1 _ _ 59 49 27 200 Pt.zero.val rfl Tryz.underlying59 infoPt rfl (by omega) B vo _ [(leafAt (mo l j) p).cells] hF1 rfl b1 1 rfl _ _ hB1 (by simp [Pt.arr]) rfl (by intro y hy; obtain rfl := List.mem_singleton.1 hy; rfl) (by simpa using Pt.one (leafAt (mo l j) p)) (by rw [List.length_map, HLEN.out]; omega) (by omega) (by have := hS1.size; simp at this; omega) ?_
          intro v' w' h1 h2
          exact hK _ _ (by_trans hS1 h2) (by show PRow w' B v' (zs ++ [leafAt (mo l j) p]); unfold PRow; rw [List.map_append]; exact h1)
        · intro b1 v' w1 hS1 hN hG1
          have hG1 : PRow w1 B v' (zs ++ [leafAt (mo l j) p]) := hG1
          have hb2 : Below w.heap.size w w1 := (lowDrew hb).grown hS1 (by simpa using hb.size) (fun g hg => by have := (hro.own.lt g hg).1; omega)
          have hmr2 := HNM.out _ hS1
          have hG2 : PRow w1 B v' ((List.range (j + 1)).map (lv l)) := by rw [HLS.out, HLV.out, if_pos hk2]; exact hG1
          have hB2 : B ≤ w1.heap.size := by have := hS1.size; simp at this; omega
          clear HNA HNM HLS HLV hro hmr hb LD CK HLF HK HMO HPT HJN hG1 hS1
          go_wp2
          go_roundw
          case rel => exact ⟨j + 1, _, by omega, by go_num, rfl, hG2, hmr2, hB2, hb2⟩
          case measure => simp [intOf]; omega
      · have LP := (LD.below hb).load
        have hro2 := RowK.alloc hro (.cells p.arr 49)
        have hmr2 := RowK.alloc hmr (.cells p.arr 49)
        have hb2 := lowAlloc hb (.cells p.arr 49)
        clear HNA HNM HMO HJN
        go_wp2_with (at_builtin; refine append_k _ rfl _ _ _ 49 27 200 Pt.zero.val rfl Tryz.underlying59 infoPt rfl (by omega) B _ _ p.cells hro2 rfl wr.heap.size rfl _ _ (Has.new _ _ _) (by simp [Pt.arr]) rfl p.one (by rw [List.length_map, HLEN.out]; omega) (by omega) (by simp; omega) ?_; intro v' w3 hr3 hg3)
        have hg3s := hg3.size
        simp at hg3s
        have hG2 : PRow w3 B v' ((List.range (j + 1)).map (lv l)) := by rw [HLS.out, HLV.out, if_neg hk2]; unfold PRow; rw [List.map_append]; exact hr3
        exact ⟨⟨j + 1, _, by omega, by go_num, rfl, hG2, RowK.kept hmr2 hg3 (.inr fun e => by have := (hro.own.lt gm e.symm).1; omega), by omega, hb2.grown hg3 (by simp; have := hb.size; omega) (fun g hg => by have := (hro.own.lt g hg).1; omega)⟩, by simp [intOf]; omega⟩
    · obtain rfl : j = l.length := by omega
      go_wp2
      go_ret
      exact ⟨_, rfl, hro.mono (by omega), hb⟩
end Go.Proofs.YtegibpepdndocabGreat
end
