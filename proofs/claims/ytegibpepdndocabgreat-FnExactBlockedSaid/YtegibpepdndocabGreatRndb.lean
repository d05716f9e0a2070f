import Derived.LoopIn
import Derived.LoopNIn
import Derived.OrdersIn
import Derived.OwnWalkIn
import Derived.RangeFuncBound
import Derived.RangeFuncBox
import Derived.RangeFuncCalls
import Derived.RangeFuncLeaves
import Derived.RangeFuncNested
import Derived.Shelf.Abstract
import Derived.Shelf.RegionOpen
import Derived.Sort.CutIn
import Derived.TacticsInMore
import Derived.Test.YtegibpepdndocabGreatClnb
import Derived.Test.YtegibpepdndocabGreatTgWb
import Derived.WalkKit
section
namespace Go.Proofs.YtegibpepdndocabGreat
open Go.RowKit Go.Shelf
set_option linter.unusedSimpArgs false
set_option linter.unusedVariables false

attribute [local go_sem] Oper.semAt_some
attribute [-go_sem] loadVar storeVar
attribute [local go_sem] lvA svA lvVec lvHalf lvBall lvBox lvMot
/- what has come when k rounds are over -/
def upto {α : Type} (f : Nat → α) (k : Nat) : List α := (List.range k).map f
theorem upto_succ {α : Type} (f : Nat → α) (k : Nat) : upto f (k + 1) = upto f k ++ [f k] := by simp [upto, List.range_succ]
theorem upto_length {α : Type} (f : Nat → α) (k : Nat) : (upto f k).length = k := by simp [upto]
/- parts from the last one on -/
abbrev Ix (l : List Pt) := { i : Nat // i < l.length }
def bk (l : List Pt) (h1 : 1 ≤ l.length) (t : Nat) : Ix l := ⟨l.length - 1 - t, by omega⟩
def bkv (l : List Pt) (x : Ix l) : Array Value := #[.int .i64 x.1, (pa l x.1).val]
/- what a round keeps: all that lay ahead of the function's own memory, and the box of the slice -/
def KpB (n0 Bs : Nat) (W W' : World) : Prop := Below n0 W W' ∧ W'.heap[Bs]? = W.heap[Bs]?
theorem KpB.trans {n0 Bs : Nat} {A B C : World} (h : KpB n0 Bs A B) (k : KpB n0 Bs B C) : KpB n0 Bs A C := ⟨h.1.trans k.1, k.2.trans h.2⟩
theorem KpB.refl (n0 Bs : Nat) (A : World) : KpB n0 Bs A A := ⟨Below.refl _ _, rfl⟩
set_option maxRecDepth 100000 in
set_option maxHeartbeats 2000000 in
theorem bck1_in (n : Nat) (hn : 1 ≤ n) (lo Bs n0 b off cap : Nat) (l : List Pt) (h1 : 1 ≤ l.length) (h2 : l.length ≤ 1000000) (hb : b < n0) (J Jx : List (Ix l) → World → Prop)
    (hY : ∀ pre x W, J pre W → pre.length < l.length → YieldAt Fence.wide (n - 1) Tryz.prog lo (bkv l x) W fun e W' =>
      (e = .returned (.bool true) ∧ J (pre ++ [x]) W' ∧ KpB n0 Bs W W') ∨ (e = .returned (.bool false) ∧ Jx (pre ++ [x]) W'))
    (W : World) (hBs : W.cell? ⟨Bs, 0, none⟩ = some (.slice (some ⟨b, off, none⟩) l.length cap)) (hc : ∀ j (h : j < l.length), Pat W b (off + j * 27) l[j]) (h0 : J [] W) :
    CallsIn Fence.wide n Tryz.prog 222 #[.func (.yield lo) #[] #[], .pointer (some ⟨Bs, 0, none⟩)] W fun e W' => (∃ v, e = .returned v) ∧
      ((∃ ys, ys = upto (bk l h1) l.length ∧ J ys W') ∨ (∃ pre, (∃ k, k ≤ l.length ∧ pre = upto (bk l h1) k) ∧ Jx pre W')) := by
  have HC := Lib.hid hc
  clear hc
  refine callsIn_of_wp Tryz.func222 rfl trivial ?_ rfl
  simp only [Tryz.ntmps222, List.size_toArray, List.length_cons, List.length_nil, Nat.reduceAdd, Nat.reduceSub, Array.replicate_succ, Array.replicate_zero, List.push_toArray, List.append_toArray, List.nil_append, List.cons_append]
  gi_wp2
  gi_loopw [3] (fun i wr => ∃ k : Nat, k ≤ l.length ∧ i = .int .i64 ((l.length : Int) - 1 - k) ∧ J (upto (bk l h1) k) wr ∧ KpB n0 Bs W wr)
    (fun i _ => ((intOf i) + 1).toNat)
  case atStart => exact ⟨0, Nat.zero_le _, by simp, h0, KpB.refl _ _ _⟩
  case round =>
    obtain ⟨k, hk, rfl, hJs, hnx⟩ := hrel
    have hBs2 : wr.cell? ⟨Bs, 0, none⟩ = some (.slice (some ⟨b, off, none⟩) l.length cap) := qcell_lift hBs hnx.2
    by_cases hlt : k < l.length
    · obtain ⟨j, hj⟩ : ∃ j : Nat, (l.length : Int) - 1 - k = j := ⟨l.length - 1 - k, by omega⟩
      have hjl : j < l.length := by omega
      have hj2 : l.length - 1 - k = j := by omega
      have LD := ((HC.out j hjl).lift (hnx.1.block b hb)).load
      obtain ⟨fn, tmps, assign, body, hy, hR⟩ := hY _ ⟨j, hjl⟩ wr hJs (by rw [upto_length]; exact hlt)
      dsimp only [bkv] at hy
      rw [pa_get l j hjl] at hy
      have HB : bk l h1 k = ⟨j, hjl⟩ := by unfold bk; congr
      have HB2 := Lib.hid HB
      have HJ := Lib.hid hj
      rw [hj]
      clear HB hj hj2
      gi_wp2
      refine hR.mono ?_
      rintro e W3 (⟨rfl, hJ3, hk3⟩ | ⟨rfl, hJx3⟩)
      · gi_wp2
        go_roundw
        case rel => exact ⟨k + 1, by omega, by have := HJ.out; congr 1; omega, by rw [upto_succ, HB2.out]; exact hJ3, hnx.trans hk3⟩
        case measure => have := HJ.out; simp [intOf]; try omega
      · gi_wp2
        refine bodyPost_ret (results_none rfl _ _ _) rfl ?_
        exact ⟨⟨_, rfl⟩, .inr ⟨_, ⟨k + 1, by omega, by rw [upto_succ, HB2.out]⟩, hJx3⟩⟩
    · obtain rfl : k = l.length := by omega
      have e1 : (l.length : Int) - 1 - (l.length : Int) = -1 := by omega
      rw [e1]
      clear e1
      gi_wp2
      go_end0
      exact ⟨⟨_, rfl⟩, .inl ⟨_, rfl, hJs⟩⟩
theorem back_in (n : Nat) (a : Option Addr) (len cap : Nat) (w : World) :
    CallsIn Fence.wide n Tryz.prog 161 #[.slice a len cap] w fun e w' => e = .returned (.func (.func 222) #[] #[.pointer (some ⟨w.heap.size, 0, none⟩)]) ∧ w' = w.alloc (.cells #[.slice a len cap] 59) := by
  refine callsIn_of_wp Tryz.func161 rfl trivial ?_ rfl
  simp only [Tryz.ntmps161, List.size_toArray, List.length_cons, List.length_nil, Nat.reduceAdd, Nat.reduceSub, Array.replicate_succ, Array.replicate_zero, List.push_toArray, List.append_toArray, List.nil_append, List.cons_append]
  gi_wp2
  go_ret
  exact ⟨rfl, rfl⟩
theorem back_stops (n : Nat) (hn : 1 ≤ n) (Bs n0 b off cap : Nat) (l : List Pt) (h1 : 1 ≤ l.length) (h2 : l.length ≤ 1000000) (w : World) (hBs : Bs < w.heap.size) (hn0 : n0 ≤ w.heap.size) (hb : b < n0)
    (hc : w.cell? ⟨Bs, 0, none⟩ = some (.slice (some ⟨b, off, none⟩) l.length cap)) (hI : ∀ j (h : j < l.length), Pat w b (off + j * 27) l[j]) :
    SeqStopsK Fence.wide n Tryz.prog 222 #[.pointer (some ⟨Bs, 0, none⟩)] (bkv l) (KpB n0 Bs) (fun ys => ys = upto (bk l h1) l.length)
      (fun pre => ∃ k, k ≤ l.length ∧ pre = upto (bk l h1) k) l.length w := fun lo J Jx W hW _ _ hY h0 =>
  bck1_in n hn lo Bs n0 b off cap l h1 h2 hb J Jx hY W ((hW.cell (p := ⟨Bs, 0, none⟩) hBs).trans hc) (fun j hj => (hI j hj).below hW) h0
end Go.Proofs.YtegibpepdndocabGreat
end
section
namespace Go.Proofs.YtegibpepdndocabGreat
open Go.ChangeShapes Go.WideShapes Go.ChangeAt Go.RowKit
set_option linter.unusedSimpArgs false
set_option linter.unusedVariables false

/- the loop over the parts, whatever order they come in -/
def st2 (l : List Pt) (s : (Nat → Mo) × List Pt) (x : Ix l) : (Nat → Mo) × List Pt :=
  (spread s.1 (made (pa l x.1)) (own (pa l x.1) (s.1 x.1)), if (pa l x.1).k ≤ 2 then s.2.set x.1 (leafAt (s.1 x.1) (pa l x.1)) else s.2)
def Sf (l : List Pt) (pre : List (Ix l)) : (Nat → Mo) × List Pt := pre.foldl (st2 l) (Jn Mo.zero l 0, l)
theorem Sf_snoc (l : List Pt) (pre : List (Ix l)) (x : Ix l) : Sf l (pre ++ [x]) = st2 l (Sf l pre) x := by simp [Sf]
theorem Sf_len (l : List Pt) : ∀ pre : List (Ix l), (Sf l pre).2.length = l.length := by
  intro pre
  suffices h : ∀ (pre : List (Ix l)) (s : (Nat → Mo) × List Pt), s.2.length = l.length → (pre.foldl (st2 l) s).2.length = l.length from h pre _ rfl
  intro pre
  induction pre with
  | nil => intro s h; exact h
  | cons x pre ih =>
    intro s h
    refine ih _ ?_
    unfold st2
    simp only
    split <;> simp [h]
/- whether a round lets the loop go on -/
def PassJ (l : List Pt) (J : Nat → Mo) (i : Nat) : Prop :=
  (J i).ok ∧ ((pa l i).k = 6 → (pa l i).m.ok ∧ (tog (pa l i).m (J i)).ok) ∧ ((pa l i).k ≤ 2 → LeafP (leafAt (J i) (pa l i)))
def AllP (l : List Pt) (pre : List (Ix l)) : Prop := ∀ ini x rest, pre = ini ++ x :: rest → PassJ l (Sf l ini).1 x.1
theorem AllP_nil (l : List Pt) : AllP l [] := fun ini x rest h => by cases ini <;> cases h
theorem AllP_snoc {l : List Pt} {pre : List (Ix l)} {x : Ix l} (h : AllP l pre) (hx : PassJ l (Sf l pre).1 x.1) : AllP l (pre ++ [x]) := by
  intro ini y rest e
  rcases List.eq_nil_or_concat rest with rfl | ⟨r, z, rfl⟩
  · obtain ⟨rfl, e2⟩ := List.append_inj' e rfl
    cases e2; exact hx
  · rw [List.concat_eq_append, ← List.cons_append, ← List.append_assoc] at e
    obtain ⟨e1, _⟩ := List.append_inj' e rfl
    exact h ini y r e1
/- from the last part on it is the motions of the tree, and the leaves where they stand -/
def stL (l : List Pt) (t : Nat) : List Pt := (List.range l.length).map fun i => if l.length - t ≤ i then lv l i else pa l i
theorem Sf_J (l : List Pt) (h1 : 1 ≤ l.length) : ∀ t, (Sf l (upto (bk l h1) t)).1 = Jn Mo.zero l t
  | 0 => rfl
  | t + 1 => by
    rw [upto_succ, Sf_snoc]
    simp only [st2, Sf_J l h1 t, bk, Jn]
theorem Sf_R {l : List Pt} (hF : Form l) (h1 : 1 ≤ l.length) : ∀ t, t ≤ l.length → (Sf l (upto (bk l h1) t)).2 = stL l t
  | 0, _ => by
    apply List.ext_getElem
    · simp [Sf, upto, stL]
    · intro i hi hj
      simp only [stL, List.length_map, List.length_range] at hj
      simp only [Sf, upto, List.range_zero, List.map_nil, List.foldl_nil, stL, List.getElem_map, List.getElem_range]
      rw [if_neg (by omega), pa_get l i hj]
  | t + 1, ht => by
    rw [upto_succ, Sf_snoc]
    have ih := Sf_R hF h1 t (by omega)
    simp only [st2, Sf_J l h1 t, bk, ih]
    have hm := jn_mo hF Mo.zero (i := l.length - 1 - t) (by omega)
    rw [show l.length - 1 - (l.length - 1 - t) = t by omega] at hm
    rw [hm]
    apply List.ext_getElem
    · split <;> simp [stL]
    · intro i hi hj
      simp only [stL, List.length_map, List.length_range] at hj
      by_cases e : i = l.length - 1 - t
      · subst e
        by_cases hk : (pa l (l.length - 1 - t)).k ≤ 2
        · simp only [hk, if_true, List.getElem_set_self]
          simp only [stL, List.getElem_map, List.getElem_range]
          rw [if_pos (by omega), lv, if_pos hk]
        · simp only [hk, if_false]
          simp only [stL, List.getElem_map, List.getElem_range]
          rw [if_neg (by omega), if_pos (by omega), lv, if_neg hk]
      · have e2 : (stL l t)[i]'(by simp [stL]; exact hj) = (stL l (t + 1))[i]'(by simp [stL]; exact hj) := by
          simp only [stL, List.getElem_map, List.getElem_range]
          by_cases h3 : l.length - t ≤ i
          · rw [if_pos h3, if_pos (by omega)]
          · rw [if_neg h3, if_neg (by omega)]
        rw [← e2]
        split
        · rw [List.getElem_set_ne (by omega)]
        · rfl
theorem stL_all (l : List Pt) : stL l l.length = lvs l := by
  unfold stL lvs
  apply List.map_congr_left
  intro i _
  rw [if_pos (by omega)]
theorem pass_iff {l : List Pt} (hF : Form l) (h1 : 1 ≤ l.length) {t : Nat} (ht : t < l.length) (hm : (mo l (l.length - 1 - t)).ok) :
    PassJ l (Sf l (upto (bk l h1) t)).1 (bk l h1 t).1 ↔ (MOk l (l.length - 1 - t) ∧ ((pa l (l.length - 1 - t)).k ≤ 2 → LeafP (leafAt (mo l (l.length - 1 - t)) (pa l (l.length - 1 - t))))) := by
  have hj := jn_mo hF Mo.zero (i := l.length - 1 - t) (by omega)
  rw [show l.length - 1 - (l.length - 1 - t) = t by omega] at hj
  rw [Sf_J]
  show PassJ l (Jn Mo.zero l t) (l.length - 1 - t) ↔ _
  unfold PassJ MOk
  rw [hj]
  exact ⟨fun h => ⟨h.2.1, h.2.2⟩, fun h => ⟨hm, h.1, h.2⟩⟩
theorem upto_split {α : Type} (f : Nat → α) {t n : Nat} (h : t < n) : upto f n = upto f t ++ f t :: (upto (fun i => f (t + 1 + i)) (n - t - 1)) := by
  have e : n = t + (1 + (n - t - 1)) := by omega
  unfold upto
  conv => lhs; rw [e, List.range_add, List.map_append, List.range_add]
  simp [Function.comp_def, Nat.add_assoc]
theorem all_ok {l : List Pt} (hF : Form l) (h1 : 1 ≤ l.length) : ∀ k, k ≤ l.length → AllP l (upto (bk l h1) k) →
    ∀ t, t < k → MOk l (l.length - 1 - t) ∧ ((pa l (l.length - 1 - t)).k ≤ 2 → LeafP (leafAt (mo l (l.length - 1 - t)) (pa l (l.length - 1 - t)))) := by
  intro k hk hA t
  induction t using Nat.strongRecOn with
  | _ t ih =>
    intro ht
    have hm : (mo l (l.length - 1 - t)).ok := mo_ok hF (by omega) fun j hj hij => by
      have := (ih (l.length - 1 - j) (by omega) (by omega)).1
      rwa [show l.length - 1 - (l.length - 1 - j) = j by omega] at this
    exact (pass_iff hF h1 (by omega) hm).1 (hA _ _ _ (upto_split (bk l h1) ht))
theorem solid_of_all {l : List Pt} (hF : Form l) (h1 : 1 ≤ l.length) (hA : AllP l (upto (bk l h1) l.length)) : SolidP l := by
  have h := all_ok hF h1 l.length (Nat.le_refl _) hA
  refine ⟨hF, fun i hi => ?_, fun i hi => ?_⟩
  · have := (h (l.length - 1 - i) (by omega)).1
    rwa [show l.length - 1 - (l.length - 1 - i) = i by omega] at this
  · have := (h (l.length - 1 - i) (by omega)).2
    rwa [show l.length - 1 - (l.length - 1 - i) = i by omega] at this
theorem not_solid {l : List Pt} (hF : Form l) (h1 : 1 ≤ l.length) {k : Nat} (hk : k ≤ l.length) {ini : List (Ix l)} {x : Ix l} (he : upto (bk l h1) k = ini ++ [x]) (hx : ¬ PassJ l (Sf l ini).1 x.1) : ¬ SolidP l := by
  intro hS
  obtain ⟨t, rfl⟩ : ∃ t, k = t + 1 := by
    cases k with
    | zero => simp [upto] at he
    | succ t => exact ⟨t, rfl⟩
  rw [upto_succ] at he
  obtain ⟨rfl, e2⟩ := List.append_inj' he rfl
  cases e2
  have hm : (mo l (l.length - 1 - t)).ok := mo_ok hF (by omega) fun j hj _ => hS.2.1 j hj
  exact hx ((pass_iff hF h1 (by omega) hm).2 ⟨hS.2.1 _ (by omega), hS.2.2 _ (by omega)⟩)
end Go.Proofs.YtegibpepdndocabGreat
end
section
namespace Go.Proofs.YtegibpepdndocabGreat
open Go Go.RowKit Go.Shelf
set_option linter.unusedSimpArgs false
set_option linter.unusedVariables false

/- a region of open order in a round of a range over a function: as elsewhere, if no operation is a defer statement -/
section
variable {P : Program} {ops : Array Oper} {Q : Exit → Act → World → Prop} {md : Region.Mode} {lo n : Nat}
def noDefer (ops : Array Oper) : Bool := ops.toList.all fun o => match o.op with | .defer _ => false | _ => true
theorem semAt_of {l : Nat} {o : Oper} {ρ : Operand → Value} (h : (match o.op with | .defer _ => false | _ => true) = true) : Oper.semAt (some l) ρ o = execOp ρ o := by
  unfold Oper.semAt
  cases ho : o.op <;> simp_all
theorem wpOpIn_of (hQ : ¬ LetsOut Q) (hd : noDefer ops = true) {i : Nat} {K : Act → World → Prop} {a : Act} {w : World} (h : wpOp P ops Q i K a w) : wpOpIn (Fence.wide.inRound lo) n P ops Q i K a w := by
  unfold wpOp at h
  unfold wpOpIn
  cases ho : ops[i]? with
  | none => simp only [ho] at h ⊢; exact h
  | some o =>
    simp only [ho] at h ⊢
    have hm : o ∈ ops.toList := by
      have := Array.mem_of_getElem? ho
      simpa using this
    have hdo := List.all_eq_true.1 hd o hm
    split
    · rename_i hw
      simp only [hw, if_true] at h
      rcases h with h | ⟨_, h⟩
      · refine ⟨fun _ _ => trivial, ?_⟩
        unfold Oper.wp at h
        show o.uponIn _ n P a K Q ((o.semAt (some lo) a.eval).run P w)
        rw [semAt_of hdo]
        generalize (execOp a.eval o).run P w = r at h
        cases r with
        | ok x w' =>
          cases x <;> simp only [Oper.upon, Oper.uponIn] at h ⊢ <;> try exact h
          · exact ⟨fun h0 => by simp [Fence.inRound, Fence.wide] at h0, CallsIn.inRound lo (callsIn_wide.2 h)⟩
          · exact ⟨fun h0 => by simp [Fence.inRound, Fence.wide] at h0, fun c cs _ => let ⟨v, w2, r, s⟩ := h c cs; ⟨v, w2, r, stepsIn_wide.2 s⟩⟩
        | halt x w' => cases x <;> simp only [Oper.upon, Oper.uponIn] at h ⊢ <;> exact h
      · exact absurd h hQ
    · rename_i hw
      simp only [hw] at h
      exact ⟨fun _ _ => trivial, h⟩
theorem wpAnyIn_of (hQ : ¬ LetsOut Q) (hd : noDefer ops = true) : ∀ (f : Nat) (listed : Array Bool) (a : Act) (w : World), wpAny P md ops Q f listed a w → wpAnyIn (Fence.wide.inRound lo) n P md ops Q f listed a w
  | 0, _, _, _, h => h
  | f + 1, listed, a, w, h => ⟨h.1, fun i hi => wpOpIn_mono (fun a' w' => wpAnyIn_of hQ hd f _ a' w') (wpOpIn_of hQ hd (h.2 i hi))⟩
/- the held rule (the tail is one operation) in a round -/
theorem wpIn_region_held1 {id lo m : Nat} {Q : Exit → Act → World → Prop} {a : Act} {w : World} {l : List Oper} {o : Oper} (n : Nat) (hL : ¬ LetsOut Q) (hD : noDefer l.toArray = true) (hm : P.follows .mixedOrders = true) (hB : held1B l.toArray n = true) (hd : l[n]? = some o)
    (hQ : ∀ c a w (d : Option Tmp) (v : Value), Q (.panic c) (a.put d v) w → Q (.panic c) a w)
    (h : ∀ Fin : Act → Prop, (∀ a', (∀ w1, Below w.drew.heap.size w.drew w1 → wpList P l.toArray Q [o] a' w1) → Fin a') → wpHeld P l.toArray (Below w.drew.heap.size w.drew) Fin (l.take n) a) : (Code.region id l.toArray true).wpIn (Fence.wide.inRound lo) m P Q a w := by
  replace h := h _ (fun _ hf => hf)
  simp only [held1B, Bool.and_eq_true, decide_eq_true_eq] at hB
  obtain ⟨⟨⟨hsel, hl⟩, hn⟩, hh⟩ := hB
  have hn' : n < l.length := by simpa using hn
  have htl : (l.take n).length = n := by simp; omega
  have hT1 : n + 1 = l.toArray.size := by
    have : ∀ (f k : Nat) (listed : Array Bool), headB .any l.toArray (tail1B .any l.toArray) f k listed = true → k + f + 1 = l.toArray.size := by
      intro f
      induction f with
      | zero => intro k listed hb; simp only [headB, tail1B, Bool.and_eq_true, decide_eq_true_eq] at hb; omega
      | succ f ih => intro k listed hb; simp only [headB, Bool.and_eq_true] at hb; have := ih (k + 1) _ hb.2; omega
    have := this n 0 _ hh
    omega
  refine wpIn_region_any hm (wpAnyIn_of hL hD _ _ _ _ (wpAny_of_heldAny (md := .any) (S := Below w.drew.heap.size w.drew) _ _ _ _ ?_))
  have := heldAny_lex (md := .any) (P := P) (ops := l.toArray) (Q := Q) (S := Below w.drew.heap.size w.drew) (g := 1) (T := tail1B .any l.toArray) (below_stab w.drew) hsel hl hQ hn
    (Fin := fun a' => ∀ w1, Below w.drew.heap.size w.drew w1 → wpList P l.toArray Q [o] a' w1)
    (fun listed a' hT hF w' hS => held_tail1 (by simpa using hd) hT hF w' hS) (l.take n) 0 (Array.replicate l.toArray.size false) a
    (fun j hj => by have hj' : j < n := by rw [htl] at hj; exact hj
                    simp [hj']) (by simpa using htl) (new_last _ (by omega)) (by rw [htl]; exact hh) h w.drew (Below.refl _ _)
  rw [htl, hT1] at this
  exact this
end
/- what a round leaves as it was -/
structure RB (n0 B Bs : Nat) (w W V : World) : Prop where
  kf : KeepsFrom B W V
  bw : Below n0 W V
  bs : V.heap[Bs]? = W.heap[Bs]?
  lo : Below n0 w V
theorem RB.alloc {n0 B Bs : Nat} {w W V : World} (h : RB n0 B Bs w W V) (hn : n0 ≤ w.heap.size) (hW : n0 ≤ W.heap.size) (hs : Bs < V.heap.size) (o : Obj) : RB n0 B Bs w W (V.alloc o) :=
  ⟨h.kf.trans ((KeepsOthers.alloc _ _).from _), h.bw.alloc (Nat.le_trans hW h.bw.size) _, (Below.heap_alloc V o Bs hs).trans h.bs, h.lo.alloc (Nat.le_trans hn h.lo.size) _⟩
theorem RB.drew {n0 B Bs : Nat} {w W V : World} (h : RB n0 B Bs w W V) : RB n0 B Bs w W V.drew :=
  ⟨h.kf.trans ((KeepsOthers.drew V).from _), h.bw.drew, h.bs, h.lo.drew⟩
theorem RB.grown {n0 B Bs : Nat} {w W V V' : World} {r : Option Nat} (h : RB n0 B Bs w W V) (hn : n0 ≤ w.heap.size) (hW : n0 ≤ W.heap.size) (hs : Bs < V.heap.size) (hg : V.grownBy V' r) (hr : ∀ k, r = some k → n0 ≤ k ∧ k ≠ Bs ∧ (∀ o : Obj, V.heap[k]? = some o → o.isCells = true)) : RB n0 B Bs w W V' :=
  ⟨h.kf.trans ((KeepsOthers.of_grownBy hg fun j o e ho => (hr j e).2.2 o ho).from _), h.bw.grown hg (Nat.le_trans hW h.bw.size) (fun k e => (hr k e).1), (hg.block Bs hs (fun e => (hr Bs e.symm).2.1 rfl)).trans h.bs, h.lo.grown hg (Nat.le_trans hn h.lo.size) (fun k e => (hr k e).1)⟩
theorem belowGrown {V V' : World} (hb : Below V.heap.size V V') (r : Option Nat) : V.grownBy V' r := ⟨hb.os, hb.tape, hb.output, hb.size, fun k hk _ => hb.block k hk⟩
theorem RB.call {n0 B Bs : Nat} {w W V V' : World} (h : RB n0 B Bs w W V) (hn : n0 ≤ w.heap.size) (hW : n0 ≤ W.heap.size) (hs : Bs < V.heap.size) (hb : Below V.heap.size V V') : RB n0 B Bs w W V' :=
  h.grown hn hW hs (belowGrown hb none) (fun k e => by cases e)
theorem hasCells {V : World} {b : Nat} {cs : Array Value} {T : TypeId} (h : Has V b cs T) : ∀ o : Obj, V.heap[b]? = some o → o.isCells = true := fun o ho => by
  unfold Has at h; rw [h] at ho; cases ho; rfl
theorem RB.cells {n0 B Bs b : Nat} {w W V : World} {cs : Array Value} {T : TypeId} (h : RB n0 B Bs w W V) (hn : n0 ≤ w.heap.size) (hW : n0 ≤ W.heap.size) (hs : Bs < V.heap.size) (hB : Has V b cs T) (hb : n0 ≤ b) (hne : b ≠ Bs) (o : Nat) (vs : List Value) : RB n0 B Bs w W (V.setCells b o vs) :=
  h.grown hn hW hs (grownCells V b o vs) (fun k e => by cases e; exact ⟨hb, hne, hasCells hB⟩)
theorem RB.cell {n0 B Bs b : Nat} {w W V : World} {cs : Array Value} {T : TypeId} (h : RB n0 B Bs w W V) (hn : n0 ≤ w.heap.size) (hW : n0 ≤ W.heap.size) (hs : Bs < V.heap.size) (hB : Has V b cs T) (hb : n0 ≤ b) (hne : b ≠ Bs) (o : Nat) (v : Value) : RB n0 B Bs w W (V.setCell ⟨b, o, none⟩ v) :=
  h.grown hn hW hs (r := some b) ⟨rfl, rfl, rfl, by simp, fun k _ hk => Below.heap_setCell V ⟨b, o, none⟩ v k (fun e => hk (by rw [e]))⟩ (fun k e => by cases e; exact ⟨hb, hne, hasCells hB⟩)
theorem grownRow (V : World) (b : Nat) (cs : Array Value) : V.grownBy (V.setRow b cs) (some b) :=
  ⟨rfl, rfl, rfl, by simp, fun k _ hk => setRow_other V b k cs (fun e => hk (by rw [e]))⟩
theorem RB.row {n0 B Bs b : Nat} {w W V : World} {cs : Array Value} {T : TypeId} (h : RB n0 B Bs w W V) (hn : n0 ≤ w.heap.size) (hW : n0 ≤ W.heap.size) (hs : Bs < V.heap.size) (hB : Has V b cs T) (hb : n0 ≤ b) (hne : b ≠ Bs) (cs' : Array Value) : RB n0 B Bs w W (V.setRow b cs') :=
  h.grown hn hW hs (grownRow V b cs') (fun k e => by cases e; exact ⟨hb, hne, hasCells hB⟩)
/- what speaks of cells alone abides whatever is no cells -/
theorem hasOwn {A B : World} {row : Option Nat} {b : Nat} {cs : Array Value} {T : TypeId} (h : Has A b cs T) (hg : A.grownBy B row) (hr : ∀ r, row = some r → ∃ o : Obj, A.heap[r]? = some o ∧ o.isCells = false) : Has B b cs T :=
  h.grown hg (fun e => by obtain ⟨o, ho, hc⟩ := hr b e.symm; rw [hasCells h o ho] at hc; cases hc)
theorem prowOwn {A B : World} {row : Option Nat} {n : Nat} {v : Value} {l : List Pt} (h : PRow A n v l) (hg : A.grownBy B row) (hr : ∀ r, row = some r → ∃ o : Obj, A.heap[r]? = some o ∧ o.isCells = false) : PRow B n v l := by
  refine h.kept hg ?_
  rcases h.own.2 with ⟨rfl, _⟩ | ⟨g, cap, cur, rfl, _, hh, _⟩
  · exact .inl rfl
  · refine .inr fun e => ?_
    obtain ⟨o, ho, hc⟩ := hr g e.symm
    rw [hh] at ho; cases ho; cases hc
end Go.Proofs.YtegibpepdndocabGreat
end
