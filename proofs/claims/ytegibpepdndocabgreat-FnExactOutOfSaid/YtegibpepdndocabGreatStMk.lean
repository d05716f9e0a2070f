import Derived.LoopIn
import Derived.LoopNIn
import Derived.OwnWalkIn
import Derived.RangeFuncBound
import Derived.RangeFuncBox
import Derived.RangeFuncCalls
import Derived.RangeFuncLeaves
import Derived.RangeFuncNested
import Derived.Shelf.Abstract
import Derived.Shelf.RegionOpen
import Derived.TacticsInMore
import Derived.Test.YtegibpepdndocabGreatClnk
import Derived.Test.YtegibpepdndocabGreatJnCk
import Derived.WalkKit
section
namespace Go.Proofs.YtegibpepdndocabGreat
open Go.RowKit Go.Shelf
set_option linter.unusedSimpArgs false
set_option linter.unusedVariables false

attribute [local go_sem] Oper.semAt_some
attribute [-go_sem] loadVar storeVar
attribute [local go_sem] lvA svA lvVec lvHalf lvBall lvBox lvMot
/- what has come when k rounds are over -/
def upto {α : Type} (f : Nat → α) (k : Nat) : List α := (List.range k).map f
theorem upto_succ {α : Type} (f : Nat → α) (k : Nat) : upto f (k + 1) = upto f k ++ [f k] := by simp [upto, List.range_succ]
theorem upto_length {α : Type} (f : Nat → α) (k : Nat) : (upto f k).length = k := by simp [upto]
/- parts from the last one on -/
abbrev Ix (l : List Pt) := { i : Nat // i < l.length }
def bk (l : List Pt) (h1 : 1 ≤ l.length) (t : Nat) : Ix l := ⟨l.length - 1 - t, by omega⟩
def bkv (l : List Pt) (x : Ix l) : Array Value := #[.int .i64 x.1, (pa l x.1).val]
/- what a round keeps: all that lay ahead of the function's own memory, and the box of the slice -/
def KpB (n0 Bs : Nat) (W W' : World) : Prop := Below n0 W W' ∧ W'.heap[Bs]? = W.heap[Bs]?
theorem KpB.trans {n0 Bs : Nat} {A B C : World} (h : KpB n0 Bs A B) (k : KpB n0 Bs B C) : KpB n0 Bs A C := ⟨h.1.trans k.1, k.2.trans h.2⟩
theorem KpB.refl (n0 Bs : Nat) (A : World) : KpB n0 Bs A A := ⟨Below.refl _ _, rfl⟩
set_option maxRecDepth 100000 in
set_option maxHeartbeats 2000000 in
theorem bck1_in (n : Nat) (hn : 1 ≤ n) (lo Bs n0 b off cap : Nat) (l : List Pt) (h1 : 1 ≤ l.length) (h2 : l.length ≤ 1000000) (hb : b < n0) (J Jx : List (Ix l) → World → Prop)
    (hY : ∀ pre x W, J pre W → pre.length < l.length → YieldAt Fence.wide (n - 1) Tryz.prog lo (bkv l x) W fun e W' =>
      (e = .returned (.bool true) ∧ J (pre ++ [x]) W' ∧ KpB n0 Bs W W') ∨ (e = .returned (.bool false) ∧ Jx (pre ++ [x]) W'))
    (W : World) (hBs : W.cell? ⟨Bs, 0, none⟩ = some (.slice (some ⟨b, off, none⟩) l.length cap)) (hc : ∀ j (h : j < l.length), Pat W b (off + j * 27) l[j]) (h0 : J [] W) :
    CallsIn Fence.wide n Tryz.prog 222 #[.func (.yield lo) #[] #[], .pointer (some ⟨Bs, 0, none⟩)] W fun e W' => (∃ v, e = .returned v) ∧
      ((∃ ys, ys = upto (bk l h1) l.length ∧ J ys W') ∨ (∃ pre, (∃ k, k ≤ l.length ∧ pre = upto (bk l h1) k) ∧ Jx pre W')) := by
  have HC := Lib.hid hc
  clear hc
  refine callsIn_of_wp Tryz.func222 rfl trivial ?_ rfl
  simp only [Tryz.ntmps222, List.size_toArray, List.length_cons, List.length_nil, Nat.reduceAdd, Nat.reduceSub, Array.replicate_succ, Array.replicate_zero, List.push_toArray, List.append_toArray, List.nil_append, List.cons_append]
  gi_wp2
  gi_loopw [3] (fun i wr => ∃ k : Nat, k ≤ l.length ∧ i = .int .i64 ((l.length : Int) - 1 - k) ∧ J (upto (bk l h1) k) wr ∧ KpB n0 Bs W wr)
    (fun i _ => ((intOf i) + 1).toNat)
  case atStart => exact ⟨0, Nat.zero_le _, by simp, h0, KpB.refl _ _ _⟩
  case round =>
    obtain ⟨k, hk, rfl, hJs, hnx⟩ := hrel
    have hBs2 : wr.cell? ⟨Bs, 0, none⟩ = some (.slice (some ⟨b, off, none⟩) l.length cap) := qcell_lift hBs hnx.2
    by_cases hlt : k < l.length
    · obtain ⟨j, hj⟩ : ∃ j : Nat, (l.length : Int) - 1 - k = j := ⟨l.length - 1 - k, by omega⟩
      have hjl : j < l.length := by omega
      have hj2 : l.length - 1 - k = j := by omega
      have LD := ((HC.out j hjl).lift (hnx.1.block b hb)).load
      obtain ⟨fn, tmps, assign, body, hy, hR⟩ := hY _ ⟨j, hjl⟩ wr hJs (by rw [upto_length]; exact hlt)
      dsimp only [bkv] at hy
      rw [pa_get l j hjl] at hy
      have HB : bk l h1 k = ⟨j, hjl⟩ := by unfold bk; congr
      have HB2 := Lib.hid HB
      have HJ := Lib.hid hj
      rw [hj]
      clear HB hj hj2
      gi_wp2
      refine hR.mono ?_
      rintro e W3 (⟨rfl, hJ3, hk3⟩ | ⟨rfl, hJx3⟩)
      · gi_wp2
        go_roundw
        case rel => exact ⟨k + 1, by omega, by have := HJ.out; congr 1; omega, by rw [upto_succ, HB2.out]; exact hJ3, hnx.trans hk3⟩
        case measure => have := HJ.out; simp [intOf]; try omega
      · gi_wp2
        refine bodyPost_ret (results_none rfl _ _ _) rfl ?_
        exact ⟨⟨_, rfl⟩, .inr ⟨_, ⟨k + 1, by omega, by rw [upto_succ, HB2.out]⟩, hJx3⟩⟩
    · obtain rfl : k = l.length := by omega
      have e1 : (l.length : Int) - 1 - (l.length : Int) = -1 := by omega
      rw [e1]
      clear e1
      gi_wp2
      go_end0
      exact ⟨⟨_, rfl⟩, .inl ⟨_, rfl, hJs⟩⟩
theorem back_in (n : Nat) (a : Option Addr) (len cap : Nat) (w : World) :
    CallsIn Fence.wide n Tryz.prog 161 #[.slice a len cap] w fun e w' => e = .returned (.func (.func 222) #[] #[.pointer (some ⟨w.heap.size, 0, none⟩)]) ∧ w' = w.alloc (.cells #[.slice a len cap] 59) := by
  refine callsIn_of_wp Tryz.func161 rfl trivial ?_ rfl
  simp only [Tryz.ntmps161, List.size_toArray, List.length_cons, List.length_nil, Nat.reduceAdd, Nat.reduceSub, Array.replicate_succ, Array.replicate_zero, List.push_toArray, List.append_toArray, List.nil_append, List.cons_append]
  gi_wp2
  go_ret
  exact ⟨rfl, rfl⟩
theorem back_stops (n : Nat) (hn : 1 ≤ n) (Bs n0 b off cap : Nat) (l : List Pt) (h1 : 1 ≤ l.length) (h2 : l.length ≤ 1000000) (w : World) (hBs : Bs < w.heap.size) (hn0 : n0 ≤ w.heap.size) (hb : b < n0)
    (hc : w.cell? ⟨Bs, 0, none⟩ = some (.slice (some ⟨b, off, none⟩) l.length cap)) (hI : ∀ j (h : j < l.length), Pat w b (off + j * 27) l[j]) :
    SeqStopsK Fence.wide n Tryz.prog 222 #[.pointer (some ⟨Bs, 0, none⟩)] (bkv l) (KpB n0 Bs) (fun ys => ys = upto (bk l h1) l.length)
      (fun pre => ∃ k, k ≤ l.length ∧ pre = upto (bk l h1) k) l.length w := fun lo J Jx W hW _ _ hY h0 =>
  bck1_in n hn lo Bs n0 b off cap l h1 h2 hb J Jx hY W ((hW.cell (p := ⟨Bs, 0, none⟩) hBs).trans hc) (fun j hj => (hI j hj).below hW) h0
end Go.Proofs.YtegibpepdndocabGreat
end
section
namespace Go.Proofs.YtegibpepdndocabGreat
open Go.ChangeShapes Go.WideShapes Go.ChangeAt Go.RowKit
set_option linter.unusedSimpArgs false
set_option linter.unusedVariables false

/- the loop over the parts, whatever order they come in -/
def st2 (l : List Pt) (s : (Nat → Mo) × List Pt) (x : Ix l) : (Nat → Mo) × List Pt :=
  (spread s.1 (made (pa l x.1)) (own (pa l x.1) (s.1 x.1)), if (pa l x.1).k ≤ 2 then s.2.set x.1 (leafAt (s.1 x.1) (pa l x.1)) else s.2)
def Sf (l : List Pt) (pre : List (Ix l)) : (Nat → Mo) × List Pt := pre.foldl (st2 l) (Jn Mo.zero l 0, l)
theorem Sf_snoc (l : List Pt) (pre : List (Ix l)) (x : Ix l) : Sf l (pre ++ [x]) = st2 l (Sf l pre) x := by simp [Sf]
theorem Sf_len (l : List Pt) : ∀ pre : List (Ix l), (Sf l pre).2.length = l.length := by
  intro pre
  suffices h : ∀ (pre : List (Ix l)) (s : (Nat → Mo) × List Pt), s.2.length = l.length → (pre.foldl (st2 l) s).2.length = l.length from h pre _ rfl
  intro pre
  induction pre with
  | nil => intro s h; exact h
  | cons x pre ih =>
    intro s h
    refine ih _ ?_
    unfold st2
    simp only
    split <;> simp [h]
/- whether a round lets the loop go on -/
def PassJ (l : List Pt) (J : Nat → Mo) (i : Nat) : Prop :=
  (J i).ok ∧ ((pa l i).k = 6 → (pa l i).m.ok ∧ (tog (pa l i).m (J i)).ok) ∧ ((pa l i).k ≤ 2 → LeafP (leafAt (J i) (pa l i)))
def AllP (l : List Pt) (pre : List (Ix l)) : Prop := ∀ ini x rest, pre = ini ++ x :: rest → PassJ l (Sf l ini).1 x.1
theorem AllP_nil (l : List Pt) : AllP l [] := fun ini x rest h => by cases ini <;> cases h
theorem AllP_snoc {l : List Pt} {pre : List (Ix l)} {x : Ix l} (h : AllP l pre) (hx : PassJ l (Sf l pre).1 x.1) : AllP l (pre ++ [x]) := by
  intro ini y rest e
  rcases List.eq_nil_or_concat rest with rfl | ⟨r, z, rfl⟩
  · obtain ⟨rfl, e2⟩ := List.append_inj' e rfl
    cases e2; exact hx
  · rw [List.concat_eq_append, ← List.cons_append, ← List.append_assoc] at e
    obtain ⟨e1, _⟩ := List.append_inj' e rfl
    exact h ini y r e1
/- from the last part on it is the motions of the tree, and the leaves where they stand -/
def stL (l : List Pt) (t : Nat) : List Pt := (List.range l.length).map fun i => if l.length - t ≤ i then lv l i else pa l i
theorem Sf_J (l : List Pt) (h1 : 1 ≤ l.length) : ∀ t, (Sf l (upto (bk l h1) t)).1 = Jn Mo.zero l t
  | 0 => rfl
  | t + 1 => by
    rw [upto_succ, Sf_snoc]
    simp only [st2, Sf_J l h1 t, bk, Jn]
theorem Sf_R {l : List Pt} (hF : Form l) (h1 : 1 ≤ l.length) : ∀ t, t ≤ l.length → (Sf l (upto (bk l h1) t)).2 = stL l t
  | 0, _ => by
    apply List.ext_getElem
    · simp [Sf, upto, stL]
    · intro i hi hj
      simp only [stL, List.length_map, List.length_range] at hj
      simp only [Sf, upto, List.range_zero, List.map_nil, List.foldl_nil, stL, List.getElem_map, List.getElem_range]
      rw [if_neg (by omega), pa_get l i hj]
  | t + 1, ht => by
    rw [upto_succ, Sf_snoc]
    have ih := Sf_R hF h1 t (by omega)
    simp only [st2, Sf_J l h1 t, bk, ih]
    have hm := jn_mo hF Mo.zero (i := l.length - 1 - t) (by omega)
    rw [show l.length - 1 - (l.length - 1 - t) = t by omega] at hm
    rw [hm]
    apply List.ext_getElem
    · split <;> simp [stL]
    · intro i hi hj
      simp only [stL, List.length_map, List.length_range] at hj
      by_cases e : i = l.length - 1 - t
      · subst e
        by_cases hk : (pa l (l.length - 1 - t)).k ≤ 2
        · simp only [hk, if_true, List.getElem_set_self]
          simp only [stL, List.getElem_map, List.getElem_range]
          rw [if_pos (by omega), lv, if_pos hk]
        · simp only [hk, if_false]
          simp only [stL, List.getElem_map, List.getElem_range]
          rw [if_neg (by omega), if_pos (by omega), lv, if_neg hk]
      · have e2 : (stL l t)[i]'(by simp [stL]; exact hj) = (stL l (t + 1))[i]'(by simp [stL]; exact hj) := by
          simp only [stL, List.getElem_map, List.getElem_range]
          by_cases h3 : l.length - t ≤ i
          · rw [if_pos h3, if_pos (by omega)]
          · rw [if_neg h3, if_neg (by omega)]
        rw [← e2]
        split
        · rw [List.getElem_set_ne (by omega)]
        · rfl
theorem stL_all (l : List Pt) : stL l l.length = lvs l := by
  unfold stL lvs
  apply List.map_congr_left
  intro i _
  rw [if_pos (by omega)]
theorem pass_iff {l : List Pt} (hF : Form l) (h1 : 1 ≤ l.length) {t : Nat} (ht : t < l.length) (hm : (mo l (l.length - 1 - t)).ok) :
    PassJ l (Sf l (upto (bk l h1) t)).1 (bk l h1 t).1 ↔ (MOk l (l.length - 1 - t) ∧ ((pa l (l.length - 1 - t)).k ≤ 2 → LeafP (leafAt (mo l (l.length - 1 - t)) (pa l (l.length - 1 - t))))) := by
  have hj := jn_mo hF Mo.zero (i := l.length - 1 - t) (by omega)
  rw [show l.length - 1 - (l.length - 1 - t) = t by omega] at hj
  rw [Sf_J]
  show PassJ l (Jn Mo.zero l t) (l.length - 1 - t) ↔ _
  unfold PassJ MOk
  rw [hj]
  exact ⟨fun h => ⟨h.2.1, h.2.2⟩, fun h => ⟨hm, h.1, h.2⟩⟩
theorem upto_split {α : Type} (f : Nat → α) {t n : Nat} (h : t < n) : upto f n = upto f t ++ f t :: (upto (fun i => f (t + 1 + i)) (n - t - 1)) := by
  have e : n = t + (1 + (n - t - 1)) := by omega
  unfold upto
  conv => lhs; rw [e, List.range_add, List.map_append, List.range_add]
  simp [Function.comp_def, Nat.add_assoc]
theorem all_ok {l : List Pt} (hF : Form l) (h1 : 1 ≤ l.length) : ∀ k, k ≤ l.length → AllP l (upto (bk l h1) k) →
    ∀ t, t < k → MOk l (l.length - 1 - t) ∧ ((pa l (l.length - 1 - t)).k ≤ 2 → LeafP (leafAt (mo l (l.length - 1 - t)) (pa l (l.length - 1 - t)))) := by
  intro k hk hA t
  induction t using Nat.strongRecOn with
  | _ t ih =>
    intro ht
    have hm : (mo l (l.length - 1 - t)).ok := mo_ok hF (by omega) fun j hj hij => by
      have := (ih (l.length - 1 - j) (by omega) (by omega)).1
      rwa [show l.length - 1 - (l.length - 1 - j) = j by omega] at this
    exact (pass_iff hF h1 (by omega) hm).1 (hA _ _ _ (upto_split (bk l h1) ht))
theorem solid_of_all {l : List Pt} (hF : Form l) (h1 : 1 ≤ l.length) (hA : AllP l (upto (bk l h1) l.length)) : SolidP l := by
  have h := all_ok hF h1 l.length (Nat.le_refl _) hA
  refine ⟨hF, fun i hi => ?_, fun i hi => ?_⟩
  · have := (h (l.length - 1 - i) (by omega)).1
    rwa [show l.length - 1 - (l.length - 1 - i) = i by omega] at this
  · have := (h (l.length - 1 - i) (by omega)).2
    rwa [show l.length - 1 - (l.length - 1 - i) = i by omega] at this
theorem not_solid {l : List Pt} (hF : Form l) (h1 : 1 ≤ l.length) {k : Nat} (hk : k ≤ l.length) {ini : List (Ix l)} {x : Ix l} (he : upto (bk l h1) k = ini ++ [x]) (hx : ¬ PassJ l (Sf l ini).1 x.1) : ¬ SolidP l := by
  intro hS
  obtain ⟨t, rfl⟩ : ∃ t, k = t + 1 := by
    cases k with
    | zero => simp [upto] at he
    | succ t => exact ⟨t, rfl⟩
  rw [upto_succ] at he
  obtain ⟨rfl, e2⟩ := List.append_inj' he rfl
  cases e2
  have hm : (mo l (l.length - 1 - t)).ok := mo_ok hF (by omega) fun j hj _ => hS.2.1 j hj
  exact hx ((pass_iff hF h1 (by omega) hm).2 ⟨hS.2.1 _ (by omega), hS.2.2 _ (by omega)⟩)
end Go.Proofs.YtegibpepdndocabGreat
end
