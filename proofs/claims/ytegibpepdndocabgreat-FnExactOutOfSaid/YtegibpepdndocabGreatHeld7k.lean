import Derived.Test.YtegibpepdndocabGreatRayk
import Derived.Test.YtegibpepdndocabGreatUndk
section
namespace Go.Proofs.YtegibpepdndocabGreat
open Go.ChangeShapes Go.WideShapes Go.ChangeAt Go.RowKit
set_option linter.unusedSimpArgs false
set_option maxHeartbeats 1000000

attribute [local go_sem] VGo_value VGo_skip VGo_enter
theorem dot3bb (a b c x y z m k : Int) (h : Vok a b c m) (j : Vok x y z k) : -(3 * (m * k)) ≤ dot3 a b c x y z ∧ dot3 a b c x y z ≤ 3 * (m * k) := by
  obtain ⟨a1, a2, a3, a4, a5, a6⟩ := h
  obtain ⟨k1, k2, k3, k4, k5, k6⟩ := j
  have e1 := mulc a x m k a1 a2 k1 k2
  have e2 := mulc b y m k a3 a4 k3 k4
  have e3 := mulc c z m k a5 a6 k5 k6
  unfold dot3
  omega
theorem iDotX (a b c x y z n : Int) (w : World) (h : Vok a b c 1048576) (k : Vok x y z 1048576) (hn : dot3 a b c x y z = n) :
    Calls Tryz.prog 65 #[.agg #[.int .i64 (a), .int .i64 (b), .int .i64 (c)], .agg #[.int .i64 (x), .int .i64 (y), .int .i64 (z)]] w fun e w' => e = .returned (.int .i64 n) ∧ Below w.heap.size w w' := by
  rw [← hn]; exact iDot_yes a b c x y z w h k
theorem sDotX (a b c x y z n : Int) (w : World) (h : Vok a b c 1048576) (k : Vok x y z 1048576) (hn : dot3 a b c x y z = n) :
    Calls Tryz.prog 199 #[.agg #[.int .i64 (a), .int .i64 (b), .int .i64 (c)], .agg #[.int .i64 (x), .int .i64 (y), .int .i64 (z)]] w fun e w' => e = .returned (.int .i64 n) ∧ Below w.heap.size w w' := by
  rw [← hn]; exact l2Dot_any a b c x y z w h k
theorem vokUp {a b c m : Int} (h : Vok a b c m) (hm : m ≤ 1048576) : Vok a b c 1048576 := by unfold Vok at *; omega

end Go.Proofs.YtegibpepdndocabGreat
end
section
namespace Go.Proofs.YtegibpepdndocabGreat
open Has renaming new → J0, new1 → J1, new2 → J2, new3 → J3, new4 → J4, drew → J5, drewN → J6, alloc → J7, same → J8, other → J9, cell → Jc, frozen → Jf, below → Jb
open Go.ChangeShapes Go.WideShapes Go.ChangeAt Go.RowKit
set_option linter.unusedSimpArgs false
set_option maxHeartbeats 1000000

attribute [local go_sem] VGo_value VGo_skip VGo_enter
/- from a ball's middle to a place -/
def AwE (a b c x y z p q r : Int) : Prop := x - a = p ∧ y - b = q ∧ z - c = r
theorem awB {a b c x y z p q r : Int} (h : Vok a b c 400) (k : Vok x y z 800) (e : AwE a b c x y z p q r) : Vok p q r 1200 := by
  obtain ⟨rfl, rfl, rfl⟩ := e
  unfold Vok at *
  omega
theorem iMinusV (a b c x y z p q r : Int) (w : World) (h : Vok a b c 1048576) (k : Vok x y z 1048576) (e : AwE x y z a b c p q r) :
    Calls Tryz.prog 133 #[.agg #[.int .i64 (a), .int .i64 (b), .int .i64 (c)], .agg #[.int .i64 (x), .int .i64 (y), .int .i64 (z)]] w fun e w' => e = .returned (.agg #[.int .i64 (p), .int .i64 (q), .int .i64 (r)]) ∧ Below w.heap.size w w' := by
  obtain ⟨rfl, rfl, rfl⟩ := e
  exact iMinus_yes a b c x y z w h k
theorem sNegV (x y z : Int) (w : World) (h : Vok x y z 1048576) :
    Calls Tryz.prog 156 #[.agg #[.int .i64 (x), .int .i64 (y), .int .i64 (z)], .int .i64 (-1)] w fun e w' => e = .returned (.agg #[.int .i64 (-x), .int .i64 (-y), .int .i64 (-z)]) ∧ Below w.heap.size w w' :=
  (l2Times_any x y z (-1) w h (by omega) (by omega)).mono fun _ _ ⟨he, hw⟩ => ⟨by rw [he]; exact vec_eq (by omega) (by omega) (by omega), hw⟩
theorem sSubV (a b c x y z p q r : Int) (w : World) (h : Vok x y z 1152921504606846976) (k : Vok (-a) (-b) (-c) 1152921504606846976) (e : AwE a b c x y z p q r) :
    Calls Tryz.prog 155 #[.agg #[.int .i64 (x), .int .i64 (y), .int .i64 (z)], .agg #[.int .i64 (-a), .int .i64 (-b), .int .i64 (-c)]] w fun e w' => e = .returned (.agg #[.int .i64 (p), .int .i64 (q), .int .i64 (r)]) ∧ Below w.heap.size w w' := by
  obtain ⟨rfl, rfl, rfl⟩ := e
  exact (l2Plus_any x y z (-a) (-b) (-c) w h k).mono fun _ _ ⟨he, hw⟩ => ⟨by rw [he]; exact vec_eq (by omega) (by omega) (by omega), hw⟩
theorem l4AwayV (a b c d x y z p q r : Int) (w : World) (h : Vok a b c 400) (k : Vok x y z 800) (e : AwE a b c x y z p q r) :
    Calls Tryz.prog 190 #[.agg #[.int .i64 (a), .int .i64 (b), .int .i64 (c), .int .i64 (d)], .agg #[.int .i64 (x), .int .i64 (y), .int .i64 (z)]] w fun e w' => e = .returned (.agg #[.int .i64 (p), .int .i64 (q), .int .i64 (r)]) ∧ Below w.heap.size w w' := by
  have V1 := Lib.hid (vokUp h (by omega))
  have V2 : Hid (Vok x y z 1152921504606846976) := Lib.hid (by unfold Vok at *; omega)
  have V3 : Hid (Vok (-a) (-b) (-c) 1152921504606846976) := Lib.hid (by unfold Vok at *; omega)
  have E := Lib.hid e
  clear h k e
  go_enter Tryz.func190, Tryz.ntmps190
  go_upto_region 1 with fail
  (refine wp_region_held1 5 (by kernel_rfl) (by kernel_rfl) rfl (fun _ _ _ d _ h => by cases d <;> exact h) ?_; intro Fq hFq; simp only [List.take_succ_cons, List.take_zero])
  repeat (first | (refine wpHeld_run ?_ rfl ?_ ?_; rotate_left; (focus (intro w' hbq Kq hKq; ((try (have B0 := Jb (b := w.heap.size) (by repeat' (first|with_reducible (first|assumption|apply J0|apply J1|apply J2|apply J3|apply J4|apply J5|apply J6|apply J7|apply J8|apply J9)|(with_reducible show _ ≠ _;first|omega|(simp;done)))) hbq; have C0 := Jc B0; have F0 := Jf B0)); (try (have B1 := Jb (b := w.heap.size + 1) (by repeat' (first|with_reducible (first|assumption|apply J0|apply J1|apply J2|apply J3|apply J4|apply J5|apply J6|apply J7|apply J8|apply J9)|(with_reducible show _ ≠ _;first|omega|(simp;done)))) hbq; have C1 := Jc B1; have F1 := Jf B1)); (try (have B2 := Jb (b := w.heap.size + 1 + 1) (by repeat' (first|with_reducible (first|assumption|apply J0|apply J1|apply J2|apply J3|apply J4|apply J5|apply J6|apply J7|apply J8|apply J9)|(with_reducible show _ ≠ _;first|omega|(simp;done)))) hbq; have C2 := Jc B2; have F2 := Jf B2))); go_simp; (try (rw [IntWalk.i64_in]; rotate_left; focus (constructor <;> omega))); first | exact hKq _ (Below.refl _ _) | first | (go_at_call 156; ((with_reducible refine (sNegV _ _ _ _ V1.out).mono ?_); rintro e w2 ⟨rfl, hbr⟩; refine back ?_; exact hKq _ hbr)) | (go_at_call 155; ((with_reducible refine (sSubV _ _ _ _ _ _ _ _ _ _ V2.out V3.out E.out).mono ?_); rintro e w2 ⟨rfl, hbr⟩; refine back ?_; exact hKq _ hbr)))); ((try simp only [Act.put, List.setIfInBounds_toArray, List.set_cons_zero, List.set_cons_succ]))) | (refine wpHeld_skip (by rfl) ?_; ((try simp only [Act.put, List.setIfInBounds_toArray, List.set_cons_zero, List.set_cons_succ]))))
  (refine wpHeld_nil (hFq _ ?_); clear hFq; intro w' hbq; ((try (have B0 := Jb (b := w.heap.size) (by repeat' (first|with_reducible (first|assumption|apply J0|apply J1|apply J2|apply J3|apply J4|apply J5|apply J6|apply J7|apply J8|apply J9)|(with_reducible show _ ≠ _;first|omega|(simp;done)))) hbq; have C0 := Jc B0; have F0 := Jf B0)); (try (have B1 := Jb (b := w.heap.size + 1) (by repeat' (first|with_reducible (first|assumption|apply J0|apply J1|apply J2|apply J3|apply J4|apply J5|apply J6|apply J7|apply J8|apply J9)|(with_reducible show _ ≠ _;first|omega|(simp;done)))) hbq; have C1 := Jc B1; have F1 := Jf B1)); (try (have B2 := Jb (b := w.heap.size + 1 + 1) (by repeat' (first|with_reducible (first|assumption|apply J0|apply J1|apply J2|apply J3|apply J4|apply J5|apply J6|apply J7|apply J8|apply J9)|(with_reducible show _ ≠ _;first|omega|(simp;done)))) hbq; have C2 := Jc B2; have F2 := Jf B2))))
  go_wp2
  refine bodyPost_ret (v := .agg #[.int .i64 (p), .int .i64 (q), .int .i64 (r)]) (by simp [results, Tryz.results190, go_sem, *]) rfl ⟨vec_eq (by first | rfl | omega) (by first | rfl | omega) (by first | rfl | omega), ?_⟩; (repeat' (first|with_reducible (first|exact lowRefl _|apply lowSet|apply lowDrew|apply lowDrewN|apply lowAlloc)|(with_reducible refine lowCall ?_ (by assumption))|(show (_ : Nat) ≤ _;first|(simp;done)|(simp;omega)|omega)))

end Go.Proofs.YtegibpepdndocabGreat
end
section
namespace Go.Proofs.YtegibpepdndocabGreat
open Go Go.RowKit

/- as XHeld4, where the two variables are of two types -/
section
variable {P : Program} {ops : Array Oper} {Q : Exit → Act → World → Prop} {md : Region.Mode} {S : World → Prop}
theorem held_tail7 {n : Nat} {o5 o6 o7 o8 : Oper} {obj obj2 objA : Obj} {listed : Array Bool} {a : Act} {N : Nat} (hstab : ∀ w w', S w → Below w.heap.size w w' → S w') (hN : ∀ w, S w → N ≤ w.heap.size)
    (h5 : ops[n]? = some o5) (h6 : ops[n + 1]? = some o6) (h7 : ops[n + 2]? = some o7) (h8 : ops[n + 3]? = some o8) (hT : tail4B md ops n listed = true)
    (hcm : ∀ (a : Act) u v, (a.put o5.dst u).put o6.dst v = (a.put o6.dst v).put o5.dst u) (hd7 : ∀ (a : Act) u, a.put o7.dst u = a)
    (g5 : ∀ ys, Region.wanted o5 ys = true) (g6 : ∀ ys, Region.wanted o6 ys = true) (g7 : ∀ ys, Region.wanted o7 ys = true)
    (a5 : ∀ (a : Act) w (K : Value → World → Prop), K (.pointer (some ⟨w.heap.size, 0, none⟩)) (w.alloc obj) → VGo P K ((execOp a.eval o5).run P w))
    (a6 : ∀ (a : Act) w (K : Value → World → Prop), K (.pointer (some ⟨w.heap.size, 0, none⟩)) (w.alloc obj2) → VGo P K ((execOp a.eval o6).run P w))
    (hst : ∀ b b' w, S w → N ≤ b → N ≤ b' → b ≠ b' → w.heap[b]? = some obj → w.heap[b']? = some obj2 →
      VGo P (fun _ w' => S w' ∧ w'.heap[b]? = some objA ∧ w'.heap[b']? = some obj2) ((execOp ((a.put o5.dst (.pointer (some ⟨b, 0, none⟩))).put o6.dst (.pointer (some ⟨b', 0, none⟩))).eval o7).run P w))
    (hlast : ∀ b b' w, S w → N ≤ b → N ≤ b' → b ≠ b' → w.heap[b]? = some objA → w.heap[b']? = some obj2 →
      wpList P ops Q [o8] ((a.put o5.dst (.pointer (some ⟨b, 0, none⟩))).put o6.dst (.pointer (some ⟨b', 0, none⟩))) w)
    (w : World) (hS : S w) : heldAny P md ops Q S 4 listed a w := by
  simp only [tail4B, Bool.and_eq_true, decide_eq_true_eq] at hT
  obtain ⟨⟨⟨⟨⟨⟨r0, hn⟩, hs⟩, r1⟩, r2⟩, r3⟩, r4⟩ := hT
  have new : ∀ (w : World) (o : Obj), (w.alloc o).heap[w.heap.size]? = some o := fun w o => by show (w.heap.push o)[w.heap.size]? = some o; simp
  have old : ∀ (w : World) (b : Nat) (o o' : Obj), w.heap[b]? = some o → (w.alloc o').heap[b]? = some o := fun w b o o' h => blk_below h ((Below.refl _ _).alloc (Nat.le_refl _) _)
  have lt : ∀ (w : World) (b : Nat) (o : Obj), w.heap[b]? = some o → b < w.heap.size := fun w b o h => (Array.getElem?_eq_some_iff.1 h).1
  /- both are made -/
  have fin : ∀ b b' w, S w → N ≤ b → N ≤ b' → b ≠ b' → w.heap[b]? = some obj → w.heap[b']? = some obj2 →
      heldAny P md ops Q S 2 ((listed.setIfInBounds n true).setIfInBounds (n + 1) true) ((a.put o5.dst (.pointer (some ⟨b, 0, none⟩))).put o6.dst (.pointer (some ⟨b', 0, none⟩))) w := by
    intro b b' w hS n1 n2 hne hb hb'
    refine ⟨by rw [r3]; simp, hS, fun w => w.heap[b]? = some obj ∧ w.heap[b']? = some obj2, fun w1 w2 h k => ⟨blk_below h.1 k, blk_below h.2 k⟩, ⟨hb, hb'⟩, fun w1 hS1 hF1 i hi => ?_⟩
    rw [r3] at hi
    have hin : i = n + 2 := by simpa using hi
    subst hin
    refine wpOp_of_vgo h7 (g7 _) _ (hst b b' w1 hS1 n1 n2 hne hF1.1 hF1.2) fun u w2 hh => ?_
    obtain ⟨hS2, k1, k2⟩ := hh
    rw [hd7]
    refine ⟨by rw [r4]; simp, hS2, fun w => w.heap[b]? = some objA ∧ w.heap[b']? = some obj2, fun w1 w2 h k => ⟨blk_below h.1 k, blk_below h.2 k⟩, ⟨k1, k2⟩, fun w3 hS3 hF3 j hj => ?_⟩
    rw [r4] at hj
    have hjn : j = n + 3 := by simpa using hj
    subst hjn
    have hw : wpOp P ops Q (n + 3) (wpList P ops Q []) ((a.put o5.dst (.pointer (some ⟨b, 0, none⟩))).put o6.dst (.pointer (some ⟨b', 0, none⟩))) w3 := by
      unfold wpOp; simp only [h8]; exact hlast b b' w3 hS3 n1 n2 hne hF3.1 hF3.2
    refine wpOp_mono (fun a' w' h' => ⟨fun k hk => ?_, h'⟩) hw
    by_cases e3 : k = n + 3
    · subst e3; exact seen_set _
    by_cases e2 : k = n + 2
    · subst e2; exact seen_keep (seen_set _)
    by_cases e1 : k = n + 1
    · subst e1; exact seen_keep (seen_keep (seen_set _))
    by_cases e0 : k = n
    · subst e0; exact seen_keep (seen_keep (seen_keep (seen_set _)))
    · exact seen_keep (seen_keep (seen_keep (seen_keep (seenB_spec hs (by omega)))))
  refine ⟨by rw [r0]; simp, hS, fun _ => True, fun _ _ _ _ => trivial, trivial, fun w1 hS1 _ i hi => ?_⟩
  rw [r0] at hi
  have hin : i = n ∨ i = n + 1 := by simpa using hi
  rcases hin with rfl | rfl
  · refine wpOp_of_vgo h5 (g5 _) (fun u w' => u = .pointer (some ⟨w1.heap.size, 0, none⟩) ∧ w' = w1.alloc obj) (a5 _ _ _ ⟨rfl, rfl⟩) fun u w2 hh => ?_
    obtain ⟨rfl, rfl⟩ := hh
    refine ⟨by rw [r1]; simp, hstab _ _ hS1 ((Below.refl _ _).alloc (Nat.le_refl _) _), fun w => w.heap[w1.heap.size]? = some obj, fun _ _ h k => blk_below h k, new _ _, fun w3 hS3 hF3 j hj => ?_⟩
    rw [r1] at hj
    have hjn : j = i + 1 := by simpa using hj
    subst hjn
    refine wpOp_of_vgo h6 (g6 _) (fun u w' => u = .pointer (some ⟨w3.heap.size, 0, none⟩) ∧ w' = w3.alloc obj2) (a6 _ _ _ ⟨rfl, rfl⟩) fun u w4 hh => ?_
    obtain ⟨rfl, rfl⟩ := hh
    have := lt _ _ _ hF3
    exact fin _ _ _ (hstab _ _ hS3 ((Below.refl _ _).alloc (Nat.le_refl _) _)) (hN _ hS1) (hN _ hS3) (by omega) (old _ _ _ _ hF3) (new _ _)
  · refine wpOp_of_vgo h6 (g6 _) (fun u w' => u = .pointer (some ⟨w1.heap.size, 0, none⟩) ∧ w' = w1.alloc obj2) (a6 _ _ _ ⟨rfl, rfl⟩) fun u w2 hh => ?_
    obtain ⟨rfl, rfl⟩ := hh
    refine ⟨by rw [r2]; simp, hstab _ _ hS1 ((Below.refl _ _).alloc (Nat.le_refl _) _), fun w => w.heap[w1.heap.size]? = some obj2, fun _ _ h k => blk_below h k, new _ _, fun w3 hS3 hF3 j hj => ?_⟩
    rw [r2] at hj
    have hjn : j = n := by simpa using hj
    subst hjn
    refine wpOp_of_vgo h5 (g5 _) (fun u w' => u = .pointer (some ⟨w3.heap.size, 0, none⟩) ∧ w' = w3.alloc obj) (a5 _ _ _ ⟨rfl, rfl⟩) fun u w4 hh => ?_
    obtain ⟨rfl, rfl⟩ := hh
    have := lt _ _ _ hF3
    rw [Array.setIfInBounds_comm _ _ (show j + 1 ≠ j by omega), ← hcm]
    exact fin _ _ _ (hstab _ _ hS3 ((Below.refl _ _).alloc (Nat.le_refl _) _)) (hN _ hS3) (hN _ hS1) (by omega) (new _ _) (old _ _ _ _ hF3)
theorem wp_region_held7 {id : Nat} {a : Act} {w : World} {l : List Oper} {o5 o6 o7 o8 : Oper} (n : Nat) (hm : P.follows .mixedOrders = true) (hB : held4B l.toArray n = true)
    (h5 : l[n]? = some o5) (h6 : l[n + 1]? = some o6) (h7 : l[n + 2]? = some o7) (h8 : l[n + 3]? = some o8)
    (hQ : ∀ c a w (d : Option Tmp) (v : Value), Q (.panic c) (a.put d v) w → Q (.panic c) a w) (obj obj2 objA : Obj)
    (hcm : ∀ (a : Act) u v, (a.put o5.dst u).put o6.dst v = (a.put o6.dst v).put o5.dst u) (hd7 : ∀ (a : Act) u, a.put o7.dst u = a)
    (g5 : ∀ ys, Region.wanted o5 ys = true) (g6 : ∀ ys, Region.wanted o6 ys = true) (g7 : ∀ ys, Region.wanted o7 ys = true)
    (a5 : ∀ (a : Act) w (K : Value → World → Prop), K (.pointer (some ⟨w.heap.size, 0, none⟩)) (w.alloc obj) → VGo P K ((execOp a.eval o5).run P w))
    (a6 : ∀ (a : Act) w (K : Value → World → Prop), K (.pointer (some ⟨w.heap.size, 0, none⟩)) (w.alloc obj2) → VGo P K ((execOp a.eval o6).run P w))
    (h : ∀ Fin : Act → Prop, (∀ a', ((∀ b b' w1, Below w.drew.heap.size w.drew w1 → w.heap.size ≤ b → w.heap.size ≤ b' → b ≠ b' → w1.heap[b]? = some obj → w1.heap[b']? = some obj2 →
        VGo P (fun _ w' => Below w.drew.heap.size w.drew w' ∧ w'.heap[b]? = some objA ∧ w'.heap[b']? = some obj2) ((execOp ((a'.put o5.dst (.pointer (some ⟨b, 0, none⟩))).put o6.dst (.pointer (some ⟨b', 0, none⟩))).eval o7).run P w1)) ∧
      ∀ b b' w1, Below w.drew.heap.size w.drew w1 → w.heap.size ≤ b → w.heap.size ≤ b' → b ≠ b' → w1.heap[b]? = some objA → w1.heap[b']? = some obj2 →
        wpList P l.toArray Q [o8] ((a'.put o5.dst (.pointer (some ⟨b, 0, none⟩))).put o6.dst (.pointer (some ⟨b', 0, none⟩))) w1) → Fin a') →
      wpHeld P l.toArray (Below w.drew.heap.size w.drew) Fin (l.take n) a) : (Code.region id l.toArray true).wp P Q a w := by
  replace h := h _ (fun _ hf => hf)
  simp only [held4B, Bool.and_eq_true, decide_eq_true_eq] at hB
  obtain ⟨⟨⟨hsel, hl⟩, hn⟩, hh⟩ := hB
  have hn' : n < l.length := by simpa using hn
  have htl : (l.take n).length = n := by simp; omega
  have hT1 : n + 4 = l.toArray.size := by
    have : ∀ (f k : Nat) (listed : Array Bool), headB .any l.toArray (tail4B .any l.toArray) f k listed = true → k + f + 4 = l.toArray.size := by
      intro f
      induction f with
      | zero => intro k listed hb; simp only [headB, tail4B, Bool.and_eq_true, decide_eq_true_eq] at hb; omega
      | succ f ih => intro k listed hb; simp only [headB, Bool.and_eq_true] at hb; have := ih (k + 1) _ hb.2; omega
    have := this n 0 _ hh
    omega
  refine wp_region_any hm (wpAny_of_heldAny (md := .any) (S := Below w.drew.heap.size w.drew) _ _ _ _ ?_)
  have := heldAny_lex (md := .any) (P := P) (ops := l.toArray) (Q := Q) (S := Below w.drew.heap.size w.drew) (g := 4) (T := tail4B .any l.toArray) (below_stab w.drew) hsel hl hQ hn
    (fun listed a' hT hF w' hS => held_tail7 (N := w.heap.size) (below_stab w.drew) (fun w2 h2 => h2.size) (by simpa using h5) (by simpa using h6) (by simpa using h7) (by simpa using h8) hT hcm hd7 g5 g6 g7 a5 a6 hF.1 hF.2 w' hS) (l.take n) 0 (Array.replicate l.toArray.size false) a
    (fun j hj => by have hj' : j < n := by rw [htl] at hj; exact hj
                    simp [hj']) (by simpa using htl) (new_last _ (by omega)) (by rw [htl]; exact hh) h w.drew (Below.refl _ _)
  rw [htl, hT1] at this
  exact this
end
end Go.Proofs.YtegibpepdndocabGreat
end
