import Derived.Test.YtegibpepdndocabGreatRndb
import Derived.Test.YtegibpepdndocabGreatTreb
namespace Go.Proofs.YtegibpepdndocabGreat
open Has renaming new → J0, new1 → J1, new2 → J2, new3 → J3, new4 → J4, drew → J5, drewN → J6, alloc → J7, same → J8, other → J9, cell → Jc, frozen → Jf, below → Jb
open Go.RowKit Go.Shelf
set_option linter.unusedSimpArgs false
set_option linter.unusedVariables false

attribute [local go_sem] Oper.semAt_some VGo_value VGo_skip VGo_enter
attribute [local go_sem] Pt.arr0 Pt.arr1 Pt.arr2 Pt.arr3 Pt.arr4 Pt.arr5 Pt.arr6 Pt.arr7 Pt.arr8 Pt.arr9 Pt.arr10 Pt.arr11 Pt.arr12 Pt.arr13 Pt.arr14 Pt.arr15 Pt.arr16 Pt.arr17 Pt.arr18 Pt.arr19 Pt.arr20 Pt.arr21 Pt.arr22 Pt.arr23 Pt.arr24 Pt.arr25 Pt.arr26
attribute [-go_sem] loadVar storeVar
attribute [local go_sem] lvA svA
attribute [local go_sem high] ptLoadNew ptStoreNew moStoreNew
def StdPost (l : List Pt) (w : World) (e : Ending) (w' : World) : Prop :=
  ((SolidP l ∧ ∃ v, e = .returned (.tuple #[v, .bool true]) ∧ PRow w' w.heap.size v (lvs l)) ∨ (¬ SolidP l ∧ e = .returned (.tuple #[.slice none 0 0, .bool false]))) ∧ Below w.heap.size w w'
set_option maxRecDepth 100000 in
set_option maxHeartbeats 2000000 in
/- what the function's own memory holds between two rounds -/
structure SI (n0 bP g cR : Nat) (l : List Pt) (s : (Nat → Mo) × List Pt) (W : World) : Prop where
  r0 : Has W n0 #[.slice none 0 0] 59
  r1 : Has W (n0 + 1) #[.bool false] 4
  hP : Has W bP #[.slice (some ⟨g, 0, none⟩) l.length cR] 59
  hJ : Has W (bP + 1) (cellsM 24 s.1) 195
  row : PRow W (n0 + 2) (.slice (some ⟨g, 0, none⟩) l.length cR) s.2
theorem SI.own {n0 bP g cR : Nat} {l : List Pt} {s : (Nat → Mo) × List Pt} {A B : World} {row : Option Nat} (h : SI n0 bP g cR l s A) (hg : A.grownBy B row) (hr : ∀ r, row = some r → ∃ o : Obj, A.heap[r]? = some o ∧ o.isCells = false) : SI n0 bP g cR l s B :=
  ⟨hasOwn h.r0 hg hr, hasOwn h.r1 hg hr, hasOwn h.hP hg hr, hasOwn h.hJ hg hr, prowOwn h.row hg hr⟩
theorem SI.below {n0 bP g cR : Nat} {l : List Pt} {s : (Nat → Mo) × List Pt} {A B : World} (h : SI n0 bP g cR l s A) (hb : Below A.heap.size A B) : SI n0 bP g cR l s B :=
  ⟨h.r0.below hb, h.r1.below hb, h.hP.below hb, h.hJ.below hb, h.row.below hb⟩
theorem SI.other {n0 bP g cR b : Nat} {l : List Pt} {s : (Nat → Mo) × List Pt} {A B : World} (h : SI n0 bP g cR l s A) (hg : A.grownBy B (some b)) (h0 : b ≠ n0) (h1 : b ≠ n0 + 1) (h2 : b ≠ bP) (h3 : b ≠ bP + 1) (h4 : b ≠ g) : SI n0 bP g cR l s B :=
  ⟨h.r0.grown hg (by simp; omega), h.r1.grown hg (by simp; omega), h.hP.grown hg (by simp; omega), h.hJ.grown hg (by simp; omega), h.row.kept hg (.inr (fun e => h4 (Option.some.inj e).symm))⟩
def StI (n0 bP g cR C : Nat) (l : List Pt) (w : World) (pre : List (Ix l)) (W : World) : Prop := (AllP l pre ∧ SI n0 bP g cR l (Sf l pre) W ∧ C ≤ W.heap.size) ∧ Below n0 w W
def StX (n0 : Nat) (l : List Pt) (w : World) (c : Code) (pre : List (Ix l)) (W : World) : Prop :=
  (c = .ret ∧ (∃ ini x, pre = ini ++ [x] ∧ ¬ PassJ l (Sf l ini).1 x.1) ∧ Has W n0 #[.slice none 0 0] 59 ∧ Has W (n0 + 1) #[.bool false] 4) ∧ Below n0 w W
theorem stI_own (n0 bP g cR C : Nat) (l : List Pt) (w : World) (B : Nat) (hn : n0 ≤ w.heap.size) (hB : n0 ≤ B) : OwnFrom B (StI n0 bP g cR C l w) :=
  OwnFrom.and (Own.from (fun s A B row hs hg hr => ⟨hs.1, hs.2.1.own hg hr, Nat.le_trans hs.2.2 hg.size⟩) _) (ownFrom_below hn hB)
theorem stX_own (n0 : Nat) (l : List Pt) (w : World) (c : Code) (B : Nat) (hn : n0 ≤ w.heap.size) (hB : n0 ≤ B) : OwnFrom B (StX n0 l w c) :=
  OwnFrom.and (Own.from (fun s A B row hs hg hr => ⟨hs.1, hs.2.1, hasOwn hs.2.2.1 hg hr, hasOwn hs.2.2.2 hg hr⟩) _) (ownFrom_below hn hB)
/- the part that a round is handed lies in a block of its own -/
def StA (l : List Pt) (B : Nat) (T : Ix l → Nat → Array Value) (x : Ix l) (a : Act) (W : World) : Prop := ∃ Bx, B ≤ Bx ∧ Has W Bx (pa l x.1).arr 49 ∧ a = { tmps := T x Bx, defers := [] }
theorem stA_own (l : List Pt) (B C : Nat) (T : Ix l → Nat → Array Value) (x : Ix l) (a : Act) : OwnFrom C (fun (_ : Unit) W => StA l B T x a W) :=
  Own.from (fun s A B row hs hg hr => by obtain ⟨Bx, h1, h2, h3⟩ := hs; exact ⟨Bx, h1, hasOwn h2 hg hr, h3⟩) _
theorem prowCells {V : World} {B g n c : Nat} {l : List Pt} (h : PRow V B (.slice (some ⟨g, 0, none⟩) n c) l) : ∀ o : Obj, V.heap[g]? = some o → o.isCells = true := fun o ho => by
  rcases h.own.2 with ⟨h0, _⟩ | ⟨g2, cap, cur, h0, _, hh, _⟩
  · cases h0
  · simp only [Value.slice.injEq, Option.some.injEq, Addr.mk.injEq] at h0
    obtain ⟨⟨rfl, _⟩, _⟩ := h0
    rw [hh] at ho; cases ho; rfl
theorem deferredAt {X : World} {D : Nat} {q : Option (List Deferred)} (hK : X.heap[D]? = some (.deferred q)) : ∀ r, some D = some r → ∃ o : Obj, X.heap[r]? = some o ∧ o.isCells = false := fun r e => by
  cases e; exact ⟨_, hK, rfl⟩
theorem standing_no (l : List Pt) (v : Value) (w : World) (hl : PIn w v l) (hn : l.length ≤ 1048576) (hF : ¬ Form l) : Calls Tryz.prog 95 #[v] w (StdPost l w) := by
  have hc : ∀ w1, PIn w1 v l → Calls Tryz.prog 158 #[v] w1 fun e w' => e = .returned (.bool false) ∧ Below w1.heap.size w1 w' := fun w1 h1 => by
    have := isTree_any l v w1 h1 (by omega); rwa [dec_no hF] at this
  have HC := Lib.hid hc
  have HL := Lib.hid (hl.below (w' := (w.alloc (.cells #[.slice none 0 0] 59)).alloc (.cells #[.bool false] 4)) (by repeat' (first|with_reducible (first|exact lowRefl _|apply lowSet|apply lowDrew|apply lowDrewN|apply lowAlloc)|(with_reducible refine lowCall ?_ (by assumption))|(show (_ : Nat) ≤ _;first|(simp;done)|(simp;omega)|omega))))
  have HS := Lib.hid (fun k : SolidP l => hF k.1)
  clear hc hF hl
  go_enter Tryz.func95, Tryz.ntmps95
  go_upto_region 2 with (go_at_call 158; (with_reducible refine (HC.out _ HL.out).mono ?_); rintro e w' ⟨rfl, hbq⟩)
  have B0 := Jb (b := w.heap.size) (by repeat' (first|with_reducible (first|assumption|apply J0|apply J1|apply J2|apply J3|apply J4|apply J5|apply J6|apply J7|apply J8|apply J9)|(with_reducible show _ ≠ _;first|omega|(simp;done)))) hbq
  have B1 := Jb (b := w.heap.size + 1) (by repeat' (first|with_reducible (first|assumption|apply J0|apply J1|apply J2|apply J3|apply J4|apply J5|apply J6|apply J7|apply J8|apply J9)|(with_reducible show _ ≠ _;first|omega|(simp;done)))) hbq
  have hL : Below w.heap.size w w' := by repeat' (first|with_reducible (first|exact lowRefl _|apply lowSet|apply lowDrew|apply lowDrewN|apply lowAlloc)|(with_reducible refine lowCall ?_ (by assumption))|(show (_ : Nat) ≤ _;first|(simp;done)|(simp;omega)|omega))
  clear hbq
  have C0 := Jc B0
  have C1 := Jc B1
  have F0 := Jf B0
  have F1 := Jf B1
  go_wp2
  refine bodyPost_ret (v := .tuple #[.slice none 0 0, .bool false]) ?_ rfl ⟨.inr ⟨HS.out, rfl⟩, by repeat' (first|with_reducible (first|exact lowRefl _|apply lowSet|apply lowDrew|apply lowDrewN|apply lowAlloc)|(with_reducible refine lowCall ?_ (by assumption))|(show (_ : Nat) ≤ _;first|(simp;done)|(simp;omega)|omega))⟩
  have K0 : Has _ _ _ _ := B0.same 0 (.slice none 0 0)
  have K1 : Has ((w'.setCell ⟨w.heap.size, 0, none⟩ (.slice none 0 0)).setCell ⟨w.heap.size + 1, 0, none⟩ (.bool false)) (w.heap.size + 1) #[.bool false] 4 := by (refine Has.as (by repeat' (first|with_reducible (first|assumption|apply J0|apply J1|apply J2|apply J3|apply J4|apply J5|apply J6|apply J7|apply J8|apply J9)|(with_reducible show _ ≠ _;first|omega|(simp;done)))) ?_; first | (with_reducible rfl) | (simp only [List.setIfInBounds_toArray, List.set_cons_zero, List.set_cons_succ]; first | done | rfl) | rfl | (simp; done))
  have K2 : Has ((w'.setCell ⟨w.heap.size, 0, none⟩ (.slice none 0 0)).setCell ⟨w.heap.size + 1, 0, none⟩ (.bool false)) w.heap.size #[.slice none 0 0] 59 := by (refine Has.as (by repeat' (first|with_reducible (first|assumption|apply J0|apply J1|apply J2|apply J3|apply J4|apply J5|apply J6|apply J7|apply J8|apply J9)|(with_reducible show _ ≠ _;first|omega|(simp;done)))) ?_; first | (with_reducible rfl) | (simp only [List.setIfInBounds_toArray, List.set_cons_zero, List.set_cons_succ]; first | done | rfl) | rfl | (simp; done))
  have c1 := Jc K1
  have c2 := Jc K2
  simp [results, Tryz.results95, go_sem, c1, c2]
set_option maxRecDepth 100000 in
set_option maxHeartbeats 2000000 in
theorem standing_in (l : List Pt) (b off c : Nat) (w : World) (hl : PIn w (.slice (some ⟨b, off, none⟩) l.length c) l) (hr : ∀ i (h : i < l.length), Pat w b (off + i * 27) l[i]) (hF : Form l) : Calls Tryz.prog 95 #[.slice (some ⟨b, off, none⟩) l.length c] w (StdPost l w) := by
  have h1 : 1 ≤ l.length := hF.1.1
  have h2 : l.length ≤ 24 := hF.1.2
  have hc : ∀ w1, PIn w1 (.slice (some ⟨b, off, none⟩) l.length c) l → Calls Tryz.prog 158 #[.slice (some ⟨b, off, none⟩) l.length c] w1 fun e w' => e = .returned (.bool true) ∧ Below w1.heap.size w1 w' := fun w1 h1 => by
    have := isTree_any l _ w1 h1 (by omega); rwa [dec_yes hF] at this
  have HC := Lib.hid hc
  have HL := Lib.hid (hl.below (w' := (w.alloc (.cells #[.slice none 0 0] 59)).alloc (.cells #[.bool false] 4)) (by repeat' (first|with_reducible (first|exact lowRefl _|apply lowSet|apply lowDrew|apply lowDrewN|apply lowAlloc)|(with_reducible refine lowCall ?_ (by assumption))|(show (_ : Nat) ≤ _;first|(simp;done)|(simp;omega)|omega))))
  have HR := Lib.hid hr
  have HF := Lib.hid hF
  clear hc hF hl hr
  refine (callsIn_wide (n := 4)).1 ?_
  refine callsIn_of_wp_marks Tryz.func95 rfl trivial ?_ rfl
  simp only [Tryz.ntmps95, List.size_toArray, List.length_cons, List.length_nil, Nat.reduceAdd, Nat.reduceSub, Array.replicate_succ, Array.replicate_zero, List.push_toArray, List.append_toArray, List.nil_append, List.cons_append]
  refine (wpIn_wide (n := 4)).2 ?_
  go_upto_region 3 with (go_at_call 158; (with_reducible refine (HC.out _ HL.out).mono ?_); rintro e w' ⟨rfl, hbq⟩)
  have B0 := Jb (b := w.heap.size) (by repeat' (first|with_reducible (first|assumption|apply J0|apply J1|apply J2|apply J3|apply J4|apply J5|apply J6|apply J7|apply J8|apply J9)|(with_reducible show _ ≠ _;first|omega|(simp;done)))) hbq
  have B1 := Jb (b := w.heap.size + 1) (by repeat' (first|with_reducible (first|assumption|apply J0|apply J1|apply J2|apply J3|apply J4|apply J5|apply J6|apply J7|apply J8|apply J9)|(with_reducible show _ ≠ _;first|omega|(simp;done)))) hbq
  have hL : Below w.heap.size w w' := by repeat' (first|with_reducible (first|exact lowRefl _|apply lowSet|apply lowDrew|apply lowDrewN|apply lowAlloc)|(with_reducible refine lowCall ?_ (by assumption))|(show (_ : Nat) ≤ _;first|(simp;done)|(simp;omega)|omega))
  clear hbq HC HL
  go_upto_region 4 with (go_at_call 159; (with_reducible refine (clone_any l b off c w' (by omega) (fun i hi => (HR.out i hi).below hL)).mono ?_); rintro e w2 ⟨vR, rfl, hrow, hbq⟩; obtain ⟨A, cR, hv, hA, -⟩ := hrow.shape; rw [List.length_map] at hv hA; obtain ⟨g, hg, hg1, hg2⟩ := hA (by omega); subst hg; subst hv; clear hA)
  have B02 := B0.below hbq
  have B12 := B1.below hbq
  have hL2 := lowCall hL hbq
  have hlo : w.heap.size + 1 < w'.heap.size := B1.lt
  have hrow2 : PRow w2 (w.heap.size + 2) (.slice (some ⟨g, 0, none⟩) l.length cR) l := hrow.mono hlo
  clear B0 B1 hL hbq hrow
  go_upto_region 5 with fail
  refine (fun (k : ∀ wm, Has wm w.heap.size #[.slice none 0 0] 59 → Has wm (w.heap.size + 1) #[.bool false] 4 → Has wm w2.heap.size #[.slice (some ⟨g, 0, none⟩) l.length cR] 59 → Has wm (w2.heap.size + 1) (cellsM 24 fun _ => Mo.zero) 195 → PRow wm (w.heap.size + 2) (.slice (some ⟨g, 0, none⟩) l.length cR) l → Below w.heap.size w wm → Code.wp _ _ _ _ wm) => k _ ?_ ?_ ?_ ?_ ?_ ?_) ?_
  · repeat' (first|with_reducible (first|assumption|apply J0|apply J1|apply J2|apply J3|apply J4|apply J5|apply J6|apply J7|apply J8|apply J9)|(with_reducible show _ ≠ _;first|omega|(simp;done)))
  · repeat' (first|with_reducible (first|assumption|apply J0|apply J1|apply J2|apply J3|apply J4|apply J5|apply J6|apply J7|apply J8|apply J9)|(with_reducible show _ ≠ _;first|omega|(simp;done)))
  · (refine Has.as (by repeat' (first|with_reducible (first|assumption|apply J0|apply J1|apply J2|apply J3|apply J4|apply J5|apply J6|apply J7|apply J8|apply J9)|(with_reducible show _ ≠ _;first|omega|(simp;done)))) ?_; first | (with_reducible rfl) | (simp only [List.setIfInBounds_toArray, List.set_cons_zero, List.set_cons_succ]; first | done | rfl) | rfl | (simp; done))
  · (refine Has.as (by repeat' (first|with_reducible (first|assumption|apply J0|apply J1|apply J2|apply J3|apply J4|apply J5|apply J6|apply J7|apply J8|apply J9)|(with_reducible show _ ≠ _;first|omega|(simp;done)))) ?_; first | (with_reducible rfl) | (simp only [List.setIfInBounds_toArray, List.set_cons_zero, List.set_cons_succ]; first | done | rfl) | rfl | (simp; done))
  · exact RowK.alloc (RowK.alloc hrow2 _) _
  · repeat' (first|with_reducible (first|exact lowRefl _|apply lowSet|apply lowDrew|apply lowDrewN|apply lowAlloc)|(with_reducible refine lowCall ?_ (by assumption))|(show (_ : Nat) ≤ _;first|(simp;done)|(simp;omega)|omega))
  have hgl : g < w2.heap.size := hg2
  have hwl : w.heap.size + 2 ≤ g := Nat.le_trans hlo hg1
  clear B02 B12 hL2 hlo hrow2 hg1 hg2
  generalize w2.heap.size = bP at hgl ⊢
  clear w2 w'
  intro w' B0 B1 B2 B3 hrow hL
  obtain ⟨m, hm⟩ : ∃ m : Nat, (l.length : Int) - 1 = m := ⟨l.length - 1, by omega⟩
  have hm24 : m < 24 := by omega
  have S3 : ∀ w'', Below w'.heap.size w' w'' → (storeVar 47 ⟨bP + 1, m * 9, none⟩ (.agg #[.int .i64 (0), .int .i64 (1), .int .i64 (2), .bool (false), .bool (false), .bool (false), .int .i64 (0), .int .i64 (0), .int .i64 (0)])).run Tryz.prog w'' = .ok () (w''.setCells (bP + 1) (m * 9) Mo.rest.cells) := fun w'' h => moStoreAt (B3.below h) m hm24 Mo.rest
  go_upto_region 6 with (go_at_call 160; (with_reducible refine (still_any _).mono ?_); rintro e w3 ⟨rfl, hbq⟩; have S4 := S3 _ hbq)
  have B02 := Has.setCellsO (g := bP + 1) (by omega) Mo.rest.cells (m * 9) _ (B0.below hbq)
  have B12 := Has.setCellsO (g := bP + 1) (by omega) Mo.rest.cells (m * 9) _ (B1.below hbq)
  have B22 := Has.setCellsO (g := bP + 1) (by omega) Mo.rest.cells (m * 9) _ (B2.below hbq)
  have hJ0 : cellsM 24 (updM (fun _ => Mo.zero) (m : Int) Mo.rest) = cellsM 24 (Jn Mo.zero l 0) := by
    refine congrArg (cellsM 24) (funext fun i => ?_)
    show (if (i : Int) = (m : Int) then Mo.rest else Mo.zero) = if i + 1 = l.length then Mo.rest else Mo.zero
    by_cases e : i = m
    · rw [if_pos (by omega), if_pos (by omega)]
    · rw [if_neg (by omega), if_neg (by omega)]
  have B32 := Has.setCells Mo.rest.cells (m * 9) w3 _ (B3.below hbq)
  rw [cellsM_set 24 _ m (m : Int) Mo.rest rfl hm24, hJ0] at B32
  have hrow2 : PRow (w3.setCells (bP + 1) (m * 9) Mo.rest.cells) (w.heap.size + 2) (.slice (some ⟨g, 0, none⟩) l.length cR) l :=
    ⟨World.ownsRow.kept (hrow.below hbq).own (row := some (bP + 1)) (grownCells _ _ _ _) (.inr (fun h => absurd (show g = bP + 1 from Option.some.inj h) (by omega))), hrow.each⟩
  have hL2 := lowCells (a := w) (g := bP + 1) (by omega) Mo.rest.cells (m * 9) _ (lowCall hL hbq)
  clear B0 B1 B2 B3 hrow hL hbq S3 S4 hJ0
  generalize w3.setCells (bP + 1) (m * 9) Mo.rest.cells = w4 at B02 B12 B22 B32 hrow2 hL2 ⊢
  clear w3 w'
  go_wp2_with (go_at_call 161; (with_reducible refine (callsIn_wide.1 (back_in 4 _ _ _ _)).mono ?_); rintro e w' ⟨rfl, rfl⟩)
  refine (wpIn_wide (n := 4)).1 ?_
  have hbl : b < w.heap.size := (HR.out 0 (by omega)).lt
  have hn4 := hL2.size
  have hbs4 := B32.lt
  have HS0 : SI w.heap.size bP g cR l (Sf l []) (w4.alloc (.cells #[.slice (some ⟨b, off, none⟩) l.length c] 59)) := ⟨B02.alloc _, B12.alloc _, B22.alloc _, B32.alloc _, RowK.alloc hrow2 _⟩
  have hL3 : Below w.heap.size w (w4.alloc (.cells #[.slice (some ⟨b, off, none⟩) l.length c] 59)) := lowAlloc hL2 _
  have hbox := Has.new w4 #[.slice (some ⟨b, off, none⟩) l.length c] 59
  have hwl : (w4.alloc (.cells #[.slice (some ⟨b, off, none⟩) l.length c] 59)).heap.size = w4.heap.size + 1 := by simp
  have hIp : ∀ j (h : j < l.length), Pat (w4.alloc (.cells #[.slice (some ⟨b, off, none⟩) l.length c] 59)) b (off + j * 27) l[j] := fun j hj => (HR.out j hj).below hL3
  generalize w4.alloc (.cells #[.slice (some ⟨b, off, none⟩) l.length c] 59) = wl at HS0 hL3 hbox hwl hIp ⊢
  clear B02 B12 B22 B32 hrow2 hL2
  generalize w4.heap.size = Bs at hn4 hbs4 hbox hwl ⊢
  clear w4
  refine wpIn_rangeFunc_ownH (α := Ix l) rfl (by omega) (gf := 222) (lb := #[.pointer (some ⟨Bs, 0, none⟩)]) rfl trivial (enters_of Tryz.func222 (by kernel_rfl) rfl)
    (back_stops (4 - 1) (by omega) Bs w.heap.size b off c l h1 (by omega) wl (by omega) (by omega) hbl (by rw [Jc hbox]; rfl) hIp)
    (fun h k => h.trans k)
    (fun W lo o o' hl ho hc hw => ⟨belowK_b (w := wl) (by omega) W lo o o' hl ho hc hw, World.putObj_heap_other (by omega)⟩)
    (Below.refl _ _) ?hps
    (StI w.heap.size bP g cR wl.heap.size l w) (StX w.heap.size l w)
    (stI_own _ _ _ _ _ l w _ (Nat.le_refl _) (by omega)) (fun c => stX_own _ l w c _ (Nat.le_refl _) (by omega))
    ⟨⟨AllP_nil l, HS0, Nat.le_refl _⟩, hL3⟩
    (StA l wl.heap.size fun x Bx => #[.slice (some ⟨b, off, none⟩) l.length c, undef, .pointer (some ⟨w.heap.size, 0, none⟩), .pointer (some ⟨w.heap.size + 1, 0, none⟩), .pointer (some ⟨bP, 0, none⟩), .pointer (some ⟨bP + 1, 0, none⟩), .int .i64 x.1, .pointer (some ⟨Bx, 0, none⟩), undef, undef, undef, .slice (some ⟨b, off, none⟩) l.length c, .bool true, .bool false, .slice (some ⟨b, off, none⟩) l.length c, .slice (some ⟨g, 0, none⟩) l.length cR, .slice (some ⟨b, off, none⟩) l.length c, .int .i64 l.length, .int .i64 m, .agg #[.int .i64 (0), .int .i64 (1), .int .i64 (2), .bool (false), .bool (false), .bool (false), .int .i64 (0), .int .i64 (0), .int .i64 (0)], .pointer (some ⟨bP + 1, m * 9, none⟩), .slice (some ⟨b, off, none⟩) l.length c, .func (.func 222) #[] #[.pointer (some ⟨Bs, 0, none⟩)], .int .i64 x.1, (pa l x.1).val, undef, undef, undef, undef, undef, undef, undef, undef, undef, undef, undef, undef, undef, undef, undef, undef, undef, undef, undef, undef, undef, undef, undef, undef, undef, undef, undef, undef, undef, undef, undef, undef, undef, undef, undef, undef, undef, undef, undef])
    (fun x a' => stA_own l _ _ _ x a') ?assign ?body ?done ?stop
  case hps => exact fun _ => rfl
  case assign =>
    rintro lo pre x W K hI hK
    dsimp only [bkv]
    have hWs := hI.2.size
    have hWl : wl.heap.size ≤ W.heap.size := hI.1.2.2
    gi_wp2
    exact hK _ _ ((KeepsOthers.alloc _ _).from _) ⟨(Below.refl _ _).alloc hWs _, Below.heap_alloc W _ Bs (by omega)⟩ ((stI_own _ _ _ _ _ l w wl.heap.size (Nat.le_refl _) (by omega)).alloc _ hI) ⟨W.heap.size, hWl, Has.new _ _ _, rfl⟩
  case body =>
    rintro lo pre ⟨i, hi⟩ a' W hlo ⟨r, hr⟩ ⟨⟨hA, hS, hC⟩, hB⟩ ⟨Bx, hBx, bX, rfl⟩ hlt
    dsimp only at bX ⊢
    have hRB : RB w.heap.size wl.heap.size Bs w W W := ⟨KeepsFrom.refl _ _, Below.refl _ _, rfl, hB⟩
    have hPt : PtP (pa l i) := by have := (HF.out.2.1 i hi hi).1; rwa [← pa_get l i hi] at this
    have hMade : ∀ k ∈ made (pa l i), 0 ≤ k ∧ k < i := by have := (HF.out.2.1 i hi hi).2; rw [← pa_get l i hi] at this; exact fun k hk => lks_mem _ _ _ _ this hk
    obtain ⟨J, hJ⟩ : ∃ J, (Sf l pre).1 = J := ⟨_, rfl⟩
    obtain ⟨R, hR⟩ : ∃ R, (Sf l pre).2 = R := ⟨_, rfl⟩
    have hSs : Sf l pre = (J, R) := by rw [← hJ, ← hR]
    rw [hSs] at hS
    have hRl : R.length = l.length := by rw [← hR]; exact Sf_len l pre
    generalize hp : pa l i = p at bX hPt hMade ⊢
    have HA := Lib.hid hA
    have HSS := Lib.hid hSs
    have HPP := Lib.hid hp
    have HPT := Lib.hid hPt
    have HMD := Lib.hid hMade
    have LJ := moLoadAt hS.hJ i (by omega)
    dsimp only at LJ
    have hWn := hB.size
    clear hA hSs hp hPt hMade hJ hR hlt hr
    gi_upto_region 10 with fail
    have hSV : SI w.heap.size bP g cR l (J, R) (W.alloc (.cells (J i).cells.toArray 47)) := ⟨hS.r0.alloc _, hS.r1.alloc _, hS.hP.alloc _, hS.hJ.alloc _, RowK.alloc hS.row _⟩
    have bX2 := bX.alloc (.cells (J i).cells.toArray 47)
    have bM := Has.new W (J i).cells.toArray 47
    have hRB2 := hRB.alloc (Nat.le_refl _) hWn (by omega) (.cells (J i).cells.toArray 47)
    have hXM : Bx < W.heap.size := bX.lt
    clear hS bX hRB LJ
    generalize W.alloc (.cells (J i).cells.toArray 47) = V at hSV bX2 bM hRB2 ⊢
    generalize hBm : W.heap.size = Bm at bM hXM ⊢
    have HBm := Lib.hid hBm
    have hBmn : w.heap.size ≤ Bm := by omega
    have hBmw : wl.heap.size ≤ Bm := by omega
    clear hBm
    have hstep : ∃ mv : Mo, ((mv.ok → (J i).ok ∧ (p.k = 6 → p.m.ok ∧ (tog p.m (J i)).ok) ∧ mv = own p (J i)) ∧ (¬ mv.ok → ¬ ((J i).ok ∧ (p.k = 6 → p.m.ok ∧ (tog p.m (J i)).ok)))) ∧ (p.k ≠ 6 → mv = J i) ∧ (p.k = 6 → mv = togJ p.m (J i)) := by
      by_cases hk : p.k = 6
      · refine ⟨togJ p.m (J i), ⟨fun h => ?_, fun h k => h ?_⟩, fun k => absurd hk k, fun _ => rfl⟩
        · by_cases hh : (p.m.ok ∧ (J i).ok) ∧ (tog p.m (J i)).ok
          · exact ⟨hh.1.2, fun _ => ⟨hh.1.1, hh.2⟩, by rw [togJ_yes hh, own, if_pos hk]⟩
          · rw [togJ_no hh] at h; exact absurd h zero_mok
        · rw [togJ_yes ⟨⟨(k.2 hk).1, k.1⟩, (k.2 hk).2⟩]; exact (k.2 hk).2
      · exact ⟨J i, ⟨fun h => ⟨h, fun k => absurd k hk, by rw [own, if_neg hk]⟩, fun h k => h k.1⟩, fun _ => rfl, fun k => absurd k hk⟩
    obtain ⟨mv, hmv, hmv5, hmv6⟩ := hstep
    have HMV := Lib.hid hmv
    have HMV5 := Lib.hid hmv5
    clear hmv
    by_cases hk6 : p.k = 6
    all_goals
      have LX := ptMove bX2
      have PX := ptLoad _ bX2
      have CX := Jc bX2
      have LM := moLoad _ bM
      have hVn := hRB2.lo.size
    · have HK6 := Lib.hid hk6
      have HE := Lib.hid (hmv6 hk6)
      clear hmv5 hmv6
      gi_upto_region 12 with (refine ⟨trivial, ?_⟩; gi_at_call 162; refine (CallsIn.inRound lo (callsIn_wide.2 (iTogetherV p.m (J i) _))).mono ?_; rintro e V2 ⟨rfl, hbq⟩; have SM := moStore (togJ p.m (J i)) (bM.below hbq) rfl)
      have hVM := bM.lt
      have hRB3 := hRB2.call (Nat.le_refl _) hWn (by omega) hbq
      have hV2 := hbq.size
      refine (fun (k : ∀ Vm, SI w.heap.size bP g cR l (J, R) Vm → Has Vm Bx p.arr 49 → Has Vm Bm mv.cells.toArray 47 → RB w.heap.size wl.heap.size Bs w W Vm → Code.wpIn _ _ _ _ _ _ Vm) => k _ ?_ ?_ ?_ ?_) ?_
      · exact (hSV.below hbq).other (grownRow _ _ _) (by omega) (by omega) (by omega) (by omega) (by omega)
      · exact Has.setRowO (by omega) (bX2.below hbq) _
      · rw [HE.out]; exact Has.setRow (bM.below hbq) _
      · exact hRB3.row (Nat.le_refl _) hWn (by omega) (bM.below hbq) hBmn (by omega) _
      clear hSV bX2 bM hRB2 LX PX CX LM hbq hRB3 SM hVn hV2 hVM V2 V
      intro V hSV bX bM hRB
      have PX := ptLoad _ bX
      have LM := moLoad _ bM
      have hVn := hRB.lo.size
      have hVM := bM.lt
      by_cases hok : mv.ok
      · have hcm : ∀ w, Calls Tryz.prog 112 #[mv.val] w fun e w' => e = .returned (.bool true) ∧ Below w.heap.size w w' := fun w => by have := imotOk_any mv w; rwa [dec_yes hok] at this
        have HCM := Lib.hid hcm
        have HOK := Lib.hid hok
        clear hcm hok
        gi_upto_region 14 with (refine ⟨trivial, ?_⟩; gi_at_call 112; refine (CallsIn.inRound lo (callsIn_wide.2 (HCM.out _))).mono ?_; rintro e V2 ⟨rfl, hbq⟩)
        have hRB3 := hRB.call (Nat.le_refl _) hWn (by omega) hbq
        have hSV3 := hSV.below hbq
        have bX3 := bX.below hbq
        have bM3 := bM.below hbq
        have hVM3 := bM3.lt
        clear hRB hSV bX bM PX LM hbq hVn hVM V
        have PX := ptLoad _ bX3
        gi_wp2_with (refine ⟨trivial, ?_⟩; gi_at_call 163; refine (CallsIn.inRound lo (callsIn_wide.2 (madeOf_any p _ HPT.out.1))).mono ?_; rintro e V4 ⟨vk, rfl, ⟨Ak, ck, rfl, hk⟩, hbq⟩)
        have hRB4 := hRB3.call (Nat.le_refl _) hWn (by omega) hbq
        have hSV4 := hSV3.below hbq
        have bX4 := bX3.below hbq
        have bM4 := bM3.below hbq
        have hVM4 := bM4.lt
        have hV24 := hbq.size
        clear hRB3 hSV3 bX3 bM3 PX hbq
        have hk2 : Hid (0 < (made p).length → ∃ gk, Ak = some ⟨gk, 0, none⟩ ∧ Has V4 gk (kints (made p)) 3 ∧ wl.heap.size ≤ gk ∧ gk ≠ Bx ∧ gk ≠ Bm) := Lib.hid fun h => by
          obtain ⟨gk, e, h1, h2⟩ := hk h
          exact ⟨gk, e, h1, by omega, by omega, by omega⟩
        clear hk
        have hmk := HMD.out
        generalize hks : made p = ks at hk2 hmk ⊢
        have HKS := Lib.hid hks
        have HMK := Lib.hid hmk
        clear hks hmk
        have hksl : ks.length ≤ 2 := by rw [← HKS.out]; exact made_len p
        gi_loopw [41] (fun i2 wi => ∃ t : Nat, t ≤ ks.length ∧ i2 = .int .i64 t ∧ SI w.heap.size bP g cR l (spread J (ks.take t) mv, R) wi ∧ Has wi Bx p.arr 49 ∧ Has wi Bm mv.cells.toArray 47 ∧ RB w.heap.size wl.heap.size Bs w W wi ∧ V2.heap.size ≤ wi.heap.size ∧ (∀ gk, Has V4 gk (kints ks) 3 → wl.heap.size ≤ gk → Has wi gk (kints ks) 3)) (fun i2 _ => ks.length - (intOf i2).toNat)
        case atStart => exact ⟨0, by omega, rfl, hSV4, bX4, bM4, hRB4, hV24, fun gk h _ => h⟩
        case round =>
          clear hSV4 bX4 bM4 hRB4 hV24 hVM4
          obtain ⟨t, ht, rfl, hSI, hXi, hMi, hRBi, hsz, hkk⟩ := hrel
          have hMl := hMi.lt
          by_cases hc2 : t < ks.length
          · obtain ⟨gk, rfl, hg, hgw, _, _⟩ := hk2.out (by omega)
            have CK := (Jc (hkk gk hg hgw) t).trans (kints_get ks t hc2)
            obtain ⟨hk0, hki⟩ := HMK.out ks[t] (List.getElem_mem hc2)
            obtain ⟨kn, hkn⟩ : ∃ kn : Nat, ks[t] = kn := ⟨ks[t].toNat, by omega⟩
            have hkl : kn < 24 := by omega
            have LM := moLoad _ hMi
            have SM := moStoreAt hSI.hJ kn hkl mv
            have HSI := Lib.hid hSI
            have HKN := Lib.hid hkn
            have hVs := hRBi.lo.size
            clear hSI hk0 hki
            gi_wp2
            go_roundw
            case rel =>
              have hgr := grownCells wr (bP + 1) (kn * 9) mv.cells
              refine ⟨t + 1, by omega, by go_num, ⟨?_, ?_, ?_, ?_, ?_⟩, ?_, ?_, hRBi.cells (Nat.le_refl _) hWn (by omega) HSI.out.hJ (by omega) (by omega) _ _, by rw [sizeCells]; exact hsz, fun gk2 h3 h4 => (hkk gk2 h3 h4).grown hgr (by simp; omega)⟩
              · exact HSI.out.r0.grown hgr (by simp; omega)
              · exact HSI.out.r1.grown hgr (by simp; omega)
              · exact HSI.out.hP.grown hgr (by simp)
              · refine Has.as (Has.setCells mv.cells (kn * 9) _ _ HSI.out.hJ) ?_
                rw [cellsM_set 24 _ kn ks[t] mv HKN.out.symm hkl, spread_take _ _ _ _ hc2]
              · exact HSI.out.row.kept hgr (.inr (fun e => absurd (show g = bP + 1 from Option.some.inj e) (by omega)))
              · exact hXi.grown hgr (by simp; omega)
              · exact hMi.grown hgr (by simp; omega)
            case measure => simp [intOf]; omega
          · obtain rfl : t = ks.length := by omega
            rw [List.take_length] at hSI
            have PX := ptLoad _ hXi
            have hSn : Sf l (pre ++ [⟨i, hi⟩]) = (spread J ks mv, if p.k ≤ 2 then R.set i (leafAt (J i) p) else R) := by
              rw [Sf_snoc, HSS.out]; simp only [st2, HPP.out, HKS.out]; rw [← (HMV.out.1 HOK.out).2.2]
            have HSN := Lib.hid hSn
            clear hSn
            by_cases hk2b : p.k ≤ 2
            · have h0k := HPT.out.1.1
              obtain ⟨hSt, hLf⟩ := HPT.out.2.1 hk2b
              have hmJ : mv = J i := HMV5.out (by omega)
              gi_upto_region 20 with (refine ⟨trivial, ?_⟩; gi_at_call 120; refine (CallsIn.inRound lo (callsIn_wide.2 (isMade_no p _ (.inl (by omega))))).mono ?_; rintro e V5 ⟨rfl, hbq⟩)
              have hRB5 := (hRBi.call (Nat.le_refl _) hWn (by omega) hbq).drew
              have NS : SI w.heap.size bP g cR l (spread J ks mv, R) V5.drew := (hSI.below hbq).below (Below.refl _ _ |>.drew)
              have NX : Has V5.drew Bx p.arr 49 := (hXi.below hbq).drew
              have NM : Has V5.drew Bm mv.cells.toArray 47 := (hMi.below hbq).drew
              clear hRBi hSI hXi hMi hbq PX
              have hR2 : ∀ w', Below V5.drew.heap.size V5.drew w' → w'.cell? ⟨bP, 0, none⟩ = some (.slice (some ⟨g, 0, none⟩) l.length cR) := fun w' h => by rw [Jc (NS.hP.below h)]; rfl
              have hX2 : ∀ w', Below V5.drew.heap.size V5.drew w' → (loadVar 49 ⟨Bx, 0, none⟩).run Tryz.prog w' = .ok p.val w' := fun w' h => ptLoad _ (NX.below h)
              have hM2 : ∀ w', Below V5.drew.heap.size V5.drew w' → (loadVar 47 ⟨Bm, 0, none⟩).run Tryz.prog w' = .ok mv.val w' := fun w' h => moLoad _ (NM.below h)
              have HR2 := Lib.hid hR2
              have HX2 := Lib.hid hX2
              have HM2 := Lib.hid hM2
              have HLf := Lib.hid hLf
              have HSt := Lib.hid hSt
              have HmJ := Lib.hid hmJ
              have H02 := Lib.hid (show 0 ≤ p.k ∧ p.k ≤ 2 from ⟨h0k, hk2b⟩)
              clear hR2 hX2 hM2 hLf hSt hmJ
              refine wpIn_region_held1 6 (fun ⟨_, _, h⟩ => h) (by kernel_rfl) (by kernel_rfl) (by kernel_rfl) rfl (fun _ _ _ d _ h => by cases d <;> exact h) ?_
              intro Fq hFq
              simp only [List.take_succ_cons, List.take_zero]
              repeat (first | (refine wpHeld_skip (by rfl) ?_; ((try simp only [Act.put, List.setIfInBounds_toArray, List.set_cons_zero, List.set_cons_succ]))) | (refine wpHeld_run ?_ rfl ?_ ?_; rotate_left; (focus (intro w' hbq Kq hKq; go_simp; (try (rw [IntWalk.i64_in]; rotate_left; focus (constructor <;> omega))); first | exact hKq _ (Below.refl _ _) | first | (go_at_call 164; ((with_reducible refine (leafMoved_any mv p _ HOK.out H02.out HLf.out).mono ?_); rintro e w2 ⟨rfl, hbr⟩; refine back ?_; exact hKq _ hbr)) | (have c1 := HR2.out _ hbq; have c2 := HX2.out _ hbq; have c3 := HM2.out _ hbq; go_simp; exact hKq _ (Below.refl _ _)))); ((try simp only [Act.put, List.setIfInBounds_toArray, List.set_cons_zero, List.set_cons_succ]))))
              refine wpHeld_nil (hFq _ ?_)
              clear hFq
              intro V6 hbq
              have hRB6 := hRB5.call (Nat.le_refl _) hWn (by have := NM.lt; omega) hbq
              have NS6 := NS.below hbq
              have hM6 := (NM.below hbq).lt
              obtain ⟨ST, SR, SG⟩ := PRow.storeAt (show PRow V6 _ _ R from NS6.row) hRl.symm i (by omega) (leafAtI mv p)
              have NS7 : SI w.heap.size bP g cR l (spread J ks mv, R.set i (leafAtI mv p)) (V6.setCells g (i * 27) (leafAtI mv p).cells) :=
                ⟨NS6.r0.grown SG (by simp; omega), NS6.r1.grown SG (by simp; omega), NS6.hP.grown SG (by simp; omega), NS6.hJ.grown SG (by simp; omega), SR⟩
              have hRB7 := hRB6.grown (Nat.le_refl _) hWn (by omega) SG (fun k e => by
                cases e
                exact ⟨by omega, by omega, prowCells NS6.row⟩)
              have LR := PRow.load SR (by rw [List.length_set]; exact hRl.symm) i (by rw [List.length_set]; omega)
              rw [List.getElem_set_self] at LR
              have CP := Jc NS7.hP
              have hM7 : Bm < (V6.setCells g (i * 27) (leafAtI mv p).cells).heap.size := by rw [sizeCells]; exact hM6
              clear NS NX NM hRB5 hbq NS6 hM6 hRB6 SR SG
              go_wp2
              have hlo : Calls Tryz.prog 165 #[(leafAtI mv p).val] (V6.setCells g (i * 27) (leafAtI mv p).cells) fun e w' => e = .returned (.bool (dec (LeafP (leafAt mv p)))) ∧ Below (V6.setCells g (i * 27) (leafAtI mv p).cells).heap.size (V6.setCells g (i * 27) (leafAtI mv p).cells) w' := by
                have hS2 : (leafAtI mv p).S = p.S := by unfold leafAtI; split; rfl; split <;> rfl
                have hK2 : (leafAtI mv p).k = p.k := by unfold leafAtI; split; rfl; split <;> rfl
                have h3 := leafOk_any (leafAtI mv p) (V6.setCells g (i * 27) (leafAtI mv p).cells) (by rw [hK2]; exact H02.out)
                have e : ((0 ≤ (leafAtI mv p).S ∧ (leafAtI mv p).S ≤ 7) ∧ LeafP (leafAtI mv p)) = LeafP (leafAt mv p) := propext ⟨fun k => (leafAtI_ok mv p).1 k.2, fun k => ⟨by rw [hS2]; exact HSt.out, (leafAtI_ok mv p).2 k⟩⟩
                rw [e] at h3
                exact h3
              generalize V6.setCells g (i * 27) (leafAtI mv p).cells = V7 at NS7 hRB7 LR CP hM7 hlo ⊢
              clear ST
              by_cases hleaf : LeafP (leafAt mv p)
              · rw [dec_yes hleaf] at hlo
                have HLO := Lib.hid hlo
                have HL2 := Lib.hid hleaf
                clear hlo hleaf
                gi_wp2_with (refine ⟨trivial, ?_⟩; gi_at_call 165; refine (CallsIn.inRound lo (callsIn_wide.2 HLO.out)).mono ?_; rintro e V8 ⟨rfl, hbq⟩)
                have hRB8 := hRB7.call (Nat.le_refl _) hWn (by omega) hbq
                have hs8 := hbq.size
                refine ⟨hRB8.kf, ⟨hRB8.bw, hRB8.bs⟩, ⟨AllP_snoc HA.out ?_, ?_, by omega⟩, hRB8.lo⟩
                · rw [HSS.out]
                  simp only [PassJ, HPP.out]
                  exact ⟨(HMV.out.1 HOK.out).1, (HMV.out.1 HOK.out).2.1, fun _ => by rw [← HmJ.out]; exact HL2.out⟩
                · rw [HSN.out, if_pos H02.out.2, ← HmJ.out, ← leafAtI_eq mv p H02.out.2 H02.out.1 HL2.out]
                  exact NS7.below hbq
              · rw [dec_no hleaf] at hlo
                have HLO := Lib.hid hlo
                have HL2 := Lib.hid hleaf
                clear hlo hleaf
                gi_upto_region 22 with (refine ⟨trivial, ?_⟩; gi_at_call 165; refine (CallsIn.inRound lo (callsIn_wide.2 HLO.out)).mono ?_; rintro e V8 ⟨rfl, hbq⟩)
                have hRB8 := hRB7.call (Nat.le_refl _) hWn (by omega) hbq
                have hSV3 := NS7.below hbq
                have hs8 := hbq.size
                clear NS7 hRB7 LR CP hbq
                have C0 := Jc hSV3.r0
                have C1 := Jc hSV3.r1
                have F0 := Jf hSV3.r0
                have F1 := Jf hSV3.r1
                have HSV := Lib.hid hSV3
                clear hSV3
                gi_wp2
                have hr2 := (hRB8.cell (Nat.le_refl _) hWn (by omega) HSV.out.r0 (Nat.le_refl _) (by omega) 0 (.slice none 0 0)).cell (Nat.le_refl _) hWn (by simp; omega) (HSV.out.r1.other (by omega) 0 _) (by omega) (by omega) 0 (.bool false)
                exact ⟨hr2.kf, ⟨rfl, ⟨pre, ⟨i, hi⟩, rfl, fun k => HL2.out (by rw [HSS.out] at k; simp only [PassJ, HPP.out] at k; rw [HmJ.out]; exact k.2.2 H02.out.2)⟩, Has.other (by omega) (Has.as (HSV.out.r0.same 0 _) rfl) _ _, Has.as ((Has.other (by omega) HSV.out.r1 _ _).same 0 _) rfl⟩, hr2.lo⟩
            · have hk36 := HPT.out.1.2
              gi_wp2_with (refine ⟨trivial, ?_⟩; gi_at_call 120; refine (CallsIn.inRound lo (callsIn_wide.2 (isMade_yes p _ (by omega) hk36))).mono ?_; rintro e V5 ⟨rfl, hbq⟩)
              have hRB5 := hRBi.call (Nat.le_refl _) hWn (by omega) hbq
              have hs5 := hbq.size
              refine ⟨hRB5.kf, ⟨hRB5.bw, hRB5.bs⟩, ⟨AllP_snoc HA.out ?_, ?_, by omega⟩, hRB5.lo⟩
              · rw [HSS.out]
                simp only [PassJ, HPP.out]
                exact ⟨(HMV.out.1 HOK.out).1, (HMV.out.1 HOK.out).2.1, fun k => by omega⟩
              · rw [HSN.out, if_neg (by omega)]
                exact hSI.below hbq
      · have hcm : ∀ w, Calls Tryz.prog 112 #[mv.val] w fun e w' => e = .returned (.bool false) ∧ Below w.heap.size w w' := fun w => by have := imotOk_any mv w; rwa [dec_no hok] at this
        have HCM := Lib.hid hcm
        have HOK := Lib.hid hok
        clear hcm hok
        gi_upto_region 13 with (refine ⟨trivial, ?_⟩; gi_at_call 112; refine (CallsIn.inRound lo (callsIn_wide.2 (HCM.out _))).mono ?_; rintro e V2 ⟨rfl, hbq⟩)
        have hRB3 := hRB.call (Nat.le_refl _) hWn (by omega) hbq
        have hSV3 := hSV.below hbq
        have hVM3 := (bM.below hbq).lt
        clear hRB hSV bX bM PX LM hbq hVn hVM V
        have C0 := Jc hSV3.r0
        have C1 := Jc hSV3.r1
        have F0 := Jf hSV3.r0
        have F1 := Jf hSV3.r1
        have HSV := Lib.hid hSV3
        clear hSV3
        gi_wp2
        have hr2 := (hRB3.cell (Nat.le_refl _) hWn (by omega) HSV.out.r0 (Nat.le_refl _) (by omega) 0 (.slice none 0 0)).cell (Nat.le_refl _) hWn (by simp; omega) (HSV.out.r1.other (by omega) 0 _) (by omega) (by omega) 0 (.bool false)
        exact ⟨hr2.kf, ⟨rfl, ⟨pre, ⟨i, hi⟩, rfl, fun k => HMV.out.2 HOK.out (by rw [HSS.out] at k; simp only [PassJ, HPP.out] at k; exact ⟨k.1, k.2.1⟩)⟩, Has.other (by omega) (Has.as (HSV.out.r0.same 0 _) rfl) _ _, Has.as ((Has.other (by omega) HSV.out.r1 _ _).same 0 _) rfl⟩, hr2.lo⟩
    · have HE := Lib.hid (hmv5 hk6)
      clear hmv5 hmv6
      gi_upto_region 12 with fail
      refine (fun (k : ∀ Vm, SI w.heap.size bP g cR l (J, R) Vm → Has Vm Bx p.arr 49 → Has Vm Bm mv.cells.toArray 47 → RB w.heap.size wl.heap.size Bs w W Vm → Code.wpIn _ _ _ _ _ _ Vm) => k _ ?_ ?_ ?_ ?_) ?_
      · exact hSV
      · exact bX2
      · rw [HE.out]; exact bM
      · exact hRB2
      clear hSV bX2 bM hRB2 LX PX CX LM hVn V
      intro V hSV bX bM hRB
      have PX := ptLoad _ bX
      have LM := moLoad _ bM
      have hVn := hRB.lo.size
      have hVM := bM.lt
      by_cases hok : mv.ok
      · have hcm : ∀ w, Calls Tryz.prog 112 #[mv.val] w fun e w' => e = .returned (.bool true) ∧ Below w.heap.size w w' := fun w => by have := imotOk_any mv w; rwa [dec_yes hok] at this
        have HCM := Lib.hid hcm
        have HOK := Lib.hid hok
        clear hcm hok
        gi_upto_region 14 with (refine ⟨trivial, ?_⟩; gi_at_call 112; refine (CallsIn.inRound lo (callsIn_wide.2 (HCM.out _))).mono ?_; rintro e V2 ⟨rfl, hbq⟩)
        have hRB3 := hRB.call (Nat.le_refl _) hWn (by omega) hbq
        have hSV3 := hSV.below hbq
        have bX3 := bX.below hbq
        have bM3 := bM.below hbq
        have hVM3 := bM3.lt
        clear hRB hSV bX bM PX LM hbq hVn hVM V
        have PX := ptLoad _ bX3
        gi_wp2_with (refine ⟨trivial, ?_⟩; gi_at_call 163; refine (CallsIn.inRound lo (callsIn_wide.2 (madeOf_any p _ HPT.out.1))).mono ?_; rintro e V4 ⟨vk, rfl, ⟨Ak, ck, rfl, hk⟩, hbq⟩)
        have hRB4 := hRB3.call (Nat.le_refl _) hWn (by omega) hbq
        have hSV4 := hSV3.below hbq
        have bX4 := bX3.below hbq
        have bM4 := bM3.below hbq
        have hVM4 := bM4.lt
        have hV24 := hbq.size
        clear hRB3 hSV3 bX3 bM3 PX hbq
        have hk2 : Hid (0 < (made p).length → ∃ gk, Ak = some ⟨gk, 0, none⟩ ∧ Has V4 gk (kints (made p)) 3 ∧ wl.heap.size ≤ gk ∧ gk ≠ Bx ∧ gk ≠ Bm) := Lib.hid fun h => by
          obtain ⟨gk, e, h1, h2⟩ := hk h
          exact ⟨gk, e, h1, by omega, by omega, by omega⟩
        clear hk
        have hmk := HMD.out
        generalize hks : made p = ks at hk2 hmk ⊢
        have HKS := Lib.hid hks
        have HMK := Lib.hid hmk
        clear hks hmk
        have hksl : ks.length ≤ 2 := by rw [← HKS.out]; exact made_len p
        gi_loopw [41] (fun i2 wi => ∃ t : Nat, t ≤ ks.length ∧ i2 = .int .i64 t ∧ SI w.heap.size bP g cR l (spread J (ks.take t) mv, R) wi ∧ Has wi Bx p.arr 49 ∧ Has wi Bm mv.cells.toArray 47 ∧ RB w.heap.size wl.heap.size Bs w W wi ∧ V2.heap.size ≤ wi.heap.size ∧ (∀ gk, Has V4 gk (kints ks) 3 → wl.heap.size ≤ gk → Has wi gk (kints ks) 3)) (fun i2 _ => ks.length - (intOf i2).toNat)
        case atStart => exact ⟨0, by omega, rfl, hSV4, bX4, bM4, hRB4, hV24, fun gk h _ => h⟩
        case round =>
          clear hSV4 bX4 bM4 hRB4 hV24 hVM4
          obtain ⟨t, ht, rfl, hSI, hXi, hMi, hRBi, hsz, hkk⟩ := hrel
          have hMl := hMi.lt
          by_cases hc2 : t < ks.length
          · obtain ⟨gk, rfl, hg, hgw, _, _⟩ := hk2.out (by omega)
            have CK := (Jc (hkk gk hg hgw) t).trans (kints_get ks t hc2)
            obtain ⟨hk0, hki⟩ := HMK.out ks[t] (List.getElem_mem hc2)
            obtain ⟨kn, hkn⟩ : ∃ kn : Nat, ks[t] = kn := ⟨ks[t].toNat, by omega⟩
            have hkl : kn < 24 := by omega
            have LM := moLoad _ hMi
            have SM := moStoreAt hSI.hJ kn hkl mv
            have HSI := Lib.hid hSI
            have HKN := Lib.hid hkn
            have hVs := hRBi.lo.size
            clear hSI hk0 hki
            gi_wp2
            go_roundw
            case rel =>
              have hgr := grownCells wr (bP + 1) (kn * 9) mv.cells
              refine ⟨t + 1, by omega, by go_num, ⟨?_, ?_, ?_, ?_, ?_⟩, ?_, ?_, hRBi.cells (Nat.le_refl _) hWn (by omega) HSI.out.hJ (by omega) (by omega) _ _, by rw [sizeCells]; exact hsz, fun gk2 h3 h4 => (hkk gk2 h3 h4).grown hgr (by simp; omega)⟩
              · exact HSI.out.r0.grown hgr (by simp; omega)
              · exact HSI.out.r1.grown hgr (by simp; omega)
              · exact HSI.out.hP.grown hgr (by simp)
              · refine Has.as (Has.setCells mv.cells (kn * 9) _ _ HSI.out.hJ) ?_
                rw [cellsM_set 24 _ kn ks[t] mv HKN.out.symm hkl, spread_take _ _ _ _ hc2]
              · exact HSI.out.row.kept hgr (.inr (fun e => absurd (show g = bP + 1 from Option.some.inj e) (by omega)))
              · exact hXi.grown hgr (by simp; omega)
              · exact hMi.grown hgr (by simp; omega)
            case measure => simp [intOf]; omega
          · obtain rfl : t = ks.length := by omega
            rw [List.take_length] at hSI
            have PX := ptLoad _ hXi
            have hSn : Sf l (pre ++ [⟨i, hi⟩]) = (spread J ks mv, if p.k ≤ 2 then R.set i (leafAt (J i) p) else R) := by
              rw [Sf_snoc, HSS.out]; simp only [st2, HPP.out, HKS.out]; rw [← (HMV.out.1 HOK.out).2.2]
            have HSN := Lib.hid hSn
            clear hSn
            by_cases hk2b : p.k ≤ 2
            · have h0k := HPT.out.1.1
              obtain ⟨hSt, hLf⟩ := HPT.out.2.1 hk2b
              have hmJ : mv = J i := HMV5.out (by omega)
              gi_upto_region 20 with (refine ⟨trivial, ?_⟩; gi_at_call 120; refine (CallsIn.inRound lo (callsIn_wide.2 (isMade_no p _ (.inl (by omega))))).mono ?_; rintro e V5 ⟨rfl, hbq⟩)
              have hRB5 := (hRBi.call (Nat.le_refl _) hWn (by omega) hbq).drew
              have NS : SI w.heap.size bP g cR l (spread J ks mv, R) V5.drew := (hSI.below hbq).below (Below.refl _ _ |>.drew)
              have NX : Has V5.drew Bx p.arr 49 := (hXi.below hbq).drew
              have NM : Has V5.drew Bm mv.cells.toArray 47 := (hMi.below hbq).drew
              clear hRBi hSI hXi hMi hbq PX
              have hR2 : ∀ w', Below V5.drew.heap.size V5.drew w' → w'.cell? ⟨bP, 0, none⟩ = some (.slice (some ⟨g, 0, none⟩) l.length cR) := fun w' h => by rw [Jc (NS.hP.below h)]; rfl
              have hX2 : ∀ w', Below V5.drew.heap.size V5.drew w' → (loadVar 49 ⟨Bx, 0, none⟩).run Tryz.prog w' = .ok p.val w' := fun w' h => ptLoad _ (NX.below h)
              have hM2 : ∀ w', Below V5.drew.heap.size V5.drew w' → (loadVar 47 ⟨Bm, 0, none⟩).run Tryz.prog w' = .ok mv.val w' := fun w' h => moLoad _ (NM.below h)
              have HR2 := Lib.hid hR2
              have HX2 := Lib.hid hX2
              have HM2 := Lib.hid hM2
              have HLf := Lib.hid hLf
              have HSt := Lib.hid hSt
              have HmJ := Lib.hid hmJ
              have H02 := Lib.hid (show 0 ≤ p.k ∧ p.k ≤ 2 from ⟨h0k, hk2b⟩)
              clear hR2 hX2 hM2 hLf hSt hmJ
              refine wpIn_region_held1 6 (fun ⟨_, _, h⟩ => h) (by kernel_rfl) (by kernel_rfl) (by kernel_rfl) rfl (fun _ _ _ d _ h => by cases d <;> exact h) ?_
              intro Fq hFq
              simp only [List.take_succ_cons, List.take_zero]
              repeat (first | (refine wpHeld_skip (by rfl) ?_; ((try simp only [Act.put, List.setIfInBounds_toArray, List.set_cons_zero, List.set_cons_succ]))) | (refine wpHeld_run ?_ rfl ?_ ?_; rotate_left; (focus (intro w' hbq Kq hKq; go_simp; (try (rw [IntWalk.i64_in]; rotate_left; focus (constructor <;> omega))); first | exact hKq _ (Below.refl _ _) | first | (go_at_call 164; ((with_reducible refine (leafMoved_any mv p _ HOK.out H02.out HLf.out).mono ?_); rintro e w2 ⟨rfl, hbr⟩; refine back ?_; exact hKq _ hbr)) | (have c1 := HR2.out _ hbq; have c2 := HX2.out _ hbq; have c3 := HM2.out _ hbq; go_simp; exact hKq _ (Below.refl _ _)))); ((try simp only [Act.put, List.setIfInBounds_toArray, List.set_cons_zero, List.set_cons_succ]))))
              refine wpHeld_nil (hFq _ ?_)
              clear hFq
              intro V6 hbq
              have hRB6 := hRB5.call (Nat.le_refl _) hWn (by have := NM.lt; omega) hbq
              have NS6 := NS.below hbq
              have hM6 := (NM.below hbq).lt
              obtain ⟨ST, SR, SG⟩ := PRow.storeAt (show PRow V6 _ _ R from NS6.row) hRl.symm i (by omega) (leafAtI mv p)
              have NS7 : SI w.heap.size bP g cR l (spread J ks mv, R.set i (leafAtI mv p)) (V6.setCells g (i * 27) (leafAtI mv p).cells) :=
                ⟨NS6.r0.grown SG (by simp; omega), NS6.r1.grown SG (by simp; omega), NS6.hP.grown SG (by simp; omega), NS6.hJ.grown SG (by simp; omega), SR⟩
              have hRB7 := hRB6.grown (Nat.le_refl _) hWn (by omega) SG (fun k e => by
                cases e
                exact ⟨by omega, by omega, prowCells NS6.row⟩)
              have LR := PRow.load SR (by rw [List.length_set]; exact hRl.symm) i (by rw [List.length_set]; omega)
              rw [List.getElem_set_self] at LR
              have CP := Jc NS7.hP
              have hM7 : Bm < (V6.setCells g (i * 27) (leafAtI mv p).cells).heap.size := by rw [sizeCells]; exact hM6
              clear NS NX NM hRB5 hbq NS6 hM6 hRB6 SR SG
              go_wp2
              have hlo : Calls Tryz.prog 165 #[(leafAtI mv p).val] (V6.setCells g (i * 27) (leafAtI mv p).cells) fun e w' => e = .returned (.bool (dec (LeafP (leafAt mv p)))) ∧ Below (V6.setCells g (i * 27) (leafAtI mv p).cells).heap.size (V6.setCells g (i * 27) (leafAtI mv p).cells) w' := by
                have hS2 : (leafAtI mv p).S = p.S := by unfold leafAtI; split; rfl; split <;> rfl
                have hK2 : (leafAtI mv p).k = p.k := by unfold leafAtI; split; rfl; split <;> rfl
                have h3 := leafOk_any (leafAtI mv p) (V6.setCells g (i * 27) (leafAtI mv p).cells) (by rw [hK2]; exact H02.out)
                have e : ((0 ≤ (leafAtI mv p).S ∧ (leafAtI mv p).S ≤ 7) ∧ LeafP (leafAtI mv p)) = LeafP (leafAt mv p) := propext ⟨fun k => (leafAtI_ok mv p).1 k.2, fun k => ⟨by rw [hS2]; exact HSt.out, (leafAtI_ok mv p).2 k⟩⟩
                rw [e] at h3
                exact h3
              generalize V6.setCells g (i * 27) (leafAtI mv p).cells = V7 at NS7 hRB7 LR CP hM7 hlo ⊢
              clear ST
              by_cases hleaf : LeafP (leafAt mv p)
              · rw [dec_yes hleaf] at hlo
                have HLO := Lib.hid hlo
                have HL2 := Lib.hid hleaf
                clear hlo hleaf
                gi_wp2_with (refine ⟨trivial, ?_⟩; gi_at_call 165; refine (CallsIn.inRound lo (callsIn_wide.2 HLO.out)).mono ?_; rintro e V8 ⟨rfl, hbq⟩)
                have hRB8 := hRB7.call (Nat.le_refl _) hWn (by omega) hbq
                have hs8 := hbq.size
                refine ⟨hRB8.kf, ⟨hRB8.bw, hRB8.bs⟩, ⟨AllP_snoc HA.out ?_, ?_, by omega⟩, hRB8.lo⟩
                · rw [HSS.out]
                  simp only [PassJ, HPP.out]
                  exact ⟨(HMV.out.1 HOK.out).1, (HMV.out.1 HOK.out).2.1, fun _ => by rw [← HmJ.out]; exact HL2.out⟩
                · rw [HSN.out, if_pos H02.out.2, ← HmJ.out, ← leafAtI_eq mv p H02.out.2 H02.out.1 HL2.out]
                  exact NS7.below hbq
              · rw [dec_no hleaf] at hlo
                have HLO := Lib.hid hlo
                have HL2 := Lib.hid hleaf
                clear hlo hleaf
                gi_upto_region 22 with (refine ⟨trivial, ?_⟩; gi_at_call 165; refine (CallsIn.inRound lo (callsIn_wide.2 HLO.out)).mono ?_; rintro e V8 ⟨rfl, hbq⟩)
                have hRB8 := hRB7.call (Nat.le_refl _) hWn (by omega) hbq
                have hSV3 := NS7.below hbq
                have hs8 := hbq.size
                clear NS7 hRB7 LR CP hbq
                have C0 := Jc hSV3.r0
                have C1 := Jc hSV3.r1
                have F0 := Jf hSV3.r0
                have F1 := Jf hSV3.r1
                have HSV := Lib.hid hSV3
                clear hSV3
                gi_wp2
                have hr2 := (hRB8.cell (Nat.le_refl _) hWn (by omega) HSV.out.r0 (Nat.le_refl _) (by omega) 0 (.slice none 0 0)).cell (Nat.le_refl _) hWn (by simp; omega) (HSV.out.r1.other (by omega) 0 _) (by omega) (by omega) 0 (.bool false)
                exact ⟨hr2.kf, ⟨rfl, ⟨pre, ⟨i, hi⟩, rfl, fun k => HL2.out (by rw [HSS.out] at k; simp only [PassJ, HPP.out] at k; rw [HmJ.out]; exact k.2.2 H02.out.2)⟩, Has.other (by omega) (Has.as (HSV.out.r0.same 0 _) rfl) _ _, Has.as ((Has.other (by omega) HSV.out.r1 _ _).same 0 _) rfl⟩, hr2.lo⟩
            · have hk36 := HPT.out.1.2
              gi_wp2_with (refine ⟨trivial, ?_⟩; gi_at_call 120; refine (CallsIn.inRound lo (callsIn_wide.2 (isMade_yes p _ (by omega) hk36))).mono ?_; rintro e V5 ⟨rfl, hbq⟩)
              have hRB5 := hRBi.call (Nat.le_refl _) hWn (by omega) hbq
              have hs5 := hbq.size
              refine ⟨hRB5.kf, ⟨hRB5.bw, hRB5.bs⟩, ⟨AllP_snoc HA.out ?_, ?_, by omega⟩, hRB5.lo⟩
              · rw [HSS.out]
                simp only [PassJ, HPP.out]
                exact ⟨(HMV.out.1 HOK.out).1, (HMV.out.1 HOK.out).2.1, fun k => by omega⟩
              · rw [HSN.out, if_neg (by omega)]
                exact hSI.below hbq
      · have hcm : ∀ w, Calls Tryz.prog 112 #[mv.val] w fun e w' => e = .returned (.bool false) ∧ Below w.heap.size w w' := fun w => by have := imotOk_any mv w; rwa [dec_no hok] at this
        have HCM := Lib.hid hcm
        have HOK := Lib.hid hok
        clear hcm hok
        gi_upto_region 13 with (refine ⟨trivial, ?_⟩; gi_at_call 112; refine (CallsIn.inRound lo (callsIn_wide.2 (HCM.out _))).mono ?_; rintro e V2 ⟨rfl, hbq⟩)
        have hRB3 := hRB.call (Nat.le_refl _) hWn (by omega) hbq
        have hSV3 := hSV.below hbq
        have hVM3 := (bM.below hbq).lt
        clear hRB hSV bX bM PX LM hbq hVn hVM V
        have C0 := Jc hSV3.r0
        have C1 := Jc hSV3.r1
        have F0 := Jf hSV3.r0
        have F1 := Jf hSV3.r1
        have HSV := Lib.hid hSV3
        clear hSV3
        gi_wp2
        have hr2 := (hRB3.cell (Nat.le_refl _) hWn (by omega) HSV.out.r0 (Nat.le_refl _) (by omega) 0 (.slice none 0 0)).cell (Nat.le_refl _) hWn (by simp; omega) (HSV.out.r1.other (by omega) 0 _) (by omega) (by omega) 0 (.bool false)
        exact ⟨hr2.kf, ⟨rfl, ⟨pre, ⟨i, hi⟩, rfl, fun k => HMV.out.2 HOK.out (by rw [HSS.out] at k; simp only [PassJ, HPP.out] at k; exact ⟨k.1, k.2.1⟩)⟩, Has.other (by omega) (Has.as (HSV.out.r0.same 0 _) rfl) _ _, Has.as ((Has.other (by omega) HSV.out.r1 _ _).same 0 _) rfl⟩, hr2.lo⟩
  case done =>
    rintro D ys W hD rfl ⟨⟨hA, hS, hC⟩, hB⟩ hK
    have hSo := solid_of_all HF.out h1 hA
    have hP := hS.hP
    have C0 := Jc hS.r0
    have C1 := Jc hS.r1
    have CP := Jc hS.hP
    have F0 := Jf hS.r0
    have F1 := Jf hS.r1
    have HSo := Lib.hid hSo
    have HS := Lib.hid hS
    clear hSo hS
    go_wp2
    have hK1 := (KeepsOthers.setCell W ⟨w.heap.size, 0, none⟩ (.slice (some ⟨g, 0, none⟩) l.length cR)).same D _ hK rfl
    have hK2 := (KeepsOthers.setCell _ ⟨w.heap.size + 1, 0, none⟩ (.bool true)).same D _ hK1 rfl
    refine ⟨by simp, .inl ⟨_, _, rfl, run_takeDeferred hK2, ?_⟩⟩
    have hw2 := deferredAt hK2
    have E0 : Has ((W.setCell ⟨w.heap.size, 0, none⟩ (.slice (some ⟨g, 0, none⟩) l.length cR)).setCell ⟨w.heap.size + 1, 0, none⟩ (.bool true)) w.heap.size #[.slice (some ⟨g, 0, none⟩) l.length cR] 59 := Has.other (by omega) (Has.as (HS.out.r0.same 0 _) rfl) _ _
    have E1 : Has ((W.setCell ⟨w.heap.size, 0, none⟩ (.slice (some ⟨g, 0, none⟩) l.length cR)).setCell ⟨w.heap.size + 1, 0, none⟩ (.bool true)) (w.heap.size + 1) #[.bool true] 4 := Has.as ((Has.other (by omega) HS.out.r1 _ _).same 0 _) rfl
    have ER : PRow ((W.setCell ⟨w.heap.size, 0, none⟩ (.slice (some ⟨g, 0, none⟩) l.length cR)).setCell ⟨w.heap.size + 1, 0, none⟩ (.bool true)) (w.heap.size + 2) (.slice (some ⟨g, 0, none⟩) l.length cR) (Sf l (upto (bk l h1) l.length)).2 :=
      RowK.set (RowK.set HS.out.row (fun h => absurd (show w.heap.size = g from Option.some.inj h) (by omega))) (fun h => absurd (show w.heap.size + 1 = g from Option.some.inj h) (by omega))
    have hgp := grownBy_putObj' ((W.setCell ⟨w.heap.size, 0, none⟩ (.slice (some ⟨g, 0, none⟩) l.length cR)).setCell ⟨w.heap.size + 1, 0, none⟩ (.bool true)) D (.deferred none)
    have G0 := Jc (hasOwn E0 hgp hw2)
    have G1 := Jc (hasOwn E1 hgp hw2)
    have GR := prowOwn ER hgp hw2
    rw [Sf_R HF.out h1 l.length (Nat.le_refl _), stL_all] at GR
    refine ⟨.tuple #[.slice (some ⟨g, 0, none⟩) l.length cR, .bool true], ?_, .inl ⟨HSo.out, _, rfl, GR.mono (by omega)⟩, ((hB.setCell (p := ⟨w.heap.size, 0, none⟩) (Nat.le_refl _) _).setCell (p := ⟨w.heap.size + 1, 0, none⟩) (by show w.heap.size ≤ w.heap.size + 1; omega) _).trans (belowK_b (w := wl) (by omega) _ D _ _ (by omega) hK2 rfl rfl)⟩
    simp [results, Tryz.results95, go_sem, G0, G1]
  case stop =>
    rintro D c2 pre W hD ⟨k, hk, rfl⟩ ⟨⟨rfl, ⟨ini, x, he, hx⟩, R0, R1⟩, hB⟩ hK
    have hno := not_solid HF.out h1 hk he hx
    gi_wp2
    refine ⟨by simp, .inl ⟨_, _, rfl, run_takeDeferred hK, ?_⟩⟩
    have hw2 := deferredAt hK
    have hgp := grownBy_putObj' W D (.deferred none)
    have G0 := Jc (hasOwn R0 hgp hw2)
    have G1 := Jc (hasOwn R1 hgp hw2)
    refine ⟨.tuple #[.slice none 0 0, .bool false], ?_, .inr ⟨hno, rfl⟩, hB.trans (belowK_b (w := wl) (by omega) W D _ _ (by omega) hK rfl rfl)⟩
    simp [results, Tryz.results95, go_sem, G0, G1]
theorem standing_any (l : List Pt) (v : Value) (w : World) (hl : PIn w v l) (hn : l.length ≤ 1048576) : Calls Tryz.prog 95 #[v] w (StdPost l w) := by
  by_cases hF : Form l
  · have h2 := hl
    obtain ⟨A, c, rfl, hf⟩ := hl
    obtain ⟨b, off, rfl, hr⟩ := hf hF.1.1
    exact standing_in l b off c w h2 hr hF
  · exact standing_no l v w hl hn hF
end Go.Proofs.YtegibpepdndocabGreat
