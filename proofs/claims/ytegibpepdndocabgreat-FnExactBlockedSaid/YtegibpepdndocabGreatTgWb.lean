import Derived.LoopN
import Derived.Test.YtegibpepdndocabGreatClnb
section
namespace Go.Proofs.YtegibpepdndocabGreat
open Go.ChangeShapes Go.WideShapes Go.ChangeAt Go.RowKit
set_option linter.unusedSimpArgs false
set_option linter.unusedVariables false

/- several cells of a block that is known whole are stored -/
def setL (cs : Array Value) (o : Nat) : List Value → Array Value
  | [] => cs
  | v :: r => setL (cs.setIfInBounds o v) (o + 1) r
theorem setL_get : ∀ (vs : List Value) (cs : Array Value) (o i : Nat), o + vs.length ≤ cs.size → (setL cs o vs)[i]? = if o ≤ i ∧ i < o + vs.length then vs[i - o]? else cs[i]?
  | [], cs, o, i, _ => by rw [setL, if_neg (by simp)]
  | v :: r, cs, o, i, h => by
    simp only [List.length_cons] at h
    rw [setL, setL_get r _ _ _ (by simp; omega)]
    by_cases h1 : o + 1 ≤ i ∧ i < o + 1 + r.length
    · rw [if_pos h1, if_pos (by simp; omega), show i - o = (i - (o + 1)) + 1 by omega, List.getElem?_cons_succ]
    · rw [if_neg h1]
      by_cases h2 : i = o
      · subst h2
        rw [if_pos (by simp), Nat.sub_self, List.getElem?_cons_zero, Array.getElem?_setIfInBounds_self_of_lt (by omega)]
      · rw [if_neg (by simp; omega), Array.getElem?_setIfInBounds_ne (by omega)]
theorem Has.setCells {b : Nat} {T : TypeId} : ∀ (vs : List Value) (o : Nat) (w : World) (cs : Array Value), Has w b cs T → Has (w.setCells b o vs) b (setL cs o vs) T
  | [], _, _, _, h => h
  | v :: r, o, w, cs, h => by rw [World.setCells, setL]; exact Has.setCells r (o + 1) _ _ (h.same o v)
theorem Has.setCellsO {b g : Nat} {T : TypeId} {cs : Array Value} (hne : b ≠ g) : ∀ (vs : List Value) (o : Nat) (w : World), Has w b cs T → Has (w.setCells g o vs) b cs T
  | [], _, _, h => h
  | v :: r, o, w, h => by rw [World.setCells]; exact Has.setCellsO hne r (o + 1) _ (Has.other hne h o v)
theorem lowCells {a : World} {g : Nat} (hg : a.heap.size ≤ g) : ∀ (vs : List Value) (o : Nat) (w : World), Below a.heap.size a w → Below a.heap.size a (w.setCells g o vs)
  | [], _, _, h => h
  | v :: r, o, w, h => by rw [World.setCells]; exact lowCells hg r (o + 1) _ (lowSet (p := ⟨g, o, none⟩) h hg v)
theorem heapCells {g k : Nat} (hne : k ≠ g) : ∀ (vs : List Value) (o : Nat) (w : World), (w.setCells g o vs).heap[k]? = w.heap[k]?
  | [], _, _ => rfl
  | v :: r, o, w => by rw [World.setCells, heapCells hne r (o + 1)]; exact Below.heap_setCell w ⟨g, o, none⟩ v k (fun e => hne e)
theorem sizeCells (g : Nat) : ∀ (vs : List Value) (o : Nat) (w : World), (w.setCells g o vs).heap.size = w.heap.size
  | [], _, _ => rfl
  | v :: r, o, w => by rw [World.setCells, sizeCells g r (o + 1)]; simp
theorem setCells_os (g : Nat) : ∀ (vs : List Value) (o : Nat) (w : World), (w.setCells g o vs).os = w.os
  | [], _, _ => rfl
  | v :: r, o, w => by rw [World.setCells, setCells_os g r (o + 1)]; rfl
theorem setCells_tape (g : Nat) : ∀ (vs : List Value) (o : Nat) (w : World), (w.setCells g o vs).tape = w.tape
  | [], _, _ => rfl
  | v :: r, o, w => by rw [World.setCells, setCells_tape g r (o + 1)]; rfl
theorem setCells_output (g : Nat) : ∀ (vs : List Value) (o : Nat) (w : World), (w.setCells g o vs).output = w.output
  | [], _, _ => rfl
  | v :: r, o, w => by rw [World.setCells, setCells_output g r (o + 1)]; rfl
theorem grownCells (w : World) (g o : Nat) (vs : List Value) : w.grownBy (w.setCells g o vs) (some g) :=
  ⟨setCells_os g vs o w, setCells_tape g vs o w, setCells_output g vs o w, by rw [sizeCells]; exact Nat.le_refl _, fun k _ hne => heapCells (fun e => hne (by rw [e])) _ _ _⟩
theorem setAll_cells (g off : Nat) : ∀ (vs : List Value) (c : Nat) (w : World), setAll w g off c vs = w.setCells g (off + c) vs
  | [], _, _ => rfl
  | v :: r, c, w => by rw [setAll, World.setCells, setAll_cells g off r (c + 1)]; rfl
/- the cells of motions -/
def Mo.cells (m : Mo) : List Value := [.int .i64 m.a, .int .i64 m.b, .int .i64 m.c, .bool m.k, .bool m.l, .bool m.n, .int .i64 m.p, .int .i64 m.q, .int .i64 m.r]
theorem Mo.one (m : Mo) : ∀ v ∈ m.cells, v.oneCell' = true := by
  intro v hv
  simp only [Mo.cells, List.mem_cons, List.not_mem_nil, or_false] at hv
  rcases hv with h | h | h | h | h | h | h | h | h <;> (rw [h]; rfl)
theorem moSize : (Tryz.prog.info? 47).map (·.size) = some 9 := by kernel_rfl
def cellsM (n : Nat) (J : Nat → Mo) : Array Value := ((List.range n).map fun i => (J i).cells).flatten.toArray
theorem mcells_len {n : Nat} {J : Nat → Mo} : ∀ x ∈ (List.range n).map fun i => (J i).cells, x.length = 9 := fun x hx => by obtain ⟨s, _, rfl⟩ := List.mem_map.1 hx; rfl
theorem cellsM_size (n : Nat) (J : Nat → Mo) : (cellsM n J).size = n * 9 := by
  unfold cellsM
  rw [List.size_toArray, flat_len mcells_len, List.length_map, List.length_range]
theorem cellsM_get (n : Nat) (J : Nat → Mo) (i c : Nat) (hi : i < n) (hc : c < 9) : (cellsM n J)[i * 9 + c]? = (J i).cells[c]? := by
  unfold cellsM
  have := flat_get (L := (List.range n).map fun i => (J i).cells) mcells_len i c (by simpa using hi) hc
  rw [List.getElem?_toArray, this]
  simp
theorem cellsM_out (n : Nat) (J : Nat → Mo) (i : Nat) (hi : n * 9 ≤ i) : (cellsM n J)[i]? = none := by
  rw [Array.getElem?_eq_none_iff, cellsM_size]; exact hi
theorem cellsM_set (n : Nat) (J : Nat → Mo) (kn : Nat) (k : Int) (m : Mo) (hk : (kn : Int) = k) (hn : kn < n) : setL (cellsM n J) (kn * 9) m.cells = cellsM n (updM J k m) := by
  subst hk
  have hb : kn * 9 + m.cells.length ≤ (cellsM n J).size := by
    have : (kn + 1) * 9 ≤ n * 9 := Nat.mul_le_mul_right _ hn
    rw [cellsM_size]; show kn * 9 + 9 ≤ _; omega
  apply Array.ext_getElem?
  intro i
  rw [setL_get _ _ _ _ hb]
  have e : i / 9 * 9 + i % 9 = i := Nat.div_add_mod' i 9
  have hm := Nat.mod_lt i (show 0 < 9 by omega)
  by_cases hi : i / 9 < n
  · have g1 := cellsM_get n J (i / 9) (i % 9) hi hm
    have g2 := cellsM_get n (updM J kn m) (i / 9) (i % 9) hi hm
    rw [e] at g1 g2
    rw [g2]
    by_cases h : kn * 9 ≤ i ∧ i < kn * 9 + m.cells.length
    · rw [if_pos h]
      have h9 : i < kn * 9 + 9 := h.2
      have e1 : i / 9 = kn := by omega
      have e2 : i - kn * 9 = i % 9 := by omega
      rw [e1, e2]
      simp [updM]
    · rw [if_neg h, g1]
      have h9 : ¬ (kn * 9 ≤ i ∧ i < kn * 9 + 9) := h
      have e1 : i / 9 ≠ kn := by omega
      rw [updM, if_neg (by omega)]
  · have hi9 : n * 9 ≤ i := by
      have := (Nat.le_div_iff_mul_le (show 0 < 9 by omega)).1 (Nat.le_of_not_lt hi); omega
    rw [cellsM_out n _ i hi9, if_neg, cellsM_out n _ i hi9]
    have : (kn + 1) * 9 ≤ n * 9 := Nat.mul_le_mul_right _ hn
    show ¬ (kn * 9 ≤ i ∧ i < kn * 9 + 9)
    omega
/- a motion is read out of a block of motions, and stored into it -/
theorem moAt {w : World} {b n : Nat} {J : Nat → Mo} {T : TypeId} (h : Has w b (cellsM n J) T) (i : Nat) (hi : i < n) : w.rangeAt b (i * 9) (J i).cells := fun j v hj => by
  rw [Has.cell h, cellsM_get n J i j hi (by have : j < (J i).cells.length := (List.getElem?_eq_some_iff.1 hj).1; exact this)]
  exact hj
theorem moLoadAt {w : World} {b n : Nat} {J : Nat → Mo} {T : TypeId} (h : Has w b (cellsM n J) T) (i : Nat) (hi : i < n) : (loadVar 47 ⟨b, i * 9, none⟩).run Tryz.prog w = .ok (J i).val w :=
  run_loadVar_mid w b (i * 9) _ (J i).cells _ (moAt h i hi) Tryz.underlying47 rfl moSize
theorem moStoreAt {w : World} {b n : Nat} {J : Nat → Mo} {T : TypeId} (h : Has w b (cellsM n J) T) (i : Nat) (hi : i < n) (m : Mo) : (storeVar 47 ⟨b, i * 9, none⟩ m.val).run Tryz.prog w = .ok () (w.setCells b (i * 9) m.cells) :=
  run_storeVar_mid (P := Tryz.prog) w b (i * 9) _ m.cells.toArray (fun j hj => ⟨by
    have hj9 : j < 9 := hj
    rw [Has.cell h, cellsM_get n J i j hi hj9]
    have : j < (J i).cells.length := hj9
    rw [List.getElem?_eq_getElem this]; rfl, Has.frozen h _⟩) moSize (all_oneCell_toArray m.one)
/- a block that holds one motion -/
theorem moLoad (m : Mo) {w : World} {b : Nat} {T : TypeId} (h : Has w b m.cells.toArray T) : (loadVar 47 ⟨b, 0, none⟩).run Tryz.prog w = .ok m.val w :=
  run_loadVar_mid w b 0 _ m.cells _ (fun j v hj => by rw [Nat.zero_add, Has.cell h, ← hj]; simp) Tryz.underlying47 rfl moSize
theorem moStore (m : Mo) {w : World} {b : Nat} {cs : Array Value} {T : TypeId} (h : Has w b cs T) (hs : cs.size = 9) : (storeVar 47 ⟨b, 0, none⟩ m.val).run Tryz.prog w = .ok () (w.setRow b m.cells.toArray) :=
  run_storeVar_row w b T _ cs m.cells.toArray h moSize hs (all_oneCell_toArray m.one)
theorem moStoreNew (m : Mo) (cs : Array Value) (w : World) (hs : cs.size = 9) : (storeVar 47 ⟨w.heap.size, 0, none⟩ m.val).run Tryz.prog (w.alloc (.cells cs 47)) = .ok () (w.alloc (.cells m.cells.toArray 47)) := by
  have := run_storeAt_new (P := Tryz.prog) w 47 cs m.cells.toArray moSize hs (all_oneCell_toArray m.one)
  show (storeVar 47 ⟨w.heap.size, 0, none⟩ (.agg m.cells.toArray)).run Tryz.prog (w.alloc (.cells cs 47)) = _
  simpa only [Instr.storeAt, Instr.sureAddr, Sem.run_bind, Sem.run_pure, Result.andThen] using this
theorem ptMove {p : Pt} {w : World} {b : Nat} {T : TypeId} (h : Has w b p.arr T) : (loadVar 47 ⟨b, 15, none⟩).run Tryz.prog w = .ok p.m.val w :=
  run_loadVar_mid w b 15 _ p.m.cells _ (fun j v hj => by
    have hj9 : j < 9 := (List.getElem?_eq_some_iff.1 hj).1
    rw [Has.cell h, ← hj]
    obtain rfl | rfl | rfl | rfl | rfl | rfl | rfl | rfl | rfl : j = 0 ∨ j = 1 ∨ j = 2 ∨ j = 3 ∨ j = 4 ∨ j = 5 ∨ j = 6 ∨ j = 7 ∨ j = 8 := by omega
    all_goals rfl) Tryz.underlying47 rfl moSize
/- a part is stored into a row of parts -/
theorem PRow.storeAt {w : World} {B g n c : Nat} {l : List Pt} (h : PRow w B (.slice (some ⟨g, 0, none⟩) n c) l) (hn : n = l.length) (i : Nat) (hi : i < l.length) (p : Pt) :
    (storeVar 49 ⟨g, i * 27, none⟩ p.val).run Tryz.prog w = .ok () (w.setCells g (i * 27) p.cells) ∧
    PRow (w.setCells g (i * 27) p.cells) B (.slice (some ⟨g, 0, none⟩) n c) (l.set i p) ∧ w.grownBy (w.setCells g (i * 27) p.cells) (some g) := by
  have hlen : n = (l.map Pt.cells).length := by simpa using hn
  refine ⟨?_, ?_⟩
  · exact run_storeVar_mid (P := Tryz.prog) w g (i * 27) _ p.arr (fun j hj => ⟨by
      have hj27 : j < 27 := hj
      rw [RowK.cell h hlen i j (by simpa using hi) hj27]
      have : j < ((l.map Pt.cells)[i]'(by simpa using hi)).length := by simp [Pt.cells_len]; exact hj27
      rw [List.getElem?_eq_getElem this]; rfl, RowK.frozen h hlen _⟩) ptSize (all_oneCell_toArray p.one)
  · have hs := RowK.storeAll p.cells 0 w (l.map Pt.cells) i _ h hlen (by simpa using hi) rfl (by rw [Pt.cells_len])
    rw [setAll_cells, Nat.add_zero, List.take_zero, List.nil_append] at hs
    have e : (l.map Pt.cells).set i p.cells = (l.set i p).map Pt.cells := by rw [List.map_set]
    rw [e] at hs
    exact hs
theorem PRow.load {w : World} {B g n c : Nat} {l : List Pt} (h : PRow w B (.slice (some ⟨g, 0, none⟩) n c) l) (hn : n = l.length) (i : Nat) (hi : i < l.length) :
    (Go.loadVar 49 ⟨g, i * 27, none⟩).run Tryz.prog w = .ok l[i].val w :=
  run_loadVar_mid w g (i * 27) _ l[i].cells _ (fun j v hj => by
    have hj27 : j < 27 := (List.getElem?_eq_some_iff.1 hj).1
    rw [RowK.cell h (by simpa using hn) i j (by simpa using hi) hj27]; simpa using hj) Tryz.underlying49 rfl ptSize
theorem PRow.seen {w : World} {B : Nat} {v : Value} {l : List Pt} (h : PRow w B v l) : PIn w v l := by
  obtain ⟨A, c, rfl, hA, _⟩ := h.shape
  rw [List.length_map] at hA h ⊢
  refine ⟨A, c, rfl, fun h0 => ?_⟩
  obtain ⟨g, rfl, _⟩ := hA h0
  refine ⟨g, 0, rfl, fun i hi j v hj => ?_⟩
  have hj27 : j < 27 := (List.getElem?_eq_some_iff.1 hj).1
  rw [Nat.zero_add, RowK.cell h (by simp) i j (by simpa using hi) hj27]; simpa using hj
end Go.Proofs.YtegibpepdndocabGreat
end
section
namespace Go.Proofs.YtegibpepdndocabGreat
open Has renaming new → J0, new1 → J1, new2 → J2, new3 → J3, new4 → J4, drew → J5, drewN → J6, alloc → J7, same → J8, other → J9, cell → Jc, frozen → Jf, below → Jb
open Go.ChangeShapes Go.WideShapes Go.ChangeAt Go.RowKit
set_option linter.unusedSimpArgs false
set_option linter.unusedVariables false
set_option maxHeartbeats 4000000

attribute [local go_sem] ix0 ix1 ix2 VGo_value VGo_skip VGo_enter
/- as in MotM and MotX, but for motions that move beyond the limit of motions -/
theorem l3MovedW (a b c : Int) (k l n : Bool) (p q r x y z X Y Z : Int) (w : World) (h : Perm a b c ∧ Vok p q r 100000) (hv : Vok x y z 1048576) (ht : TuE a b c k l n x y z X Y Z) :
    Calls Tryz.prog 209 #[.agg #[.int .i64 (a), .int .i64 (b), .int .i64 (c), .bool (k), .bool (l), .bool (n), .int .i64 (p), .int .i64 (q), .int .i64 (r)], .agg #[.int .i64 (x), .int .i64 (y), .int .i64 (z)]] w fun e w' => e = .returned (.agg #[.int .i64 (X + p), .int .i64 (Y + q), .int .i64 (Z + r)]) ∧ Below w.heap.size w w' := by
  have HP := Lib.hid h.1
  have HV := Lib.hid hv
  have HT := Lib.hid ht
  have V1 : Hid (Vok X Y Z 1152921504606846976) := Lib.hid (by have := tuE_vok ht hv; unfold Vok at *; omega)
  have V2 : Hid (Vok p q r 1152921504606846976) := Lib.hid (by have := h.2; unfold Vok at *; omega)
  clear h hv ht
  go_enter Tryz.func209, Tryz.ntmps209
  go_upto_region 1 with fail
  (refine wp_region_held1 6 (by kernel_rfl) (by kernel_rfl) rfl (fun _ _ _ d _ h => by cases d <;> exact h) ?_; intro Fq hFq; simp only [List.take_succ_cons, List.take_zero])
  repeat (first | (refine wpHeld_run ?_ rfl ?_ ?_; rotate_left; (focus (intro w' hbq Kq hKq; ((try (have B0 := Jb (b := w.heap.size) (by repeat' (first|with_reducible (first|assumption|apply J0|apply J1|apply J2|apply J3|apply J4|apply J5|apply J6|apply J7|apply J8|apply J9)|(with_reducible show _ ≠ _;first|omega|(simp;done)))) hbq; have C0 := Jc B0; have F0 := Jf B0)); (try (have B1 := Jb (b := w.heap.size + 1) (by repeat' (first|with_reducible (first|assumption|apply J0|apply J1|apply J2|apply J3|apply J4|apply J5|apply J6|apply J7|apply J8|apply J9)|(with_reducible show _ ≠ _;first|omega|(simp;done)))) hbq; have C1 := Jc B1; have F1 := Jf B1)); (try (have B2 := Jb (b := w.heap.size + 1 + 1) (by repeat' (first|with_reducible (first|assumption|apply J0|apply J1|apply J2|apply J3|apply J4|apply J5|apply J6|apply J7|apply J8|apply J9)|(with_reducible show _ ≠ _;first|omega|(simp;done)))) hbq; have C2 := Jc B2; have F2 := Jf B2))); go_simp; (try (rw [IntWalk.i64_in]; rotate_left; focus (constructor <;> omega))); first | exact hKq _ (Below.refl _ _) | first | (go_at_call 237; ((with_reducible refine (l3TurnedV _ _ _ _ _ _ _ _ _ _ _ _ _ _ _ _ HP.out HV.out HT.out).mono ?_); rintro e w2 ⟨rfl, hbr⟩; refine back ?_; exact hKq _ hbr)) | (go_at_call 155; ((with_reducible refine (l2Plus_any _ _ _ _ _ _ _ V1.out V2.out).mono ?_); rintro e w2 ⟨rfl, hbr⟩; refine back ?_; exact hKq _ hbr)))); ((try simp only [Act.put, List.setIfInBounds_toArray, List.set_cons_zero, List.set_cons_succ]))) | (refine wpHeld_skip (by rfl) ?_; ((try simp only [Act.put, List.setIfInBounds_toArray, List.set_cons_zero, List.set_cons_succ]))))
  (refine wpHeld_nil (hFq _ ?_); clear hFq; intro w' hbq; ((try (have B0 := Jb (b := w.heap.size) (by repeat' (first|with_reducible (first|assumption|apply J0|apply J1|apply J2|apply J3|apply J4|apply J5|apply J6|apply J7|apply J8|apply J9)|(with_reducible show _ ≠ _;first|omega|(simp;done)))) hbq; have C0 := Jc B0; have F0 := Jf B0)); (try (have B1 := Jb (b := w.heap.size + 1) (by repeat' (first|with_reducible (first|assumption|apply J0|apply J1|apply J2|apply J3|apply J4|apply J5|apply J6|apply J7|apply J8|apply J9)|(with_reducible show _ ≠ _;first|omega|(simp;done)))) hbq; have C1 := Jc B1; have F1 := Jf B1)); (try (have B2 := Jb (b := w.heap.size + 1 + 1) (by repeat' (first|with_reducible (first|assumption|apply J0|apply J1|apply J2|apply J3|apply J4|apply J5|apply J6|apply J7|apply J8|apply J9)|(with_reducible show _ ≠ _;first|omega|(simp;done)))) hbq; have C2 := Jc B2; have F2 := Jf B2))))
  go_wp2
  refine bodyPost_ret (v := .agg #[.int .i64 (X + p), .int .i64 (Y + q), .int .i64 (Z + r)]) (by simp [results, Tryz.results209, go_sem, *]) rfl ⟨vec_eq (by first | rfl | omega) (by first | rfl | omega) (by first | rfl | omega), ?_⟩; (repeat' (first|with_reducible (first|exact lowRefl _|apply lowSet|apply lowDrew|apply lowDrewN|apply lowAlloc)|(with_reducible refine lowCall ?_ (by assumption))|(show (_ : Nat) ≤ _;first|(simp;done)|(simp;omega)|omega)))
theorem l3TogetherW (a b c : Int) (k l n : Bool) (p q r : Int) (d e1 f : Int) (g h i : Bool) (s t u : Int) (A B C : Int) (K L N : Bool) (X Y Z : Int) (w : World)
    (ha : Mok a b c p q r) (hb : Perm d e1 f ∧ Vok s t u 100000) (ht : TuE d e1 f g h i p q r X Y Z) (hg : TogE a b c k l n d e1 f g h i A B C K L N) :
    Calls Tryz.prog 169 #[.agg #[.int .i64 (a), .int .i64 (b), .int .i64 (c), .bool (k), .bool (l), .bool (n), .int .i64 (p), .int .i64 (q), .int .i64 (r)], .agg #[.int .i64 (d), .int .i64 (e1), .int .i64 (f), .bool (g), .bool (h), .bool (i), .int .i64 (s), .int .i64 (t), .int .i64 (u)]] w fun e w' => e = .returned (.agg #[.int .i64 (A), .int .i64 (B), .int .i64 (C), .bool (K), .bool (L), .bool (N), .int .i64 (X + s), .int .i64 (Y + t), .int .i64 (Z + u)]) ∧ Below w.heap.size w w' := by
  have HB := Lib.hid hb
  have HT := Lib.hid ht
  have HV : Hid (Vok p q r 1048576) := Lib.hid (by have := ha.2; unfold Vok at *; omega)
  have HP := Lib.hid (perm_in hb.1)
  have HG := Lib.hid hg
  clear ha hb ht hg
  go_enter Tryz.func169, Tryz.ntmps169
  go_wp2
  go_loopw [6] (fun i2 wr => ∃ j : Nat, j ≤ 3 ∧ i2 = .int .i64 j ∧ Has wr w.heap.size #[.int .i64 (a), .int .i64 (b), .int .i64 (c), .bool (k), .bool (l), .bool (n), .int .i64 (p), .int .i64 (q), .int .i64 (r)] 47 ∧ Has wr (w.heap.size + 1) #[.int .i64 (d), .int .i64 (e1), .int .i64 (f), .bool (g), .bool (h), .bool (i), .int .i64 (s), .int .i64 (t), .int .i64 (u)] 47 ∧ Has wr (w.heap.size + 1 + 1) #[.int .i64 (0), .int .i64 (0), .int .i64 (0), .bool (false), .bool (false), .bool (false), .int .i64 (0), .int .i64 (0), .int .i64 (0)] 47 ∧ Has wr (w.heap.size + 1 + 1 + 1) (tgc A B C K L N 0 0 0 j) 47 ∧ Below w.heap.size w wr) (fun i2 _ => 3 - (intOf i2).toNat)
  case atStart => exact ⟨0, by omega, rfl, by (refine Has.as (by repeat' (first|with_reducible (first|assumption|apply J0|apply J1|apply J2|apply J3|apply J4|apply J5|apply J6|apply J7|apply J8|apply J9)|(with_reducible show _ ≠ _;first|omega|(simp;done)))) ?_; first | (with_reducible rfl) | (simp only [List.setIfInBounds_toArray, List.set_cons_zero, List.set_cons_succ]; first | done | rfl) | rfl | (simp; done)), by (refine Has.as (by repeat' (first|with_reducible (first|assumption|apply J0|apply J1|apply J2|apply J3|apply J4|apply J5|apply J6|apply J7|apply J8|apply J9)|(with_reducible show _ ≠ _;first|omega|(simp;done)))) ?_; first | (with_reducible rfl) | (simp only [List.setIfInBounds_toArray, List.set_cons_zero, List.set_cons_succ]; first | done | rfl) | rfl | (simp; done)), by (refine Has.as (by repeat' (first|with_reducible (first|assumption|apply J0|apply J1|apply J2|apply J3|apply J4|apply J5|apply J6|apply J7|apply J8|apply J9)|(with_reducible show _ ≠ _;first|omega|(simp;done)))) ?_; first | (with_reducible rfl) | (simp only [List.setIfInBounds_toArray, List.set_cons_zero, List.set_cons_succ]; first | done | rfl) | rfl | (simp; done)), by (refine Has.as (by repeat' (first|with_reducible (first|assumption|apply J0|apply J1|apply J2|apply J3|apply J4|apply J5|apply J6|apply J7|apply J8|apply J9)|(with_reducible show _ ≠ _;first|omega|(simp;done)))) ?_; first | (with_reducible rfl) | (simp only [List.setIfInBounds_toArray, List.set_cons_zero, List.set_cons_succ]; first | done | rfl) | rfl | (simp; done)), by repeat' (first|with_reducible (first|exact lowRefl _|apply lowSet|apply lowDrew|apply lowDrewN|apply lowAlloc)|(with_reducible refine lowCall ?_ (by assumption))|(show (_ : Nat) ≤ _;first|(simp;done)|(simp;omega)|omega))⟩
  case round =>
    obtain ⟨j, hj, rfl, h0, h1, h2, hx, hb⟩ := hrel
    have c0 := Jc h0
    have f0 := Jf h0
    have c1 := Jc h1
    have f1 := Jf h1
    have c2 := Jc h2
    have f2 := Jf h2
    have fx := Jf hx
    obtain rfl | rfl | rfl | rfl : j = 0 ∨ j = 1 ∨ j = 2 ∨ j = 3 := by omega
    · obtain ⟨rfl | rfl | rfl, _, _⟩ := HP.out <;> simp only [tgc] at hx <;> have cx := Jc hx
      all_goals
        go_wp2
        go_region
        go_wp2
        go_roundw
        case rel => exact ⟨1, by omega, rfl, by (refine Has.as (by repeat' (first|with_reducible (first|assumption|apply J0|apply J1|apply J2|apply J3|apply J4|apply J5|apply J6|apply J7|apply J8|apply J9)|(with_reducible show _ ≠ _;first|omega|(simp;done)))) ?_; first | (with_reducible rfl) | (simp only [List.setIfInBounds_toArray, List.set_cons_zero, List.set_cons_succ]; first | done | rfl) | rfl | (simp; done)), by (refine Has.as (by repeat' (first|with_reducible (first|assumption|apply J0|apply J1|apply J2|apply J3|apply J4|apply J5|apply J6|apply J7|apply J8|apply J9)|(with_reducible show _ ≠ _;first|omega|(simp;done)))) ?_; first | (with_reducible rfl) | (simp only [List.setIfInBounds_toArray, List.set_cons_zero, List.set_cons_succ]; first | done | rfl) | rfl | (simp; done)), by (refine Has.as (by repeat' (first|with_reducible (first|assumption|apply J0|apply J1|apply J2|apply J3|apply J4|apply J5|apply J6|apply J7|apply J8|apply J9)|(with_reducible show _ ≠ _;first|omega|(simp;done)))) ?_; first | (with_reducible rfl) | (simp only [List.setIfInBounds_toArray, List.set_cons_zero, List.set_cons_succ]; first | done | rfl) | rfl | (simp; done)), by (rw [← HG.out.1.1, ← HG.out.2.1]; (refine Has.as (by repeat' (first|with_reducible (first|assumption|apply J0|apply J1|apply J2|apply J3|apply J4|apply J5|apply J6|apply J7|apply J8|apply J9)|(with_reducible show _ ≠ _;first|omega|(simp;done)))) ?_; first | (with_reducible rfl) | (simp only [List.setIfInBounds_toArray, List.set_cons_zero, List.set_cons_succ]; first | done | rfl) | rfl | (simp; done))), by repeat' (first|with_reducible (first|exact lowRefl _|apply lowSet|apply lowDrew|apply lowDrewN|apply lowAlloc)|(with_reducible refine lowCall ?_ (by assumption))|(show (_ : Nat) ≤ _;first|(simp;done)|(simp;omega)|omega))⟩
        case measure => simp [intOf]
    · obtain ⟨_, rfl | rfl | rfl, _⟩ := HP.out <;> simp only [tgc] at hx <;> have cx := Jc hx
      all_goals
        go_wp2
        go_region
        go_wp2
        go_roundw
        case rel => exact ⟨2, by omega, rfl, by (refine Has.as (by repeat' (first|with_reducible (first|assumption|apply J0|apply J1|apply J2|apply J3|apply J4|apply J5|apply J6|apply J7|apply J8|apply J9)|(with_reducible show _ ≠ _;first|omega|(simp;done)))) ?_; first | (with_reducible rfl) | (simp only [List.setIfInBounds_toArray, List.set_cons_zero, List.set_cons_succ]; first | done | rfl) | rfl | (simp; done)), by (refine Has.as (by repeat' (first|with_reducible (first|assumption|apply J0|apply J1|apply J2|apply J3|apply J4|apply J5|apply J6|apply J7|apply J8|apply J9)|(with_reducible show _ ≠ _;first|omega|(simp;done)))) ?_; first | (with_reducible rfl) | (simp only [List.setIfInBounds_toArray, List.set_cons_zero, List.set_cons_succ]; first | done | rfl) | rfl | (simp; done)), by (refine Has.as (by repeat' (first|with_reducible (first|assumption|apply J0|apply J1|apply J2|apply J3|apply J4|apply J5|apply J6|apply J7|apply J8|apply J9)|(with_reducible show _ ≠ _;first|omega|(simp;done)))) ?_; first | (with_reducible rfl) | (simp only [List.setIfInBounds_toArray, List.set_cons_zero, List.set_cons_succ]; first | done | rfl) | rfl | (simp; done)), by (rw [← HG.out.1.2.1, ← HG.out.2.2.1]; (refine Has.as (by repeat' (first|with_reducible (first|assumption|apply J0|apply J1|apply J2|apply J3|apply J4|apply J5|apply J6|apply J7|apply J8|apply J9)|(with_reducible show _ ≠ _;first|omega|(simp;done)))) ?_; first | (with_reducible rfl) | (simp only [List.setIfInBounds_toArray, List.set_cons_zero, List.set_cons_succ]; first | done | rfl) | rfl | (simp; done))), by repeat' (first|with_reducible (first|exact lowRefl _|apply lowSet|apply lowDrew|apply lowDrewN|apply lowAlloc)|(with_reducible refine lowCall ?_ (by assumption))|(show (_ : Nat) ≤ _;first|(simp;done)|(simp;omega)|omega))⟩
        case measure => simp [intOf]
    · obtain ⟨_, _, rfl | rfl | rfl⟩ := HP.out <;> simp only [tgc] at hx <;> have cx := Jc hx
      all_goals
        go_wp2
        go_region
        go_wp2
        go_roundw
        case rel => exact ⟨3, by omega, rfl, by (refine Has.as (by repeat' (first|with_reducible (first|assumption|apply J0|apply J1|apply J2|apply J3|apply J4|apply J5|apply J6|apply J7|apply J8|apply J9)|(with_reducible show _ ≠ _;first|omega|(simp;done)))) ?_; first | (with_reducible rfl) | (simp only [List.setIfInBounds_toArray, List.set_cons_zero, List.set_cons_succ]; first | done | rfl) | rfl | (simp; done)), by (refine Has.as (by repeat' (first|with_reducible (first|assumption|apply J0|apply J1|apply J2|apply J3|apply J4|apply J5|apply J6|apply J7|apply J8|apply J9)|(with_reducible show _ ≠ _;first|omega|(simp;done)))) ?_; first | (with_reducible rfl) | (simp only [List.setIfInBounds_toArray, List.set_cons_zero, List.set_cons_succ]; first | done | rfl) | rfl | (simp; done)), by (refine Has.as (by repeat' (first|with_reducible (first|assumption|apply J0|apply J1|apply J2|apply J3|apply J4|apply J5|apply J6|apply J7|apply J8|apply J9)|(with_reducible show _ ≠ _;first|omega|(simp;done)))) ?_; first | (with_reducible rfl) | (simp only [List.setIfInBounds_toArray, List.set_cons_zero, List.set_cons_succ]; first | done | rfl) | rfl | (simp; done)), by (rw [← HG.out.1.2.2, ← HG.out.2.2.2]; (refine Has.as (by repeat' (first|with_reducible (first|assumption|apply J0|apply J1|apply J2|apply J3|apply J4|apply J5|apply J6|apply J7|apply J8|apply J9)|(with_reducible show _ ≠ _;first|omega|(simp;done)))) ?_; first | (with_reducible rfl) | (simp only [List.setIfInBounds_toArray, List.set_cons_zero, List.set_cons_succ]; first | done | rfl) | rfl | (simp; done))), by repeat' (first|with_reducible (first|exact lowRefl _|apply lowSet|apply lowDrew|apply lowDrewN|apply lowAlloc)|(with_reducible refine lowCall ?_ (by assumption))|(show (_ : Nat) ≤ _;first|(simp;done)|(simp;omega)|omega))⟩
        case measure => simp [intOf]
    · simp only [tgc] at hx
      have cx := Jc hx
      clear HP HG
      go_wp2_with ((go_at_call 209; ((with_reducible refine (l3MovedW _ _ _ _ _ _ _ _ _ _ _ _ _ _ _ _ HB.out HV.out HT.out).mono ?_); rintro e w' ⟨rfl, hbq⟩; (try (have B0 := Jb (b := w.heap.size) (by repeat' (first|with_reducible (first|assumption|apply J0|apply J1|apply J2|apply J3|apply J4|apply J5|apply J6|apply J7|apply J8|apply J9)|(with_reducible show _ ≠ _;first|omega|(simp;done)))) hbq; have C0 := Jc B0; have F0 := Jf B0)); (try (have B1 := Jb (b := w.heap.size + 1) (by repeat' (first|with_reducible (first|assumption|apply J0|apply J1|apply J2|apply J3|apply J4|apply J5|apply J6|apply J7|apply J8|apply J9)|(with_reducible show _ ≠ _;first|omega|(simp;done)))) hbq; have C1 := Jc B1; have F1 := Jf B1)); (try (have B2 := Jb (b := w.heap.size + 1 + 1) (by repeat' (first|with_reducible (first|assumption|apply J0|apply J1|apply J2|apply J3|apply J4|apply J5|apply J6|apply J7|apply J8|apply J9)|(with_reducible show _ ≠ _;first|omega|(simp;done)))) hbq; have C2 := Jc B2; have F2 := Jf B2)); (try (have B3 := Jb (b := w.heap.size + 1 + 1 + 1) (by repeat' (first|with_reducible (first|assumption|apply J0|apply J1|apply J2|apply J3|apply J4|apply J5|apply J6|apply J7|apply J8|apply J9)|(with_reducible show _ ≠ _;first|omega|(simp;done)))) hbq; have C3 := Jc B3; have F3 := Jf B3)))))
      refine bodyPost_has (b := w.heap.size + 1 + 1) (T := 47) ?hB (fun wE hE => ?hres) rfl ⟨rfl, ?hlow⟩; (case hB => (refine Has.as (by repeat' (first|with_reducible (first|assumption|apply J0|apply J1|apply J2|apply J3|apply J4|apply J5|apply J6|apply J7|apply J8|apply J9)|(with_reducible show _ ≠ _;first|omega|(simp;done)))) ?_; first | (with_reducible rfl) | (simp only [List.setIfInBounds_toArray, List.set_cons_zero, List.set_cons_succ]; first | done | rfl) | rfl | (simp; done))); (case hres => have cE := Jc hE; simp only [results, Tryz.results169, go_sem]; simp [go_sem, cE]; done); (case hlow => repeat' (first|with_reducible (first|exact lowRefl _|apply lowSet|apply lowDrew|apply lowDrewN|apply lowAlloc)|(with_reducible refine lowCall ?_ (by assumption))|(show (_ : Nat) ≤ _;first|(simp;done)|(simp;omega)|omega)))
end Go.Proofs.YtegibpepdndocabGreat
end
