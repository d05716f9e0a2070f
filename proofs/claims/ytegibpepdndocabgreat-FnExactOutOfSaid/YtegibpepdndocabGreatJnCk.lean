import Derived.Test.YtegibpepdndocabGreatClnk
namespace Go.Proofs.YtegibpepdndocabGreat
open Go.ChangeShapes Go.WideShapes Go.ChangeAt Go.RowKit
set_option linter.unusedSimpArgs false
set_option linter.unusedVariables false

/- several cells of a block that is known whole are stored -/
def setL (cs : Array Value) (o : Nat) : List Value → Array Value
  | [] => cs
  | v :: r => setL (cs.setIfInBounds o v) (o + 1) r
theorem setL_get : ∀ (vs : List Value) (cs : Array Value) (o i : Nat), o + vs.length ≤ cs.size → (setL cs o vs)[i]? = if o ≤ i ∧ i < o + vs.length then vs[i - o]? else cs[i]?
  | [], cs, o, i, _ => by rw [setL, if_neg (by simp)]
  | v :: r, cs, o, i, h => by
    simp only [List.length_cons] at h
    rw [setL, setL_get r _ _ _ (by simp; omega)]
    by_cases h1 : o + 1 ≤ i ∧ i < o + 1 + r.length
    · rw [if_pos h1, if_pos (by simp; omega), show i - o = (i - (o + 1)) + 1 by omega, List.getElem?_cons_succ]
    · rw [if_neg h1]
      by_cases h2 : i = o
      · subst h2
        rw [if_pos (by simp), Nat.sub_self, List.getElem?_cons_zero, Array.getElem?_setIfInBounds_self_of_lt (by omega)]
      · rw [if_neg (by simp; omega), Array.getElem?_setIfInBounds_ne (by omega)]
theorem Has.setCells {b : Nat} {T : TypeId} : ∀ (vs : List Value) (o : Nat) (w : World) (cs : Array Value), Has w b cs T → Has (w.setCells b o vs) b (setL cs o vs) T
  | [], _, _, _, h => h
  | v :: r, o, w, cs, h => by rw [World.setCells, setL]; exact Has.setCells r (o + 1) _ _ (h.same o v)
theorem Has.setCellsO {b g : Nat} {T : TypeId} {cs : Array Value} (hne : b ≠ g) : ∀ (vs : List Value) (o : Nat) (w : World), Has w b cs T → Has (w.setCells g o vs) b cs T
  | [], _, _, h => h
  | v :: r, o, w, h => by rw [World.setCells]; exact Has.setCellsO hne r (o + 1) _ (Has.other hne h o v)
theorem lowCells {a : World} {g : Nat} (hg : a.heap.size ≤ g) : ∀ (vs : List Value) (o : Nat) (w : World), Below a.heap.size a w → Below a.heap.size a (w.setCells g o vs)
  | [], _, _, h => h
  | v :: r, o, w, h => by rw [World.setCells]; exact lowCells hg r (o + 1) _ (lowSet (p := ⟨g, o, none⟩) h hg v)
theorem heapCells {g k : Nat} (hne : k ≠ g) : ∀ (vs : List Value) (o : Nat) (w : World), (w.setCells g o vs).heap[k]? = w.heap[k]?
  | [], _, _ => rfl
  | v :: r, o, w => by rw [World.setCells, heapCells hne r (o + 1)]; exact Below.heap_setCell w ⟨g, o, none⟩ v k (fun e => hne e)
theorem sizeCells (g : Nat) : ∀ (vs : List Value) (o : Nat) (w : World), (w.setCells g o vs).heap.size = w.heap.size
  | [], _, _ => rfl
  | v :: r, o, w => by rw [World.setCells, sizeCells g r (o + 1)]; simp
theorem setCells_os (g : Nat) : ∀ (vs : List Value) (o : Nat) (w : World), (w.setCells g o vs).os = w.os
  | [], _, _ => rfl
  | v :: r, o, w => by rw [World.setCells, setCells_os g r (o + 1)]; rfl
theorem setCells_tape (g : Nat) : ∀ (vs : List Value) (o : Nat) (w : World), (w.setCells g o vs).tape = w.tape
  | [], _, _ => rfl
  | v :: r, o, w => by rw [World.setCells, setCells_tape g r (o + 1)]; rfl
theorem setCells_output (g : Nat) : ∀ (vs : List Value) (o : Nat) (w : World), (w.setCells g o vs).output = w.output
  | [], _, _ => rfl
  | v :: r, o, w => by rw [World.setCells, setCells_output g r (o + 1)]; rfl
theorem grownCells (w : World) (g o : Nat) (vs : List Value) : w.grownBy (w.setCells g o vs) (some g) :=
  ⟨setCells_os g vs o w, setCells_tape g vs o w, setCells_output g vs o w, by rw [sizeCells]; exact Nat.le_refl _, fun k _ hne => heapCells (fun e => hne (by rw [e])) _ _ _⟩
theorem setAll_cells (g off : Nat) : ∀ (vs : List Value) (c : Nat) (w : World), setAll w g off c vs = w.setCells g (off + c) vs
  | [], _, _ => rfl
  | v :: r, c, w => by rw [setAll, World.setCells, setAll_cells g off r (c + 1)]; rfl
/- the cells of motions -/
def Mo.cells (m : Mo) : List Value := [.int .i64 m.a, .int .i64 m.b, .int .i64 m.c, .bool m.k, .bool m.l, .bool m.n, .int .i64 m.p, .int .i64 m.q, .int .i64 m.r]
theorem Mo.one (m : Mo) : ∀ v ∈ m.cells, v.oneCell' = true := by
  intro v hv
  simp only [Mo.cells, List.mem_cons, List.not_mem_nil, or_false] at hv
  rcases hv with h | h | h | h | h | h | h | h | h <;> (rw [h]; rfl)
theorem moSize : (Tryz.prog.info? 47).map (·.size) = some 9 := by kernel_rfl
def cellsM (n : Nat) (J : Nat → Mo) : Array Value := ((List.range n).map fun i => (J i).cells).flatten.toArray
theorem mcells_len {n : Nat} {J : Nat → Mo} : ∀ x ∈ (List.range n).map fun i => (J i).cells, x.length = 9 := fun x hx => by obtain ⟨s, _, rfl⟩ := List.mem_map.1 hx; rfl
theorem cellsM_size (n : Nat) (J : Nat → Mo) : (cellsM n J).size = n * 9 := by
  unfold cellsM
  rw [List.size_toArray, flat_len mcells_len, List.length_map, List.length_range]
theorem cellsM_get (n : Nat) (J : Nat → Mo) (i c : Nat) (hi : i < n) (hc : c < 9) : (cellsM n J)[i * 9 + c]? = (J i).cells[c]? := by
  unfold cellsM
  have := flat_get (L := (List.range n).map fun i => (J i).cells) mcells_len i c (by simpa using hi) hc
  rw [List.getElem?_toArray, this]
  simp
theorem cellsM_out (n : Nat) (J : Nat → Mo) (i : Nat) (hi : n * 9 ≤ i) : (cellsM n J)[i]? = none := by
  rw [Array.getElem?_eq_none_iff, cellsM_size]; exact hi
theorem cellsM_set (n : Nat) (J : Nat → Mo) (kn : Nat) (k : Int) (m : Mo) (hk : (kn : Int) = k) (hn : kn < n) : setL (cellsM n J) (kn * 9) m.cells = cellsM n (updM J k m) := by
  subst hk
  have hb : kn * 9 + m.cells.length ≤ (cellsM n J).size := by
    have : (kn + 1) * 9 ≤ n * 9 := Nat.mul_le_mul_right _ hn
    rw [cellsM_size]; show kn * 9 + 9 ≤ _; omega
  apply Array.ext_getElem?
  intro i
  rw [setL_get _ _ _ _ hb]
  have e : i / 9 * 9 + i % 9 = i := Nat.div_add_mod' i 9
  have hm := Nat.mod_lt i (show 0 < 9 by omega)
  by_cases hi : i / 9 < n
  · have g1 := cellsM_get n J (i / 9) (i % 9) hi hm
    have g2 := cellsM_get n (updM J kn m) (i / 9) (i % 9) hi hm
    rw [e] at g1 g2
    rw [g2]
    by_cases h : kn * 9 ≤ i ∧ i < kn * 9 + m.cells.length
    · rw [if_pos h]
      have h9 : i < kn * 9 + 9 := h.2
      have e1 : i / 9 = kn := by omega
      have e2 : i - kn * 9 = i % 9 := by omega
      rw [e1, e2]
      simp [updM]
    · rw [if_neg h, g1]
      have h9 : ¬ (kn * 9 ≤ i ∧ i < kn * 9 + 9) := h
      have e1 : i / 9 ≠ kn := by omega
      rw [updM, if_neg (by omega)]
  · have hi9 : n * 9 ≤ i := by
      have := (Nat.le_div_iff_mul_le (show 0 < 9 by omega)).1 (Nat.le_of_not_lt hi); omega
    rw [cellsM_out n _ i hi9, if_neg, cellsM_out n _ i hi9]
    have : (kn + 1) * 9 ≤ n * 9 := Nat.mul_le_mul_right _ hn
    show ¬ (kn * 9 ≤ i ∧ i < kn * 9 + 9)
    omega
/- a motion is read out of a block of motions, and stored into it -/
theorem moAt {w : World} {b n : Nat} {J : Nat → Mo} {T : TypeId} (h : Has w b (cellsM n J) T) (i : Nat) (hi : i < n) : w.rangeAt b (i * 9) (J i).cells := fun j v hj => by
  rw [Has.cell h, cellsM_get n J i j hi (by have : j < (J i).cells.length := (List.getElem?_eq_some_iff.1 hj).1; exact this)]
  exact hj
theorem moLoadAt {w : World} {b n : Nat} {J : Nat → Mo} {T : TypeId} (h : Has w b (cellsM n J) T) (i : Nat) (hi : i < n) : (loadVar 47 ⟨b, i * 9, none⟩).run Tryz.prog w = .ok (J i).val w :=
  run_loadVar_mid w b (i * 9) _ (J i).cells _ (moAt h i hi) Tryz.underlying47 rfl moSize
theorem moStoreAt {w : World} {b n : Nat} {J : Nat → Mo} {T : TypeId} (h : Has w b (cellsM n J) T) (i : Nat) (hi : i < n) (m : Mo) : (storeVar 47 ⟨b, i * 9, none⟩ m.val).run Tryz.prog w = .ok () (w.setCells b (i * 9) m.cells) :=
  run_storeVar_mid (P := Tryz.prog) w b (i * 9) _ m.cells.toArray (fun j hj => ⟨by
    have hj9 : j < 9 := hj
    rw [Has.cell h, cellsM_get n J i j hi hj9]
    have : j < (J i).cells.length := hj9
    rw [List.getElem?_eq_getElem this]; rfl, Has.frozen h _⟩) moSize (all_oneCell_toArray m.one)
/- a block that holds one motion -/
theorem moLoad (m : Mo) {w : World} {b : Nat} {T : TypeId} (h : Has w b m.cells.toArray T) : (loadVar 47 ⟨b, 0, none⟩).run Tryz.prog w = .ok m.val w :=
  run_loadVar_mid w b 0 _ m.cells _ (fun j v hj => by rw [Nat.zero_add, Has.cell h, ← hj]; simp) Tryz.underlying47 rfl moSize
theorem moStore (m : Mo) {w : World} {b : Nat} {cs : Array Value} {T : TypeId} (h : Has w b cs T) (hs : cs.size = 9) : (storeVar 47 ⟨b, 0, none⟩ m.val).run Tryz.prog w = .ok () (w.setRow b m.cells.toArray) :=
  run_storeVar_row w b T _ cs m.cells.toArray h moSize hs (all_oneCell_toArray m.one)
theorem moStoreNew (m : Mo) (cs : Array Value) (w : World) (hs : cs.size = 9) : (storeVar 47 ⟨w.heap.size, 0, none⟩ m.val).run Tryz.prog (w.alloc (.cells cs 47)) = .ok () (w.alloc (.cells m.cells.toArray 47)) := by
  have := run_storeAt_new (P := Tryz.prog) w 47 cs m.cells.toArray moSize hs (all_oneCell_toArray m.one)
  show (storeVar 47 ⟨w.heap.size, 0, none⟩ (.agg m.cells.toArray)).run Tryz.prog (w.alloc (.cells cs 47)) = _
  simpa only [Instr.storeAt, Instr.sureAddr, Sem.run_bind, Sem.run_pure, Result.andThen] using this
theorem ptMove {p : Pt} {w : World} {b : Nat} {T : TypeId} (h : Has w b p.arr T) : (loadVar 47 ⟨b, 15, none⟩).run Tryz.prog w = .ok p.m.val w :=
  run_loadVar_mid w b 15 _ p.m.cells _ (fun j v hj => by
    have hj9 : j < 9 := (List.getElem?_eq_some_iff.1 hj).1
    rw [Has.cell h, ← hj]
    obtain rfl | rfl | rfl | rfl | rfl | rfl | rfl | rfl | rfl : j = 0 ∨ j = 1 ∨ j = 2 ∨ j = 3 ∨ j = 4 ∨ j = 5 ∨ j = 6 ∨ j = 7 ∨ j = 8 := by omega
    all_goals rfl) Tryz.underlying47 rfl moSize
/- a part is stored into a row of parts -/
theorem PRow.storeAt {w : World} {B g n c : Nat} {l : List Pt} (h : PRow w B (.slice (some ⟨g, 0, none⟩) n c) l) (hn : n = l.length) (i : Nat) (hi : i < l.length) (p : Pt) :
    (storeVar 49 ⟨g, i * 27, none⟩ p.val).run Tryz.prog w = .ok () (w.setCells g (i * 27) p.cells) ∧
    PRow (w.setCells g (i * 27) p.cells) B (.slice (some ⟨g, 0, none⟩) n c) (l.set i p) ∧ w.grownBy (w.setCells g (i * 27) p.cells) (some g) := by
  have hlen : n = (l.map Pt.cells).length := by simpa using hn
  refine ⟨?_, ?_⟩
  · exact run_storeVar_mid (P := Tryz.prog) w g (i * 27) _ p.arr (fun j hj => ⟨by
      have hj27 : j < 27 := hj
      rw [RowK.cell h hlen i j (by simpa using hi) hj27]
      have : j < ((l.map Pt.cells)[i]'(by simpa using hi)).length := by simp [Pt.cells_len]; exact hj27
      rw [List.getElem?_eq_getElem this]; rfl, RowK.frozen h hlen _⟩) ptSize (all_oneCell_toArray p.one)
  · have hs := RowK.storeAll p.cells 0 w (l.map Pt.cells) i _ h hlen (by simpa using hi) rfl (by rw [Pt.cells_len])
    rw [setAll_cells, Nat.add_zero, List.take_zero, List.nil_append] at hs
    have e : (l.map Pt.cells).set i p.cells = (l.set i p).map Pt.cells := by rw [List.map_set]
    rw [e] at hs
    exact hs
theorem PRow.load {w : World} {B g n c : Nat} {l : List Pt} (h : PRow w B (.slice (some ⟨g, 0, none⟩) n c) l) (hn : n = l.length) (i : Nat) (hi : i < l.length) :
    (Go.loadVar 49 ⟨g, i * 27, none⟩).run Tryz.prog w = .ok l[i].val w :=
  run_loadVar_mid w g (i * 27) _ l[i].cells _ (fun j v hj => by
    have hj27 : j < 27 := (List.getElem?_eq_some_iff.1 hj).1
    rw [RowK.cell h (by simpa using hn) i j (by simpa using hi) hj27]; simpa using hj) Tryz.underlying49 rfl ptSize
end Go.Proofs.YtegibpepdndocabGreat
