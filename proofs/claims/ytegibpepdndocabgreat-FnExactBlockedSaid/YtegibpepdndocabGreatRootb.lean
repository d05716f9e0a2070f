import Derived.BigQuiet
import Derived.Deep.Cut
import Derived.Deep.QuietTactic
import Derived.LoopN
import Derived.LoopTactic
import Derived.Outline
import Derived.Shelf.Small.Bits
import Derived.Shelf.Strconv.Itoa0
import Derived.Test.YtegibpepdndocabGreatHeldb
import Derived.Test.YtegibpepdndocabGreatIntsb
import Derived.Test.YtegibpepdndocabGreatProg
section
namespace Go.Proofs.YtegibpepdndocabGreat
open Go.ChangeShapes Go.WideShapes Go.ChangeAt Go.RowKit

theorem addr_add (g j : Nat) : (⟨g, 0, none⟩ : Addr).add j = ⟨g, j, none⟩ := by unfold Addr.add; split <;> simp_all
/- a block of another type, or below the row's base, is not the row's -/
theorem own_ne {w : World} {B b n : Nat} {e T : TypeId} {v : Value} {xs : List Value} {cs : Array Value} {sz : Nat} (hr : w.ownsRow B e sz v n xs) (hb : Has w b cs T) (he : e ≠ T) : some b ≠ v.ownBlock := by
  rcases hr.2 with ⟨rfl, _⟩ | ⟨g, cap, cur, rfl, _, hg, _⟩
  · simp [Value.ownBlock]
  · intro h
    have : g = b := by simpa [Value.ownBlock] using h.symm
    subst this
    unfold Has at hb
    rw [hg] at hb
    simp only [Option.some.injEq, Obj.cells.injEq] at hb
    exact he hb.2.1
theorem own_lo {w : World} {B b n : Nat} {e : TypeId} {v : Value} {xs : List Value} {sz : Nat} (hr : w.ownsRow B e sz v n xs) (hb : b < B) : some b ≠ v.ownBlock := by
  intro h
  have := (hr.lt b h.symm).1
  omega
theorem own_fresh {w : World} {B n : Nat} {e : TypeId} {v : Value} {xs : List Value} {sz : Nat} (hr : w.ownsRow B e sz v n xs) : some w.heap.size ≠ v.ownBlock := by
  intro h
  have := (hr.lt _ h.symm).2
  omega
theorem Has.grown {w w' : World} {b : Nat} {cs : Array Value} {T : TypeId} {row : Option Nat} (h : Has w b cs T) (hg : w.grownBy w' row) (hne : some b ≠ row) : Has w' b cs T := (hg.block b h.lt hne).trans h
theorem own_below {w w' : World} {B n sz : Nat} {e : TypeId} {v : Value} {xs : List Value} (h : w.ownsRow B e sz v n xs) (hb : Below w.heap.size w w') : w'.ownsRow B e sz v n xs :=
  World.ownsRow.kept h (row := none) ⟨hb.os, hb.tape, hb.output, hb.size, fun k hk _ => hb.block k hk⟩ (by cases v.ownBlock <;> simp)
theorem own_set {w : World} {B n sz b i : Nat} {e : TypeId} {v u : Value} {xs : List Value} (h : w.ownsRow B e sz v n xs) (hne : some b ≠ v.ownBlock) : (w.setCell ⟨b, i, none⟩ u).ownsRow B e sz v n xs := by
  refine ⟨h.1, h.2.imp id fun ⟨g, cap, cur, hv, hg, hh, r⟩ => ⟨g, cap, cur, hv, hg, ?_, r⟩⟩
  subst hv
  exact (Below.heap_setCell w ⟨b, i, none⟩ u g (fun e => hne (by simp [Value.ownBlock, e]))).trans hh
theorem own_lift {w w' : World} {B n sz : Nat} {e : TypeId} {v : Value} {xs : List Value} (h : w.ownsRow B e sz v n xs) (hk : ∀ g, v.ownBlock = some g → g < w.heap.size → w'.heap[g]? = w.heap[g]?) : w'.ownsRow B e sz v n xs := by
  refine ⟨h.1, h.2.imp id fun ⟨g, cap, cur, hv, hg, hh, r⟩ => ⟨g, cap, cur, hv, hg, ?_, r⟩⟩
  subst hv
  exact (hk g rfl (Array.getElem?_eq_some_iff.1 hh).1).trans hh

theorem Has.as {w : World} {b : Nat} {cs cs' : Array Value} {T : TypeId} (h : Has w b cs T) (e : cs = cs') : Has w b cs' T := e ▸ h

/- a list of elements of K cells each, by index -/
theorem flat_len {K : Nat} : ∀ {L : List (List Value)}, (∀ x ∈ L, x.length = K) → L.flatten.length = L.length * K
  | [], _ => by simp
  | x :: L, h => by
    have := flat_len (L := L) (fun y hy => h y (by simp [hy]))
    rw [List.flatten_cons, List.length_append, this, h x (by simp), List.length_cons, Nat.succ_mul, Nat.add_comm]
theorem flat_get {K : Nat} : ∀ {L : List (List Value)}, (∀ x ∈ L, x.length = K) → ∀ (i c : Nat) (hi : i < L.length), c < K → L.flatten[i * K + c]? = (L[i])[c]?
  | x :: L, h, 0, c, _, hc => by
    rw [List.flatten_cons, Nat.zero_mul, Nat.zero_add, List.getElem?_append_left (by rw [h x (by simp)]; exact hc)]; rfl
  | x :: L, h, i + 1, c, hi, hc => by
    have hx := h x (by simp)
    rw [List.flatten_cons, List.getElem?_append_right (by rw [hx, Nat.succ_mul]; omega), hx, show (i + 1) * K + c - K = i * K + c by rw [Nat.succ_mul]; omega]
    exact flat_get (fun y hy => h y (by simp [hy])) i c (by simpa using hi) hc

/- the slice value v owns elements of K cells -/
structure RowK (w : World) (B : Nat) (T : TypeId) (K : Nat) (v : Value) (L : List (List Value)) : Prop where
  own : w.ownsRow B T K v L.length L.flatten
  each : ∀ x ∈ L, x.length = K
theorem RowK.shape {w : World} {B K : Nat} {T : TypeId} {v : Value} {L : List (List Value)} (h : RowK w B T K v L) : ∃ A c, v = .slice A L.length c ∧ (0 < L.length → ∃ g, A = some ⟨g, 0, none⟩ ∧ B ≤ g ∧ g < w.heap.size) ∧ (L.length = 0 → A = none ∧ c = 0 ∨ ∃ g, A = some ⟨g, 0, none⟩) := by
  rcases h.own.2 with ⟨h', hn⟩ | ⟨g, cap, cur, h', hb, hg, _⟩
  · exact ⟨none, 0, by rw [h', hn], fun h => by omega, fun _ => .inl ⟨rfl, rfl⟩⟩
  · exact ⟨some ⟨g, 0, none⟩, cap, h', fun _ => ⟨g, rfl, hb, (Array.getElem?_eq_some_iff.1 hg).1⟩, fun _ => .inr ⟨g, rfl⟩⟩
theorem RowK.cell {w : World} {B K g n c : Nat} {T : TypeId} {L : List (List Value)} (h : RowK w B T K (.slice (some ⟨g, 0, none⟩) n c) L) (hn : n = L.length) (i j : Nat) (hi : i < L.length) (hj : j < K) : w.cell? ⟨g, i * K + j, none⟩ = (L[i])[j]? := by
  subst hn
  have hlt : i * K + j < L.length * K := by
    have : (i + 1) * K ≤ L.length * K := Nat.mul_le_mul_right _ hi
    rw [Nat.succ_mul] at this; omega
  rw [World.ownsRow.cellAt h.own _ hlt, flat_get h.each i j hi hj]
theorem RowK.frozen {w : World} {B K g n c : Nat} {T : TypeId} {L : List (List Value)} (h : RowK w B T K (.slice (some ⟨g, 0, none⟩) n c) L) (hn : n = L.length) (k : Nat) : w.frozen? ⟨g, k, none⟩ = false := by
  subst hn; exact World.ownsRow.frozenAt h.own k
theorem RowK.below {w w' : World} {B K : Nat} {T : TypeId} {v : Value} {L : List (List Value)} (h : RowK w B T K v L) (hb : Below w.heap.size w w') : RowK w' B T K v L := ⟨own_below h.own hb, h.each⟩
theorem RowK.drew {w : World} {B K : Nat} {T : TypeId} {v : Value} {L : List (List Value)} (h : RowK w B T K v L) : RowK w.drew B T K v L := ⟨h.own, h.each⟩
theorem RowK.alloc {w : World} {B K : Nat} {T : TypeId} {v : Value} {L : List (List Value)} (h : RowK w B T K v L) (o : Obj) : RowK (w.alloc o) B T K v L := ⟨World.ownsRow.alloc h.own o, h.each⟩
theorem RowK.set {w : World} {B K b i : Nat} {T : TypeId} {v u : Value} {L : List (List Value)} (h : RowK w B T K v L) (hne : some b ≠ v.ownBlock) : RowK (w.setCell ⟨b, i, none⟩ u) B T K v L := ⟨own_set h.own hne, h.each⟩
theorem RowK.mono {w : World} {B B' K : Nat} {T : TypeId} {v : Value} {L : List (List Value)} (h : RowK w B T K v L) (hb : B' ≤ B) : RowK w B' T K v L := ⟨⟨h.own.1, h.own.2.imp id fun ⟨g, cap, cur, h1, h2, h3⟩ => ⟨g, cap, cur, h1, Nat.le_trans hb h2, h3⟩⟩, h.each⟩
theorem RowK.kept {w w' : World} {B K : Nat} {T : TypeId} {v : Value} {L : List (List Value)} {row : Option Nat} (h : RowK w B T K v L) (hg : w.grownBy w' row) (hne : v.ownBlock = none ∨ v.ownBlock ≠ row) : RowK w' B T K v L := ⟨World.ownsRow.kept h.own hg hne, h.each⟩
theorem RowK.nil (w : World) (B K : Nat) (T : TypeId) : RowK w B T K (.slice none 0 0) [] := ⟨⟨by simp, .inl ⟨rfl, rfl⟩⟩, by simp⟩
theorem RowK.empty (w : World) (B K : Nat) (T : TypeId) (hB : B ≤ w.heap.size) : RowK (w.alloc (.cells #[] T)) B T K (.slice (some ⟨w.heap.size, 0, none⟩) 0 0) [] :=
  ⟨World.ownsRow_lit w #[] 0 hB (by unfold maxLen; omega) (by simp), by simp⟩
/- a cell of an element is stored -/
theorem flat_set {K : Nat} : ∀ {L : List (List Value)}, (∀ x ∈ L, x.length = K) → ∀ (i c : Nat) (_ : i < L.length) (_ : c < K) (u : Value), L.flatten.set (i * K + c) u = (L.set i ((L.getD i []).set c u)).flatten
  | x :: L, h, 0, c, _, hc, u => by
    have hx := h x (by simp)
    simp only [Nat.zero_mul, Nat.zero_add, List.flatten_cons, List.set_cons_zero, List.getD_cons_zero]
    rw [List.set_append_left _ _ (by omega)]
  | x :: L, h, i + 1, c, hi, hc, u => by
    have hx := h x (by simp)
    simp only [List.flatten_cons, List.set_cons_succ, List.getD_cons_succ]
    rw [List.set_append_right _ _ (by rw [hx, Nat.succ_mul]; omega), hx, show (i + 1) * K + c - K = i * K + c by rw [Nat.succ_mul]; omega,
      flat_set (fun y hy => h y (by simp [hy])) i c (by simpa using hi) hc u]
theorem RowK.store {w : World} {B K g n c : Nat} {T : TypeId} {L : List (List Value)} (h : RowK w B T K (.slice (some ⟨g, 0, none⟩) n c) L) (hn : n = L.length) (i j : Nat) (hi : i < L.length) (hj : j < K) (u : Value) :
    RowK (w.setCell ⟨g, i * K + j, none⟩ u) B T K (.slice (some ⟨g, 0, none⟩) n c) (L.set i ((L.getD i []).set j u)) ∧ w.grownBy (w.setCell ⟨g, i * K + j, none⟩ u) (some g) := by
  subst hn
  have hs := World.ownsRow.stored h.own (i * K + j) u
  refine ⟨⟨?_, ?_⟩, hs.2⟩
  · rw [List.length_set, ← flat_set h.each i j hi hj u]; exact hs.1
  · intro x hx
    rcases List.mem_or_eq_of_mem_set hx with h1 | rfl
    · exact h.each x h1
    · rw [List.length_set, List.getD_eq_getElem?_getD, List.getElem?_eq_getElem hi]; exact h.each _ (List.getElem_mem hi)
/- 'append(v, x)' of one element that lies in a block of its own -/
theorem append_k (wr : World) {ops : Array Oper} {rest : List Oper} {o : Oper} {a : Act} {Q : Exit → Act → World → Prop} (hgd : o.guard = none) (s x : Operand) (tS T : TypeId) (K bytes : Nat) (z : Value)
    (ho : o.op = .call { callee := .builtin .append, args := #[s, x], argTypes := #[tS, tS] }) (hu : Tryz.prog.underlying tS = some (.slice T)) (hinfo : (Tryz.prog.info? T).map (fun i => (i.zero, i.size, i.bytes)) = some (some z, K, bytes))
    (hz : z.cells.size = K) (hK0 : 0 < K) (B : Nat) (v : Value) (L : List (List Value)) (new : List Value) (hr : RowK wr B T K v L) (hs : a.eval s = v) (b : Nat) (hx : a.eval x = .slice (some ⟨b, 0, none⟩) 1 1) (cs : Array Value) (Tb : TypeId) (hb : Has wr b cs Tb)
    (hcs : cs.toList = new) (hnew : new.length = K) (h1 : ∀ u ∈ new, u.oneCell' = true) (hn : L.length < 1000000000) (hby : bytes ≤ 100000) (hB : B ≤ wr.heap.size)
    (hK : ∀ v' w', RowK w' B T K v' (L ++ [new]) → wr.grownBy w' v.ownBlock → wpList Tryz.prog ops Q rest (a.put o.dst v') w') :
    wpList Tryz.prog ops Q (o :: rest) a wr := by
  obtain ⟨i0, hi, hz0, hz1, hz2⟩ := info_parts hinfo
  refine wpList_append_own _ hgd s x tS ho B T i0 z K bytes hu hi hz0 hz1 hz2 hz hK0 v _ _ hs hr.own ⟨b, 0, none⟩ 1 1 new hx (by rw [hnew, Nat.one_mul]) ?_ h1 ?_ ?_ hB ?_
  · intro j u hu'
    rw [addr_add, cell_of_row wr b j cs Tb (0, 0) hb, ← hu', ← hcs]
    simp
  · unfold maxLen; omega
  · have : (L.length + 1) * bytes ≤ 1000000000 * 100000 := Nat.mul_le_mul (by omega) hby
    omega
  · intro v' w' h2 h3 _
    refine hK v' w' ⟨?_, ?_⟩ h3
    · simpa using h2
    · intro y hy
      rcases List.mem_append.1 hy with h4 | h4
      · exact hr.each y h4
      · rw [List.mem_singleton] at h4; rw [h4]; exact hnew
/- the same as one operation: m elements that lie in a block -/
theorem append_wp (wr : World) {o : Oper} {a : Act} {K : Act → World → Prop} {Q : Exit → Act → World → Prop} (s x : Operand) (tS T : TypeId) (C bytes : Nat) (z : Value)
    (ho : o.op = .call { callee := .builtin .append, args := #[s, x], argTypes := #[tS, tS] }) (hu : Tryz.prog.underlying tS = some (.slice T)) (hinfo : (Tryz.prog.info? T).map (fun i => (i.zero, i.size, i.bytes)) = some (some z, C, bytes))
    (hz : z.cells.size = C) (hC0 : 0 < C) (B : Nat) (v : Value) (L news : List (List Value)) (hr : RowK wr B T C v L) (hs : a.eval s = v) (b m : Nat) (hx : a.eval x = .slice (some ⟨b, 0, none⟩) m m) (cs : Array Value) (Tb : TypeId) (hb : wr.heap[b]? = some (.cells cs Tb))
    (hcs : cs.toList = news.flatten) (hm : news.length = m) (hnew : ∀ y ∈ news, y.length = C) (h1 : ∀ u ∈ news.flatten, u.oneCell' = true) (hn : L.length + m < 1000000000) (hby : bytes ≤ 100000) (hB : B ≤ wr.heap.size)
    (hK : ∀ v' w', RowK w' B T C v' (L ++ news) → wr.grownBy w' v.ownBlock → K (a.put o.dst v') w') : o.wp Tryz.prog a wr K Q := by
  obtain ⟨i0, hi, hz0, hz1, hz2⟩ := info_parts hinfo
  refine wp_append_own wr s x tS ho B T i0 z C bytes hu hi hz0 hz1 hz2 hz hC0 v _ _ hs hr.own ⟨b, 0, none⟩ m m news.flatten hx (by rw [flat_len hnew, hm]) ?_ h1 ?_ ?_ hB ?_
  · intro j u hu'
    rw [addr_add, cell_of_row wr b j cs Tb (0, 0) hb, ← hu', ← hcs]
    simp
  · unfold maxLen; omega
  · have : (L.length + m) * bytes ≤ 1000000000 * 100000 := Nat.mul_le_mul (by omega) hby
    omega
  · intro v' w' h2 h3 _
    refine hK v' w' ⟨?_, ?_⟩ h3
    · rw [List.length_append, List.flatten_append, hm]; exact h2
    · intro y hy
      rcases List.mem_append.1 hy with h4 | h4
      · exact hr.each y h4
      · exact hnew y h4
/- 'make([]T, n)' -/
theorem made_flat (z : Array Value) (K n : Nat) (hz : z.size = K) (hK : 0 < K) : (madeCells z (n * K)).toList = (List.replicate n z.toList).flatten := by
  have he : ∀ x ∈ List.replicate n z.toList, x.length = K := fun x hx => by rw [List.eq_of_mem_replicate hx]; simpa using hz
  apply List.ext_getElem?
  intro i
  have e : i / K * K + i % K = i := Nat.div_add_mod' i K
  have hm := Nat.mod_lt i hK
  by_cases h : i / K < n
  · have h1 := flat_get he (i / K) (i % K) (by simpa using h) hm
    rw [e] at h1
    rw [h1]
    have hi : i < n * K := (Nat.div_lt_iff_lt_mul hK).1 h
    simp [madeCells, hi, hz, hm]
  · have hi : n * K ≤ i := by
      have := (Nat.le_div_iff_mul_le hK).1 (Nat.le_of_not_lt h); omega
    rw [List.getElem?_eq_none (by simp [madeCells]; omega), List.getElem?_eq_none (by rw [flat_len he, List.length_replicate]; exact hi)]
theorem make_k (w : World) {ops : Array Oper} {rest : List Oper} {o : Oper} {a : Act} {Q : Exit → Act → World → Prop}
    (hg : o.guard = none) (l c : Operand) (tS T : TypeId) (K bytes : Nat) (z : Value) (hop : o.op = Op.makeSlice tS l c)
    (hu : Tryz.prog.underlying tS = some (.slice T)) (hinfo : (Tryz.prog.info? T).map (fun i => (i.zero, i.size, i.bytes)) = some (some z, K, bytes)) (zs : List Value) (hz : z.cells.toList = zs) (hzK : zs.length = K) (hK0 : 0 < K)
    (B n : Nat) (hl : a.eval l = .int .i64 n) (hc : a.eval c = .int .i64 n) (hn : n ≤ 1000000000) (hby : bytes ≤ 100000) (hB : B ≤ w.heap.size)
    (hK : ∀ w', RowK w' B T K (.slice (some ⟨w.heap.size, 0, none⟩) n n) (List.replicate n zs) → w.grownBy w' none → wpList Tryz.prog ops Q rest (a.put o.dst (.slice (some ⟨w.heap.size, 0, none⟩) n n)) w') :
    wpList Tryz.prog ops Q (o :: rest) a w := by
  obtain ⟨i0, hi, hz0, hz1, hz2⟩ := info_parts hinfo
  subst hz
  refine wpList_make_full w hg l c tS hop B T i0 z K hu hi hz0 hz1 .i64 .i64 n n n hl hc rfl rfl ?_ ?_ hB ?_
  · rw [hz2]
    have : bytes * n ≤ 100000 * 1000000000 := Nat.mul_le_mul hby hn
    omega
  · unfold maxLen; omega
  · intro w' h1 h2
    refine hK w' ⟨?_, ?_⟩ h2
    · rw [made_flat z.cells K n (by simpa using hzK) hK0] at h1
      simpa using h1
    · intro x hx; rw [List.eq_of_mem_replicate hx]; exact hzK
theorem grown_none {a w w' : World} (h : Below a.heap.size a w) (hg : w.grownBy w' none) : Below a.heap.size a w' := h.grown hg h.size (fun k hk => by cases hk)
end Go.Proofs.YtegibpepdndocabGreat
end
section
namespace Go.Proofs.YtegibpepdndocabGreat
open Go Go.RowKit
/- a result that lies in a block that is known whole -/
theorem bodyPost_has {P : Program} {fn : Func} {R : Ending → World → Prop} {a : Act} {w : World} {b : Nat} {cs : Array Value} {T : TypeId} (hB : Has w b cs T)
    (hr : ∀ w, Has w b cs T → (results fn a.tmps).run P w = .ok (.agg cs) w) (hd : a.defers = []) (hR : R (.returned (.agg cs)) w) : bodyPost P fn R .ret a w := bodyPost_ret (hr w hB) hd hR
end Go.Proofs.YtegibpepdndocabGreat
end
section
namespace Go.Proofs.YtegibpepdndocabGreat
open Go.ChangeShapes Go.WideShapes Go.ChangeAt Go.RowKit
set_option maxHeartbeats 1000000
set_option linter.unusedSimpArgs false

/- four integers that stand in a row: half-spaces, keys -/
structure Qd where
  f : Int
  t : Int
  i : Int
  o : Int
def Qd.cells (s : Qd) : List Value := [.int .i64 s.f, .int .i64 s.t, .int .i64 s.i, .int .i64 s.o]
abbrev Qd.val (s : Qd) : Value := .agg #[.int .i64 (s.f), .int .i64 (s.t), .int .i64 (s.i), .int .i64 (s.o)]
def Quad (w : World) (b k : Nat) (s : Qd) : Prop :=
  w.cell? ⟨b, k, none⟩ = some (.int .i64 s.f) ∧ w.cell? ⟨b, k + 1, none⟩ = some (.int .i64 s.t) ∧ w.cell? ⟨b, k + 2, none⟩ = some (.int .i64 s.i) ∧ w.cell? ⟨b, k + 3, none⟩ = some (.int .i64 s.o)
theorem qcell_lift {w w' : World} {a : Addr} {u : Value} (h : w.cell? a = some u) (he : w'.heap[a.block]? = w.heap[a.block]?) : w'.cell? a = some u := by rw [World.cell?_of_block he]; exact h
theorem Quad.lift {w w' : World} {b k : Nat} {s : Qd} (h : Quad w b k s) (he : w'.heap[b]? = w.heap[b]?) : Quad w' b k s := by
  obtain ⟨h0, h1, h2, h3⟩ := h
  exact ⟨qcell_lift h0 he, qcell_lift h1 he, qcell_lift h2 he, qcell_lift h3 he⟩
theorem Quad.lt {w : World} {b k : Nat} {s : Qd} (h : Quad w b k s) : b < w.heap.size := block_lt_of_cell h.1
theorem Quad.below {w w' : World} {b k : Nat} {s : Qd} (h : Quad w b k s) (hb : Below w.heap.size w w') : Quad w' b k s := h.lift (hb.block b h.lt)
def QIn (w : World) (v : Value) (l : List Qd) : Prop := ∃ A c, v = .slice A l.length c ∧ (0 < l.length → ∃ b off, A = some ⟨b, off, none⟩ ∧ ∀ i (h : i < l.length), Quad w b (off + i * 4) l[i])
theorem QIn.lift {w w' : World} {v : Value} {l : List Qd} (h : QIn w v l) (he : ∀ b, v.ownBlock = some b → b < w.heap.size → w'.heap[b]? = w.heap[b]?) : QIn w' v l := by
  obtain ⟨A, c, rfl, h⟩ := h
  refine ⟨A, c, rfl, fun h0 => ?_⟩
  obtain ⟨b, off, rfl, hf⟩ := h h0
  exact ⟨b, off, rfl, fun i hi => (hf i hi).lift (he b rfl (hf i hi).lt)⟩
theorem QIn.below {w w' : World} {v : Value} {l : List Qd} (h : QIn w v l) (hb : Below w.heap.size w w') : QIn w' v l := h.lift fun b _ hlt => hb.block b hlt
end Go.Proofs.YtegibpepdndocabGreat
end
section
/- Contracts of library functions at this translation, as the kit's tool lays them. -/
namespace Go.Proofs
open Go.Shelf
def Tryz.lays125_ren : Go.Shelf.Ren := ⟨fun | 125 => 273 | 128 => 274 | 129 => 275 | n => n, fun | 46 => 275 | 3 => 3 | 51 => 263 | 53 => 278 | 4 => 4 | 5 => 5 | 9 => 9 | n => n, fun | n => n⟩
theorem Tryz.lays125 : Go.Proofs.Lays.n125 Tryz.prog Tryz.lays125_ren := {
  mixed := by kernel_rfl
  f125 := Tryz.func273.trans (congrArg some (by kernel_rfl))
  f128 := Tryz.func274.trans (congrArg some (by kernel_rfl))
  f129 := Tryz.func275.trans (congrArg some (by kernel_rfl))
  t3 := Tryz.underlying3
  a3 := Tryz.isAgg3
  z3 := Tryz.sizeOf3
  v3 := Tryz.zeroValue3
  t4 := Tryz.underlying4
  a4 := Tryz.isAgg4
  z4 := Tryz.sizeOf4
  v4 := Tryz.zeroValue4
  t5 := Tryz.underlying5
  a5 := Tryz.isAgg5
  z5 := Tryz.sizeOf5
  v5 := Tryz.zeroValue5
  t9 := Tryz.underlying9
  a9 := Tryz.isAgg9
  z9 := Tryz.sizeOf9
  v9 := Tryz.zeroValue9
  t46 := Tryz.underlying275
  a46 := Tryz.isAgg275
  z46 := Tryz.sizeOf275
  v46 := Tryz.zeroValue275
  t51 := Tryz.underlying263
  a51 := Tryz.isAgg263
  z51 := Tryz.sizeOf263
  v51 := Tryz.zeroValue263
  t53 := Tryz.underlying278
  a53 := Tryz.isAgg278
  z53 := Tryz.sizeOf278
  v53 := Tryz.zeroValue278 }
theorem Tryz.bits_Len (x : Int) (w : World) (h0 : 0 ≤ x) (h1 : x ≤ 18446744073709551615) :
    Calls Tryz.prog 273 #[.int .u64 x] w fun e w' => e = .returned (.int .i64 (Lib.bitLen x.toNat)) ∧ w' = w := Any.bits_Len Tryz.lays125 x w h0 h1
end Go.Proofs
end
section
namespace Go.Proofs.YtegibpepdndocabGreat
open Go.ChangeShapes Go.WideShapes Go.ChangeAt Go.RowKit

theorem bitLenAux_gt : ∀ (f n : Nat), n < 2 ^ f → n < 2 ^ Lib.bitLenAux f n
  | 0, n, h => by simpa [Lib.bitLenAux] using h
  | f + 1, n, h => by
    unfold Lib.bitLenAux
    split
    · rename_i e; subst e; simp
    · have := bitLenAux_gt f (n / 2) (by rw [Nat.pow_succ] at h; omega)
      rw [Nat.add_comm 1, Nat.pow_succ]; omega
theorem bitLenAux_le : ∀ (f k n : Nat), n < 2 ^ k → Lib.bitLenAux f n ≤ k
  | 0, k, n, h => by simp [Lib.bitLenAux]
  | f + 1, k, n, h => by
    unfold Lib.bitLenAux
    split
    · omega
    · cases k with
      | zero => simp at h; omega
      | succ k =>
        have := bitLenAux_le f k (n / 2) (by rw [Nat.pow_succ] at h; omega)
        omega
def p0 (n : Nat) : Nat := 2 ^ ((Lib.bitLen n + 1) / 2)
theorem bitLen_le63 (n : Nat) (h : n ≤ 4611686018427387904) : Lib.bitLen n ≤ 63 := bitLenAux_le 64 63 n (by omega)
theorem p0_facts (n : Nat) (h : n ≤ 4611686018427387904) : n < p0 n * p0 n ∧ p0 n ≤ 4294967296 ∧ 1 ≤ p0 n := by
  have h1 := bitLenAux_gt 64 n (by omega)
  have h2 := bitLen_le63 n h
  unfold p0
  rw [← Nat.pow_add]
  refine ⟨?_, ?_, Nat.one_le_two_pow⟩
  · exact Nat.lt_of_lt_of_le h1 (Nat.pow_le_pow_right (by omega) (by unfold Lib.bitLen; omega))
  · exact Nat.le_trans (Nat.pow_le_pow_right (by omega) (show (Lib.bitLen n + 1) / 2 ≤ 32 by omega)) (by decide)
/- one step of the tangent never falls below the root -/
theorem newton (n r k : Nat) (hr : 1 ≤ r) (hk : k * k ≤ n) : k ≤ (r + n / r) / 2 := by
  have h : 2 * k - r ≤ n / r := by
    rw [Nat.le_div_iff_mul_le (by omega)]
    refine Nat.le_trans ?_ hk
    by_cases h : 2 * k ≤ r
    · rw [Nat.sub_eq_zero_of_le h]; simp
    · by_cases hc : k ≤ r
      · obtain ⟨d, rfl⟩ : ∃ d, r = k + d := ⟨r - k, by omega⟩
        obtain ⟨e, he⟩ : ∃ e, k = d + e := ⟨k - d, by omega⟩
        rw [show 2 * k - (k + d) = e by omega, he]
        simp only [Nat.mul_add, Nat.add_mul]
        have := Nat.mul_comm d e
        omega
      · obtain ⟨d, he⟩ : ∃ d, k = r + d := ⟨k - r, by omega⟩
        rw [show 2 * k - r = r + 2 * d by omega, he]
        simp only [Nat.mul_add, Nat.add_mul]
        rw [Nat.mul_assoc 2 d r]
        have := Nat.mul_comm d r
        omega
  omega
theorem root_end (n r : Nat) (hr : 1 ≤ r) (h : rt n ≤ r) (hq : r ≤ n / r) : rt n = r := by
  rw [Nat.le_div_iff_mul_le (by omega)] at hq
  have := le_rt n r hq
  omega

theorem root_yes (n : Nat) (w : World) (hs : n ≤ 4611686018427387904) :
    Calls Tryz.prog 272 #[.int .i64 n] w fun e w' => e = .returned (.int .i64 (rt n)) ∧ w = w' := by
  by_cases h0 : n = 0
  · subst h0
    go_enter Tryz.func272, Tryz.ntmps272
    go_wp2_with (go_at_call 79; refine (within_yes _ _ _ _ (by omega) (by omega)).mono ?_; rintro e w' ⟨rfl, rfl⟩)
    go_ret
    exact ⟨ret_int (by unfold rt; rfl), rfl⟩
  · have hb := bitLen_le63 n hs
    obtain ⟨hp, hp2, hp3⟩ := p0_facts n hs
    have hz : ((n : Int) == 0) = false := by simp; omega
    have e1 : ((p0 n : Nat) : Int) = (2 : Int) ^ ((Lib.bitLen n + 1) / 2) := by unfold p0; push_cast; rfl
    have hk1 : (1 : Int) ≤ (2 : Int) ^ ((Lib.bitLen n + 1) / 2) := by rw [← e1]; omega
    have hk2 : (2 : Int) ^ ((Lib.bitLen n + 1) / 2) ≤ 4294967296 := by rw [← e1]; omega
    have E1 := Lib.hid e1
    have hq0 : (0 : Int) ≤ (n : Int) / (2 : Int) ^ ((Lib.bitLen n + 1) / 2) := Int.ediv_nonneg (by omega) (by omega)
    have hq1 : (n : Int) / (2 : Int) ^ ((Lib.bitLen n + 1) / 2) ≤ n := by rw [← e1]; exact_mod_cast Nat.div_le_self n (p0 n)
    have hrt : rt n ≤ p0 n := Nat.le_of_lt (rt_lt n _ hp)
    clear e1 hp
    go_enter Tryz.func272, Tryz.ntmps272
    go_wp2_with (first | (go_at_call 79; refine (within_yes _ _ _ _ (by omega) (by omega)).mono ?_; rintro e w' ⟨rfl, rfl⟩) | (go_at_call 273; refine (Tryz.bits_Len _ _ (by omega) (by omega)).mono ?_; rintro e w' ⟨rfl, rfl⟩))
    rw [← E1.out]
    go_loop [3, 4] (fun r q => ∃ k : Nat, 1 ≤ k ∧ k ≤ 4294967296 ∧ rt n ≤ k ∧ r = .int .i64 k ∧ q = .int .i64 ((n : Int) / k)) (fun r _ => (intOf r).toNat)
    case atStart => exact ⟨p0 n, hp3, hp2, hrt, rfl, rfl⟩
    case round =>
      obtain ⟨k, hk1, hk2, hk3, rfl, rfl⟩ := hrel
      have hq0 : (0 : Int) ≤ (n : Int) / k := Int.ediv_nonneg (by omega) (by omega)
      have hq1 : (n : Int) / k ≤ n := by exact_mod_cast Nat.div_le_self n k
      by_cases hc : n / k < k
      · have hc' : (n : Int) / k < k := by exact_mod_cast hc
        have hnew := newton n k (rt n) hk1 (rt_spec n).1
        have h1r := le_rt n 1 (by omega)
        obtain ⟨j, hj⟩ : ∃ j, j = (k + n / k) / 2 := ⟨_, rfl⟩
        rw [← hj] at hnew
        have hj' : ((k : Int) + (n : Int) / k) / 2 = (j : Int) := by rw [hj]; push_cast; rfl
        have hj2 : j < k := by omega
        have hjk : (j : Int) < k := by omega
        have hs0 : (0 : Int) ≤ (k : Int) + (n : Int) / k := by omega
        have hA : 1 ≤ ((k : Int) + (n : Int) / k) / 2 := by omega
        have hB : 0 ≤ (n : Int) / (((k : Int) + (n : Int) / k) / 2) := Int.ediv_nonneg (by omega) (by omega)
        have hC : (n : Int) / (((k : Int) + (n : Int) / k) / 2) ≤ n := by rw [hj']; exact_mod_cast Nat.div_le_self n j
        have HJ := Lib.hid hj'
        clear hj hj'
        go_wp2
        rw [HJ.out]
        go_round
        case rel => exact ⟨j, by omega, by omega, hnew, rfl, rfl⟩
        case measure => simp [intOf]; omega
      · have hc' : (k : Int) ≤ (n : Int) / k := by exact_mod_cast (by omega : k ≤ n / k)
        go_wp2
        go_ret
        exact ⟨ret_int (by rw [root_end n k hk1 hk3 (by omega)]), rfl⟩

theorem sroot_yes (n : Nat) (w : World) (hs : n ≤ 4611686018427387904) :
    Calls Tryz.prog 201 #[.int .i64 n] w fun e w' => e = .returned (.int .i64 (rt n)) ∧ w = w' := by
  go_enter Tryz.func201, Tryz.ntmps201
  go_wp2
  go_loop [3, 4, 5] (fun lo hi _ => ∃ a b : Nat, a < b ∧ b ≤ 3037000500 ∧ a * a ≤ n ∧ n < b * b ∧ lo = .int .i64 a ∧ hi = .int .i64 b) (fun lo hi _ => (intOf hi - intOf lo).toNat)
  case atStart => exact ⟨0, 3037000500, by omega, by omega, by omega, by omega, rfl, rfl⟩
  case round =>
    obtain ⟨a, b, h1, h2, h3, h4, rfl, rfl⟩ := hrel
    by_cases hc : 1 < b - a
    · have hc' : 1 < (b : Int) - a := by omega
      obtain ⟨m, hm⟩ : ∃ m, m = (a + b) / 2 := ⟨_, rfl⟩
      have hm' : ((a : Int) + b) / 2 = (m : Int) := by rw [hm]; push_cast; rfl
      have hm1 : a < m := by omega
      have hm2 : m < b := by omega
      have hA : 1 ≤ ((a : Int) + b) / 2 := by omega
      have hB : 0 ≤ (n : Int) / (((a : Int) + b) / 2) := Int.ediv_nonneg (by omega) (by omega)
      have hC : (n : Int) / (((a : Int) + b) / 2) ≤ n := by rw [hm']; exact_mod_cast Nat.div_le_self n m
      have HM := Lib.hid hm'
      clear hm hm'
      by_cases hd : m ≤ n / m
      · have hd' : ((a : Int) + b) / 2 ≤ (n : Int) / (((a : Int) + b) / 2) := by rw [HM.out]; exact_mod_cast hd
        have hmm : m * m ≤ n := (Nat.le_div_iff_mul_le (by omega)).1 hd
        go_wp2
        rw [HM.out]
        go_round
        case rel => exact ⟨m, b, by omega, h2, hmm, h4, rfl, rfl⟩
        case measure => simp [intOf]; omega
      · have hd' : ¬ ((a : Int) + b) / 2 ≤ (n : Int) / (((a : Int) + b) / 2) := by rw [HM.out]; exact_mod_cast hd
        have hmm : n < m * m := by
          apply Nat.lt_of_not_le
          intro h
          exact hd ((Nat.le_div_iff_mul_le (by omega)).2 h)
        go_wp2
        rw [HM.out]
        go_round
        case rel => exact ⟨a, m, hm1, by omega, h3, hmm, rfl, rfl⟩
        case measure => simp [intOf]; omega
    · have hc' : ¬ 1 < (b : Int) - a := by omega
      go_wp2
      go_ret
      have e : b = a + 1 := by omega
      subst e
      exact ⟨ret_int (by rw [rt_of n a h3 h4]), rfl⟩
/- the root from above -/
def rtUp (n : Nat) : Int := if rt n * rt n < n then (rt n : Int) + 1 else rt n
theorem rootUp_yes (n : Nat) (w : World) (hs : n ≤ 4611686018427387904) :
    Calls Tryz.prog 271 #[.int .i64 n] w fun e w' => e = .returned (.int .i64 (rtUp n)) ∧ w = w' := by
  have hr := rt_lt n 2147483649 (by omega)
  have hr2 := (rt_spec n).1
  have hr3 : (rt n : Int) * (rt n : Int) ≤ n := by exact_mod_cast hr2
  have hr4 : 0 ≤ (rt n : Int) * (rt n : Int) := by exact_mod_cast Nat.zero_le _
  by_cases hc : rt n * rt n < n
  · have hc' : (rt n : Int) * (rt n : Int) < n := by exact_mod_cast hc
    have hf : rtUp n = rt n + 1 := by unfold rtUp; rw [if_pos hc]
    rw [hf]
    clear hf hc
    go_enter Tryz.func271, Tryz.ntmps271
    go_wp2_with (go_at_call 272; refine (root_yes _ _ hs).mono ?_; rintro e w' ⟨rfl, rfl⟩)
    go_ret
    exact ⟨rfl, rfl⟩
  · have hc' : ¬ (rt n : Int) * (rt n : Int) < n := by exact_mod_cast hc
    have hf : rtUp n = rt n := by unfold rtUp; rw [if_neg hc]
    rw [hf]
    clear hf hc
    go_enter Tryz.func271, Tryz.ntmps271
    go_wp2_with (go_at_call 272; refine (root_yes _ _ hs).mono ?_; rintro e w' ⟨rfl, rfl⟩)
    go_ret
    exact ⟨rfl, rfl⟩
end Go.Proofs.YtegibpepdndocabGreat
end
