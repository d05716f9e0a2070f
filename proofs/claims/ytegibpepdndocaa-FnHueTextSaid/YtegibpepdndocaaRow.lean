
import Derived.Test.YtegibpepdndocaaInts
import Derived.Test.YtegibpepdndocaaHeld
import Derived.LoopN
import Derived.Deep.Cut
namespace Go.Proofs.Ytegibpepdndocaa
open Go.ChangeShapes Go.WideShapes Go.ChangeAt Go.RowKit

theorem addr_add (g j : Nat) : (⟨g, 0, none⟩ : Addr).add j = ⟨g, j, none⟩ := by unfold Addr.add; split <;> simp_all
/- a block of another type, or below the row's base, is not the row's -/
theorem own_ne {w : World} {B b n : Nat} {e T : TypeId} {v : Value} {xs : List Value} {cs : Array Value} {sz : Nat} (hr : w.ownsRow B e sz v n xs) (hb : Has w b cs T) (he : e ≠ T) : some b ≠ v.ownBlock := by
  rcases hr.2 with ⟨rfl, _⟩ | ⟨g, cap, cur, rfl, _, hg, _⟩
  · simp [Value.ownBlock]
  · intro h
    have : g = b := by simpa [Value.ownBlock] using h.symm
    subst this
    unfold Has at hb
    rw [hg] at hb
    simp only [Option.some.injEq, Obj.cells.injEq] at hb
    exact he hb.2.1
theorem own_lo {w : World} {B b n : Nat} {e : TypeId} {v : Value} {xs : List Value} {sz : Nat} (hr : w.ownsRow B e sz v n xs) (hb : b < B) : some b ≠ v.ownBlock := by
  intro h
  have := (hr.lt b h.symm).1
  omega
theorem own_fresh {w : World} {B n : Nat} {e : TypeId} {v : Value} {xs : List Value} {sz : Nat} (hr : w.ownsRow B e sz v n xs) : some w.heap.size ≠ v.ownBlock := by
  intro h
  have := (hr.lt _ h.symm).2
  omega
theorem Has.grown {w w' : World} {b : Nat} {cs : Array Value} {T : TypeId} {row : Option Nat} (h : Has w b cs T) (hg : w.grownBy w' row) (hne : some b ≠ row) : Has w' b cs T := (hg.block b h.lt hne).trans h
theorem own_below {w w' : World} {B n sz : Nat} {e : TypeId} {v : Value} {xs : List Value} (h : w.ownsRow B e sz v n xs) (hb : Below w.heap.size w w') : w'.ownsRow B e sz v n xs :=
  World.ownsRow.kept h (row := none) ⟨hb.os, hb.tape, hb.output, hb.size, fun k hk _ => hb.block k hk⟩ (by cases v.ownBlock <;> simp)
theorem own_set {w : World} {B n sz b i : Nat} {e : TypeId} {v u : Value} {xs : List Value} (h : w.ownsRow B e sz v n xs) (hne : some b ≠ v.ownBlock) : (w.setCell ⟨b, i, none⟩ u).ownsRow B e sz v n xs := by
  refine ⟨h.1, h.2.imp id fun ⟨g, cap, cur, hv, hg, hh, r⟩ => ⟨g, cap, cur, hv, hg, ?_, r⟩⟩
  subst hv
  exact (Below.heap_setCell w ⟨b, i, none⟩ u g (fun e => hne (by simp [Value.ownBlock, e]))).trans hh
theorem own_lift {w w' : World} {B n sz : Nat} {e : TypeId} {v : Value} {xs : List Value} (h : w.ownsRow B e sz v n xs) (hk : ∀ g, v.ownBlock = some g → g < w.heap.size → w'.heap[g]? = w.heap[g]?) : w'.ownsRow B e sz v n xs := by
  refine ⟨h.1, h.2.imp id fun ⟨g, cap, cur, hv, hg, hh, r⟩ => ⟨g, cap, cur, hv, hg, ?_, r⟩⟩
  subst hv
  exact (hk g rfl (Array.getElem?_eq_some_iff.1 hh).1).trans hh

theorem Has.as {w : World} {b : Nat} {cs cs' : Array Value} {T : TypeId} (h : Has w b cs T) (e : cs = cs') : Has w b cs' T := e ▸ h

/- a list of elements of K cells each, by index -/
theorem flat_len {K : Nat} : ∀ {L : List (List Value)}, (∀ x ∈ L, x.length = K) → L.flatten.length = L.length * K
  | [], _ => by simp
  | x :: L, h => by
    have := flat_len (L := L) (fun y hy => h y (by simp [hy]))
    rw [List.flatten_cons, List.length_append, this, h x (by simp), List.length_cons, Nat.succ_mul, Nat.add_comm]
theorem flat_get {K : Nat} : ∀ {L : List (List Value)}, (∀ x ∈ L, x.length = K) → ∀ (i c : Nat) (hi : i < L.length), c < K → L.flatten[i * K + c]? = (L[i])[c]?
  | x :: L, h, 0, c, _, hc => by
    rw [List.flatten_cons, Nat.zero_mul, Nat.zero_add, List.getElem?_append_left (by rw [h x (by simp)]; exact hc)]; rfl
  | x :: L, h, i + 1, c, hi, hc => by
    have hx := h x (by simp)
    rw [List.flatten_cons, List.getElem?_append_right (by rw [hx, Nat.succ_mul]; omega), hx, show (i + 1) * K + c - K = i * K + c by rw [Nat.succ_mul]; omega]
    exact flat_get (fun y hy => h y (by simp [hy])) i c (by simpa using hi) hc

/- the slice value v owns elements of K cells -/
structure RowK (w : World) (B : Nat) (T : TypeId) (K : Nat) (v : Value) (L : List (List Value)) : Prop where
  own : w.ownsRow B T K v L.length L.flatten
  each : ∀ x ∈ L, x.length = K
theorem RowK.shape {w : World} {B K : Nat} {T : TypeId} {v : Value} {L : List (List Value)} (h : RowK w B T K v L) : ∃ A c, v = .slice A L.length c ∧ (0 < L.length → ∃ g, A = some ⟨g, 0, none⟩ ∧ B ≤ g ∧ g < w.heap.size) ∧ (L.length = 0 → A = none ∧ c = 0 ∨ ∃ g, A = some ⟨g, 0, none⟩) := by
  rcases h.own.2 with ⟨h', hn⟩ | ⟨g, cap, cur, h', hb, hg, _⟩
  · exact ⟨none, 0, by rw [h', hn], fun h => by omega, fun _ => .inl ⟨rfl, rfl⟩⟩
  · exact ⟨some ⟨g, 0, none⟩, cap, h', fun _ => ⟨g, rfl, hb, (Array.getElem?_eq_some_iff.1 hg).1⟩, fun _ => .inr ⟨g, rfl⟩⟩
theorem RowK.cell {w : World} {B K g n c : Nat} {T : TypeId} {L : List (List Value)} (h : RowK w B T K (.slice (some ⟨g, 0, none⟩) n c) L) (hn : n = L.length) (i j : Nat) (hi : i < L.length) (hj : j < K) : w.cell? ⟨g, i * K + j, none⟩ = (L[i])[j]? := by
  subst hn
  have hlt : i * K + j < L.length * K := by
    have : (i + 1) * K ≤ L.length * K := Nat.mul_le_mul_right _ hi
    rw [Nat.succ_mul] at this; omega
  rw [World.ownsRow.cellAt h.own _ hlt, flat_get h.each i j hi hj]
theorem RowK.frozen {w : World} {B K g n c : Nat} {T : TypeId} {L : List (List Value)} (h : RowK w B T K (.slice (some ⟨g, 0, none⟩) n c) L) (hn : n = L.length) (k : Nat) : w.frozen? ⟨g, k, none⟩ = false := by
  subst hn; exact World.ownsRow.frozenAt h.own k
theorem RowK.below {w w' : World} {B K : Nat} {T : TypeId} {v : Value} {L : List (List Value)} (h : RowK w B T K v L) (hb : Below w.heap.size w w') : RowK w' B T K v L := ⟨own_below h.own hb, h.each⟩
theorem RowK.drew {w : World} {B K : Nat} {T : TypeId} {v : Value} {L : List (List Value)} (h : RowK w B T K v L) : RowK w.drew B T K v L := ⟨h.own, h.each⟩
theorem RowK.alloc {w : World} {B K : Nat} {T : TypeId} {v : Value} {L : List (List Value)} (h : RowK w B T K v L) (o : Obj) : RowK (w.alloc o) B T K v L := ⟨World.ownsRow.alloc h.own o, h.each⟩
theorem RowK.set {w : World} {B K b i : Nat} {T : TypeId} {v u : Value} {L : List (List Value)} (h : RowK w B T K v L) (hne : some b ≠ v.ownBlock) : RowK (w.setCell ⟨b, i, none⟩ u) B T K v L := ⟨own_set h.own hne, h.each⟩
theorem RowK.mono {w : World} {B B' K : Nat} {T : TypeId} {v : Value} {L : List (List Value)} (h : RowK w B T K v L) (hb : B' ≤ B) : RowK w B' T K v L := ⟨⟨h.own.1, h.own.2.imp id fun ⟨g, cap, cur, h1, h2, h3⟩ => ⟨g, cap, cur, h1, Nat.le_trans hb h2, h3⟩⟩, h.each⟩
theorem RowK.kept {w w' : World} {B K : Nat} {T : TypeId} {v : Value} {L : List (List Value)} {row : Option Nat} (h : RowK w B T K v L) (hg : w.grownBy w' row) (hne : v.ownBlock = none ∨ v.ownBlock ≠ row) : RowK w' B T K v L := ⟨World.ownsRow.kept h.own hg hne, h.each⟩
theorem RowK.nil (w : World) (B K : Nat) (T : TypeId) : RowK w B T K (.slice none 0 0) [] := ⟨⟨by simp, .inl ⟨rfl, rfl⟩⟩, by simp⟩
theorem RowK.empty (w : World) (B K : Nat) (T : TypeId) (hB : B ≤ w.heap.size) : RowK (w.alloc (.cells #[] T)) B T K (.slice (some ⟨w.heap.size, 0, none⟩) 0 0) [] :=
  ⟨World.ownsRow_lit w #[] 0 hB (by unfold maxLen; omega) (by simp), by simp⟩
/- a cell of an element is stored -/
theorem flat_set {K : Nat} : ∀ {L : List (List Value)}, (∀ x ∈ L, x.length = K) → ∀ (i c : Nat) (_ : i < L.length) (_ : c < K) (u : Value), L.flatten.set (i * K + c) u = (L.set i ((L.getD i []).set c u)).flatten
  | x :: L, h, 0, c, _, hc, u => by
    have hx := h x (by simp)
    simp only [Nat.zero_mul, Nat.zero_add, List.flatten_cons, List.set_cons_zero, List.getD_cons_zero]
    rw [List.set_append_left _ _ (by omega)]
  | x :: L, h, i + 1, c, hi, hc, u => by
    have hx := h x (by simp)
    simp only [List.flatten_cons, List.set_cons_succ, List.getD_cons_succ]
    rw [List.set_append_right _ _ (by rw [hx, Nat.succ_mul]; omega), hx, show (i + 1) * K + c - K = i * K + c by rw [Nat.succ_mul]; omega,
      flat_set (fun y hy => h y (by simp [hy])) i c (by simpa using hi) hc u]
theorem RowK.store {w : World} {B K g n c : Nat} {T : TypeId} {L : List (List Value)} (h : RowK w B T K (.slice (some ⟨g, 0, none⟩) n c) L) (hn : n = L.length) (i j : Nat) (hi : i < L.length) (hj : j < K) (u : Value) :
    RowK (w.setCell ⟨g, i * K + j, none⟩ u) B T K (.slice (some ⟨g, 0, none⟩) n c) (L.set i ((L.getD i []).set j u)) ∧ w.grownBy (w.setCell ⟨g, i * K + j, none⟩ u) (some g) := by
  subst hn
  have hs := World.ownsRow.stored h.own (i * K + j) u
  refine ⟨⟨?_, ?_⟩, hs.2⟩
  · rw [List.length_set, ← flat_set h.each i j hi hj u]; exact hs.1
  · intro x hx
    rcases List.mem_or_eq_of_mem_set hx with h1 | rfl
    · exact h.each x h1
    · rw [List.length_set, List.getD_eq_getElem?_getD, List.getElem?_eq_getElem hi]; exact h.each _ (List.getElem_mem hi)
/- 'append(v, x)' of one element that lies in a block of its own -/
theorem append_k (wr : World) {ops : Array Oper} {rest : List Oper} {o : Oper} {a : Act} {Q : Exit → Act → World → Prop} (hgd : o.guard = none) (s x : Operand) (tS T : TypeId) (K bytes : Nat) (z : Value)
    (ho : o.op = .call { callee := .builtin .append, args := #[s, x], argTypes := #[tS, tS] }) (hu : Try.prog.underlying tS = some (.slice T)) (hinfo : (Try.prog.info? T).map (fun i => (i.zero, i.size, i.bytes)) = some (some z, K, bytes))
    (hz : z.cells.size = K) (hK0 : 0 < K) (B : Nat) (v : Value) (L : List (List Value)) (new : List Value) (hr : RowK wr B T K v L) (hs : a.eval s = v) (b : Nat) (hx : a.eval x = .slice (some ⟨b, 0, none⟩) 1 1) (cs : Array Value) (Tb : TypeId) (hb : Has wr b cs Tb)
    (hcs : cs.toList = new) (hnew : new.length = K) (h1 : ∀ u ∈ new, u.oneCell' = true) (hn : L.length < 1000000000) (hby : bytes ≤ 100000) (hB : B ≤ wr.heap.size)
    (hK : ∀ v' w', RowK w' B T K v' (L ++ [new]) → wr.grownBy w' v.ownBlock → wpList Try.prog ops Q rest (a.put o.dst v') w') :
    wpList Try.prog ops Q (o :: rest) a wr := by
  obtain ⟨i0, hi, hz0, hz1, hz2⟩ := info_parts hinfo
  refine wpList_append_own _ hgd s x tS ho B T i0 z K bytes hu hi hz0 hz1 hz2 hz hK0 v _ _ hs hr.own ⟨b, 0, none⟩ 1 1 new hx (by rw [hnew, Nat.one_mul]) ?_ h1 ?_ ?_ hB ?_
  · intro j u hu'
    rw [addr_add, cell_of_row wr b j cs Tb (0, 0) hb, ← hu', ← hcs]
    simp
  · unfold maxLen; omega
  · have : (L.length + 1) * bytes ≤ 1000000000 * 100000 := Nat.mul_le_mul (by omega) hby
    omega
  · intro v' w' h2 h3 _
    refine hK v' w' ⟨?_, ?_⟩ h3
    · simpa using h2
    · intro y hy
      rcases List.mem_append.1 hy with h4 | h4
      · exact hr.each y h4
      · rw [List.mem_singleton] at h4; rw [h4]; exact hnew
/- the same as one operation: m elements that lie in a block -/
theorem append_wp (wr : World) {o : Oper} {a : Act} {K : Act → World → Prop} {Q : Exit → Act → World → Prop} (s x : Operand) (tS T : TypeId) (C bytes : Nat) (z : Value)
    (ho : o.op = .call { callee := .builtin .append, args := #[s, x], argTypes := #[tS, tS] }) (hu : Try.prog.underlying tS = some (.slice T)) (hinfo : (Try.prog.info? T).map (fun i => (i.zero, i.size, i.bytes)) = some (some z, C, bytes))
    (hz : z.cells.size = C) (hC0 : 0 < C) (B : Nat) (v : Value) (L news : List (List Value)) (hr : RowK wr B T C v L) (hs : a.eval s = v) (b m : Nat) (hx : a.eval x = .slice (some ⟨b, 0, none⟩) m m) (cs : Array Value) (Tb : TypeId) (hb : wr.heap[b]? = some (.cells cs Tb))
    (hcs : cs.toList = news.flatten) (hm : news.length = m) (hnew : ∀ y ∈ news, y.length = C) (h1 : ∀ u ∈ news.flatten, u.oneCell' = true) (hn : L.length + m < 1000000000) (hby : bytes ≤ 100000) (hB : B ≤ wr.heap.size)
    (hK : ∀ v' w', RowK w' B T C v' (L ++ news) → wr.grownBy w' v.ownBlock → K (a.put o.dst v') w') : o.wp Try.prog a wr K Q := by
  obtain ⟨i0, hi, hz0, hz1, hz2⟩ := info_parts hinfo
  refine wp_append_own wr s x tS ho B T i0 z C bytes hu hi hz0 hz1 hz2 hz hC0 v _ _ hs hr.own ⟨b, 0, none⟩ m m news.flatten hx (by rw [flat_len hnew, hm]) ?_ h1 ?_ ?_ hB ?_
  · intro j u hu'
    rw [addr_add, cell_of_row wr b j cs Tb (0, 0) hb, ← hu', ← hcs]
    simp
  · unfold maxLen; omega
  · have : (L.length + m) * bytes ≤ 1000000000 * 100000 := Nat.mul_le_mul (by omega) hby
    omega
  · intro v' w' h2 h3 _
    refine hK v' w' ⟨?_, ?_⟩ h3
    · rw [List.length_append, List.flatten_append, hm]; exact h2
    · intro y hy
      rcases List.mem_append.1 hy with h4 | h4
      · exact hr.each y h4
      · exact hnew y h4
/- 'make([]T, n)' -/
theorem made_flat (z : Array Value) (K n : Nat) (hz : z.size = K) (hK : 0 < K) : (madeCells z (n * K)).toList = (List.replicate n z.toList).flatten := by
  have he : ∀ x ∈ List.replicate n z.toList, x.length = K := fun x hx => by rw [List.eq_of_mem_replicate hx]; simpa using hz
  apply List.ext_getElem?
  intro i
  have e : i / K * K + i % K = i := Nat.div_add_mod' i K
  have hm := Nat.mod_lt i hK
  by_cases h : i / K < n
  · have h1 := flat_get he (i / K) (i % K) (by simpa using h) hm
    rw [e] at h1
    rw [h1]
    have hi : i < n * K := (Nat.div_lt_iff_lt_mul hK).1 h
    simp [madeCells, hi, hz, hm]
  · have hi : n * K ≤ i := by
      have := (Nat.le_div_iff_mul_le hK).1 (Nat.le_of_not_lt h); omega
    rw [List.getElem?_eq_none (by simp [madeCells]; omega), List.getElem?_eq_none (by rw [flat_len he, List.length_replicate]; exact hi)]
theorem make_k (w : World) {ops : Array Oper} {rest : List Oper} {o : Oper} {a : Act} {Q : Exit → Act → World → Prop}
    (hg : o.guard = none) (l c : Operand) (tS T : TypeId) (K bytes : Nat) (z : Value) (hop : o.op = Op.makeSlice tS l c)
    (hu : Try.prog.underlying tS = some (.slice T)) (hinfo : (Try.prog.info? T).map (fun i => (i.zero, i.size, i.bytes)) = some (some z, K, bytes)) (zs : List Value) (hz : z.cells.toList = zs) (hzK : zs.length = K) (hK0 : 0 < K)
    (B n : Nat) (hl : a.eval l = .int .i64 n) (hc : a.eval c = .int .i64 n) (hn : n ≤ 1000000000) (hby : bytes ≤ 100000) (hB : B ≤ w.heap.size)
    (hK : ∀ w', RowK w' B T K (.slice (some ⟨w.heap.size, 0, none⟩) n n) (List.replicate n zs) → w.grownBy w' none → wpList Try.prog ops Q rest (a.put o.dst (.slice (some ⟨w.heap.size, 0, none⟩) n n)) w') :
    wpList Try.prog ops Q (o :: rest) a w := by
  obtain ⟨i0, hi, hz0, hz1, hz2⟩ := info_parts hinfo
  subst hz
  refine wpList_make_full w hg l c tS hop B T i0 z K hu hi hz0 hz1 .i64 .i64 n n n hl hc rfl rfl ?_ ?_ hB ?_
  · rw [hz2]
    have : bytes * n ≤ 100000 * 1000000000 := Nat.mul_le_mul hby hn
    omega
  · unfold maxLen; omega
  · intro w' h1 h2
    refine hK w' ⟨?_, ?_⟩ h2
    · rw [made_flat z.cells K n (by simpa using hzK) hK0] at h1
      simpa using h1
    · intro x hx; rw [List.eq_of_mem_replicate hx]; exact hzK
theorem grown_none {a w w' : World} (h : Below a.heap.size a w) (hg : w.grownBy w' none) : Below a.heap.size a w' := h.grown hg h.size (fun k hk => by cases hk)
end Go.Proofs.Ytegibpepdndocaa
