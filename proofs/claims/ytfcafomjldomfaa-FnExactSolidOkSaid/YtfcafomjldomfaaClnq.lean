import Derived.Lib.SliceRun
import Derived.Test.YtfcafomjldomfaaMrkq
namespace Go.Proofs.Ytfcafomjldomfaa
open Go.ChangeShapes Go.WideShapes Go.ChangeAt Go.RowKit
set_option linter.unusedSimpArgs false
set_option linter.unusedVariables false
set_option maxHeartbeats 1000000

attribute [local go_sem] VGo_value VGo_skip VGo_enter
/- 'append(v, x...)' of elements that lie somewhere in a row -/
theorem append_from (wr : World) {ops : Array Oper} {rest : List Oper} {o : Oper} {a : Act} {Q : Exit → Act → World → Prop} (hgd : o.guard = none) (s x : Operand) (tS T : TypeId) (C bytes : Nat) (z : Value)
    (ho : o.op = .call { callee := .builtin .append, args := #[s, x], argTypes := #[tS, tS] }) (hu : Try.prog.underlying tS = some (.slice T)) (hinfo : (Try.prog.info? T).map (fun i => (i.zero, i.size, i.bytes)) = some (some z, C, bytes))
    (hz : z.cells.size = C) (hC0 : 0 < C) (B : Nat) (v : Value) (L news : List (List Value)) (hr : RowK wr B T C v L) (hs : a.eval s = v) (b off m c : Nat) (hx : a.eval x = .slice (some ⟨b, off, none⟩) m c)
    (hcs : ∀ j u, news.flatten[j]? = some u → wr.cell? ⟨b, off + j, none⟩ = some u) (hm : news.length = m) (hnew : ∀ y ∈ news, y.length = C) (h1 : ∀ u ∈ news.flatten, u.oneCell' = true) (hn : L.length + m < 1000000000) (hby : bytes ≤ 100000) (hB : B ≤ wr.heap.size)
    (hK : ∀ v' w', RowK w' B T C v' (L ++ news) → wr.grownBy w' v.ownBlock → wpList Try.prog ops Q rest (a.put o.dst v') w') :
    wpList Try.prog ops Q (o :: rest) a wr := by
  obtain ⟨i0, hi, hz0, hz1, hz2⟩ := info_parts hinfo
  refine wpList_append_own _ hgd s x tS ho B T i0 z C bytes hu hi hz0 hz1 hz2 hz hC0 v _ _ hs hr.own ⟨b, off, none⟩ m c news.flatten hx (by rw [flat_len hnew, hm]) ?_ h1 ?_ ?_ hB ?_
  · intro j u hu'
    rw [Addr.add_mid]; exact hcs j u hu'
  · unfold maxLen; omega
  · have : (L.length + m) * bytes ≤ 1000000000 * 100000 := Nat.mul_le_mul (by omega) hby
    omega
  · intro v' w' h2 h3 _
    refine hK v' w' ⟨?_, ?_⟩ h3
    · rw [List.length_append, List.flatten_append, hm]; exact h2
    · intro y hy
      rcases List.mem_append.1 hy with h4 | h4
      · exact hr.each y h4
      · exact hnew y h4
/- rows of parts of their own -/
abbrev PRow (w : World) (B : Nat) (v : Value) (l : List Pt) : Prop := RowK w B 55 27 v (l.map Pt.cells)
theorem pcells_len {l : List Pt} : ∀ x ∈ l.map Pt.cells, x.length = 27 := fun x hx => by obtain ⟨s, _, rfl⟩ := List.mem_map.1 hx; rfl
theorem pcells_one {l : List Pt} : ∀ u ∈ (l.map Pt.cells).flatten, u.oneCell' = true := fun u hu => by
  obtain ⟨x, hx, hux⟩ := List.mem_flatten.1 hu
  obtain ⟨s, _, rfl⟩ := List.mem_map.1 hx
  exact s.one u hux
theorem infoPt : (Try.prog.info? 55).map (fun i => (i.zero, i.size, i.bytes)) = some (some Pt.zero.val, 27, 200) := by kernel_rfl
/- cell by cell: a row's cells where they lie -/
theorem pflat (l : List Pt) (w : World) (b off : Nat) (hr : ∀ i (h : i < l.length), Pat w b (off + i * 27) l[i]) : ∀ j u, (l.map Pt.cells).flatten[j]? = some u → w.cell? ⟨b, off + j, none⟩ = some u := by
  intro j u hu
  have hlt : j < (l.map Pt.cells).flatten.length := (List.getElem?_eq_some_iff.1 hu).1
  rw [flat_len pcells_len, List.length_map] at hlt
  have hi : j / 27 < l.length := (Nat.div_lt_iff_lt_mul (by omega)).2 hlt
  have hm : j % 27 < 27 := Nat.mod_lt j (by omega)
  have e : j / 27 * 27 + j % 27 = j := Nat.div_add_mod' j 27
  have hg := flat_get (L := l.map Pt.cells) pcells_len (j / 27) (j % 27) (by simpa using hi) hm
  rw [e, hu] at hg
  have := hr (j / 27) hi (j % 27) u (by rw [hg]; simp)
  rwa [show off + j / 27 * 27 + j % 27 = off + j by omega] at this
theorem clone_any (l : List Pt) (b off c : Nat) (w : World) (h2 : l.length ≤ 1000000) (hr : ∀ i (h : i < l.length), Pat w b (off + i * 27) l[i]) :
    Calls Try.prog 54 #[.slice (some ⟨b, off, none⟩) l.length c] w fun e w' => ∃ v, e = .returned v ∧ PRow w' w.heap.size v l ∧ Below w.heap.size w w' := by
  have qT : ∀ (w : World) (a : Option Addr) (n c n' c' : Nat), (binOp .eql 25 (.slice a n c) (.slice none n' c')).run Try.prog w = .ok (.bool a.isNone) w := fun w a n c n' c' => Lib.run_eql_slice_nil w _ _ a n c n' c' Try.underlying25
  have HF : Hid (∀ j u, (l.map Pt.cells).flatten[j]? = some u → (w.alloc (.cells #[] 55)).cell? ⟨b, off + j, none⟩ = some u) := Lib.hid (pflat l _ b off (fun i hi => (hr i hi).below (lowAlloc (lowRefl w) _)))
  clear hr
  go_enter Try.func54, Try.ntmps54
  go_wp2_with (at_builtin; refine append_from _ rfl _ _ _ 55 27 200 Pt.zero.val rfl Try.underlying25 infoPt rfl (by omega) w.heap.size _ [] (l.map Pt.cells) (RowK.empty w w.heap.size 27 55 (Nat.le_refl _)) rfl b off l.length c rfl HF.out (by simp) pcells_len pcells_one (by simp; omega) (by omega) (by simp) ?_; intro v' w1 hr1 hg1)
  go_ret
  refine ⟨_, rfl, by simpa using hr1, (lowAlloc (lowRefl w) _).grown hg1 (by simp) (fun g hg => ?_)⟩
  simp [Value.ownBlock] at hg
  omega
end Go.Proofs.Ytfcafomjldomfaa
