
import Derived.Test.YtdjmeeknahdbbaaSpnU
import Derived.Test.YtdjmeeknahdbbaaSpnL
import Derived.Test.YtdjmeeknahdbbaaSpnT
import Derived.Laws.AppendOwnNone
namespace Go.Proofs.Ytdjmeeknahdbbaa
open Go.ChangeShapes Go.WideShapes Go.ChangeAt Go.RowKit
set_option maxHeartbeats 4000000
set_option maxRecDepth 8000
set_option linter.unusedSimpArgs false
set_option linter.unusedVariables false
attribute [local go_sem] VGo_value VGo_skip VGo_enter

/- 'append(v, x...)', x any row, empty and nil too -/
theorem append_all (wr : World) {ops : Array Oper} {rest : List Oper} {o : Oper} {a : Act} {Q : Exit → Act → World → Prop} (hgd : o.guard = none) (s x : Operand)
    (ho : o.op = .call { callee := .builtin .append, args := #[s, x], argTypes := #[53, 53] })
    (B Bx : Nat) (v vx : Value) (l k : List Sp) (hr : SRow wr B v l) (hrx : SRow wr Bx vx k) (hs : a.eval s = v) (hx : a.eval x = vx) (hn : l.length < 1000000) (hk : k.length < 1000000) (hB : B ≤ wr.heap.size)
    (hK : ∀ v' w', SRow w' B v' (l ++ k) → wr.grownBy w' v.ownBlock → wpList Try.prog ops Q rest (a.put o.dst v') w') :
    wpList Try.prog ops Q (o :: rest) a wr := by
  obtain ⟨i0, hi, hz0, hz1, hz2⟩ := info_parts infoSp
  obtain ⟨A, c, hv, hA, hA0⟩ := hrx.shape
  rw [List.length_map] at hv hA hA0
  have some_case : ∀ g, A = some ⟨g, 0, none⟩ → wpList Try.prog ops Q (o :: rest) a wr := fun g hg => by
    subst hg
    subst hv
    refine wpList_append_own (w := wr) hgd s x 53 ho B 60 i0 (.agg #[.int .i64 0, .int .i64 0, .int .i64 0, .int .i64 0]) 4 32 Try.underlying53 hi hz0 hz1 hz2 rfl (by omega) v _ _ hs hr.own ⟨g, 0, none⟩ k.length c (k.map Sp.cells).flatten hx (by rw [flat_len cells_len, List.length_map]) ?_ ?_ ?_ ?_ hB ?_
    · intro j u hu
      exact World.ownsRow.cells hrx.own (g := g) rfl j u hu
    · intro u hu
      obtain ⟨y, hy, hu⟩ := List.mem_flatten.1 hu
      obtain ⟨sp, _, rfl⟩ := List.mem_map.1 hy
      exact sp_one u hu
    · unfold maxLen; rw [List.length_map]; omega
    · rw [List.length_map]; omega
    · intro v' w' h2 h3 _
      refine hK v' w' ⟨?_, cells_len⟩ h3
      rw [List.map_append, List.flatten_append, List.length_append, List.length_map, List.length_map]
      rw [List.length_map] at h2
      exact h2
  by_cases h0 : k.length = 0
  · rcases hA0 h0 with ⟨rfl, rfl⟩ | ⟨g, hg⟩
    · subst hv
      have hkn : k = [] := List.length_eq_zero_iff.1 h0
      subst hkn
      refine wpList_append_own_none (w := wr) hgd s x 53 ho B 60 i0 4 Try.underlying53 hi v _ _ hs hr.own hx ?_
      exact hK v wr (by simpa using hr) (World.grownBy.refl _ _)
    · exact some_case g hg
  · obtain ⟨g, hg, _⟩ := hA (by omega)
    exact some_case g hg
/- what the law asks of each part -/
theorem spAtOk_hits {l : List Sp} (h : sOk l = true) (t : Int) : decide (0 ≤ spAtOk l t) = hits l t := by
  unfold spAtOk; rw [h, if_pos rfl]; exact hits_at l t
theorem put_facts {op : Nat} {a b : List Sp} (ha : sOk a = true) (hb : sOk b = true) (hl : 2 * a.length + 2 * b.length ≤ 200) :
    spPut op a b = spTotal op a b ∧ sOk (spPut op a b) = true ∧ (spPut op a b).length ≤ 2 * a.length + 2 * b.length ∧ ∀ u, hits (spPut op a b) u = spHas op (hits a u) (hits b u) := by
  have hga := ((sOk_iff a).1 ha).2
  have hgb := ((sOk_iff b).1 hb).2
  have hle := total_le op a b
  have e : spPut op a b = spTotal op a b := by rw [spPut_yes ⟨ha, hb⟩]; exact told_le (by omega)
  obtain ⟨h1, h2⟩ := total_good (op := op) hga hgb
  rw [e]
  exact ⟨rfl, sOk_true ⟨by omega, h1.good.1⟩, hle, h2⟩
theorem spPut_le {op : Nat} {a b : List Sp} : (spPut op a b).length ≤ 200 := by
  unfold spPut; split
  · unfold putS spTold; split
    · simp
    · omega
  · simp
theorem spLong_ok {l : List Sp} (h : sOk l = true) : spLong l = spSum l ∧ 0 ≤ spSum l ∧ spSum l ≤ 429496729600 := by
  obtain ⟨h1, h2⟩ := (sOk_iff l).1 h
  have := spSum_bd h2 l.length (Nat.le_refl _)
  rw [List.take_length] at this
  unfold spLong
  rw [h, if_pos rfl]
  refine ⟨rfl, this.1, by omega⟩
end Go.Proofs.Ytdjmeeknahdbbaa
