
import Derived.Test.YtdjmeeknahdbbaaSpnB
import Derived.Test.YtdjmeeknahdbbaaHeldA
namespace Go.Proofs.Ytdjmeeknahdbbaa
open Go.ChangeShapes Go.WideShapes Go.ChangeAt Go.RowKit
set_option maxHeartbeats 1000000
set_option maxRecDepth 8000
set_option linter.unusedSimpArgs false
attribute [local go_sem] VGo_value VGo_skip VGo_enter

/- rows of integers as rows of elements of one cell -/
abbrev zcells (zs : List Int) : List (List Value) := zs.map fun z => [.int .i64 z]
abbrev ZRow (w : World) (B : Nat) (v : Value) (zs : List Int) : Prop := RowK w B 3 1 v (zcells zs)
theorem zcells_flat (zs : List Int) : (zcells zs).flatten = ints zs := by
  induction zs with
  | nil => rfl
  | cons z zs ih => simp only [zcells, ints, List.map_cons, List.flatten_cons] at ih ⊢; rw [ih]; rfl
theorem ZRow.row {w : World} {B : Nat} {v : Value} {zs : List Int} (h : ZRow w B v zs) : Row w B v zs := by
  have := h.own
  rw [zcells_flat, List.length_map] at this
  exact this
theorem ZRow.app {w : World} {B : Nat} {v : Value} {xs ys : List Int} (h : RowK w B 3 1 v (zcells xs ++ zcells ys)) : ZRow w B v (xs ++ ys) := by
  unfold ZRow zcells
  rw [List.map_append]
  exact h
theorem one_int {zs : List Int} : ∀ u ∈ (zcells zs).flatten, u.oneCell' = true := by
  intro u hu
  rw [zcells_flat] at hu
  obtain ⟨z, _, rfl⟩ := List.mem_map.1 hu
  rfl
theorem zcells_each {zs : List Int} : ∀ y ∈ zcells zs, y.length = 1 := by
  intro y hy
  obtain ⟨z, _, rfl⟩ := List.mem_map.1 hy
  rfl
def spEnds (l : List Sp) : List Int := l.flatMap fun s => [s.f, s.t]
theorem spEnds_len (l : List Sp) : (spEnds l).length = 2 * l.length := by
  induction l with
  | nil => rfl
  | cons s l ih => simp only [spEnds, List.flatMap_cons, List.length_append, List.length_cons, List.length_nil] at ih ⊢; omega
theorem spEnds_get : ∀ (l : List Sp) (k : Nat), k < 2 * l.length → (spEnds l)[k]? = some (spEn l k)
  | s :: l, 0, _ => by simp [spEnds, spEn]
  | s :: l, 1, _ => by simp [spEnds, spEn]
  | s :: l, k + 2, h => by
    have ih := spEnds_get l k (by simp only [List.length_cons] at h; omega)
    have e : spEn (s :: l) (k + 2) = spEn l k := by
      unfold spEn
      have h1 : (k + 2) % 2 = k % 2 := by omega
      have h2 : (k + 2) / 2 = k / 2 + 1 := by omega
      rw [h1, h2]; rfl
    rw [e, ← ih]; rfl
theorem spEnds_succ {l : List Sp} {j : Nat} (hj : j < l.length) : spEnds (l.take (j + 1)) = spEnds (l.take j) ++ [l[j].f, l[j].t] := by
  unfold spEnds
  rw [List.take_succ_eq_append_getElem hj, List.flatMap_append]
  simp
theorem l5Ends_any (l : List Sp) (v : Value) (w : World) (h : SIn w v l) (hl : l.length ≤ 100000) :
    Calls Try.prog 115 #[v] w fun e w' => ∃ v', e = .returned v' ∧ ZRow w' w.heap.size v' (spEnds l) ∧ Below w.heap.size w w' := by
  obtain ⟨A, c, rfl, hA⟩ := h
  have HA := Lib.hid hA
  clear hA
  go_enter Try.func115, Try.ntmps115
  go_upto_region 2 with fail
  have hr0 : ZRow (w.alloc (.cells #[] 3)) w.heap.size (.slice (some ⟨w.heap.size, 0, none⟩) 0 0) [] := RowK.empty w _ _ _ (Nat.le_refl _)
  have hb0 : Below w.heap.size w (w.alloc (.cells #[] 3)) := by repeat' (first | with_reducible exact lowRefl _ | with_reducible apply lowSet | with_reducible apply lowDrew | with_reducible apply lowDrewN | with_reducible apply lowAlloc | (with_reducible refine lowCall ?_ (by assumption)) | (show (_ : Nat) ≤ _; first | (simp; done) | (simp; omega) | omega))
  generalize w.alloc (.cells #[] 3) = w1 at *
  go_wp2
  go_loopw [3, 4] (fun o i wr => ∃ (j : Nat) (vo : Value), j ≤ l.length ∧ i = .int .i64 j ∧ vo = o ∧ ZRow wr w.heap.size vo (spEnds (l.take j)) ∧ Below w.heap.size w wr) (fun _ i _ => l.length - (intOf i).toNat)
  case atStart => exact ⟨0, _, by omega, rfl, rfl, by simpa [spEnds] using hr0, hb0⟩
  case round =>
    clear hr0 hb0
    obtain ⟨j, vo, hj, rfl, rfl, hr, hb⟩ := hrel
    by_cases hc : j < l.length
    · obtain ⟨b0, off, rfl, hf⟩ := HA.out (by omega)
      have f4 := hf j hc
      clear hf
      have hlt := f4.lt
      have NA : ∀ w', wr.drew.grownBy w' vo.ownBlock → Four w' b0 (off + j * 4) l[j] := fun w' hg =>
        (f4.below hb).lift (hg.block b0 (Nat.lt_of_lt_of_le hlt hb.size) (fun e => by have := (hr.own.lt b0 e.symm).1; omega))
      have hes := spEnds_succ hc
      have hlen : (spEnds (l.take j)).length ≤ 200000 := by rw [spEnds_len]; simp; omega
      generalize spEnds (l.take j) = zs at *
      go_upto_region 5 with fail
      refine wp_region_heldA 11 (by kernel_rfl) (by kernel_rfl) rfl rfl rfl (fun _ _ _ d _ h => by cases d <;> exact h) (fun w' => wr.drew.grownBy w' vo.ownBlock) (fun w' => ZRow w' w.heap.size vo zs) wr.heap.size grown_stab (fun w' h => h.size) (fun w1 w2 h k => h.below k) (World.grownBy.refl _ _) hr.drew ?_
      intro Fq hFq
      simp only [List.take_succ_cons, List.take_zero]
      repeat (first | (refine wpHeld_skip (by rfl) ?_; ((try simp only [Act.put, List.setIfInBounds_toArray, List.set_cons_zero, List.set_cons_succ]))) | (refine wpHeld_run ?_ rfl ?_ ?_; rotate_left; (focus (intro w' hbq Kq hKq; go_simp; (try (rw [IntWalk.i64_in]; rotate_left; focus (constructor <;> omega))); first | exact hKq _ (Below.refl _ _) | (obtain ⟨a0, a1, a2, a3⟩ := NA _ hbq; go_simp; exact hKq _ (Below.refl _ _)))); ((try simp only [Act.put, List.setIfInBounds_toArray, List.set_cons_zero, List.set_cons_succ]))))
      refine wpHeld_nil (hFq _ ⟨2, .cells #[.int .i64 l[j].f, .int .i64 l[j].t] 3, fun v' w' => ZRow w' w.heap.size v' (zs ++ [l[j].f, l[j].t]), fun v' w1 w2 h k => h.below k, rfl, ?_, fun _ => rfl, ?_, ?_⟩)
      · intro w' _ _ K hK
        go_simp
        exact hK
      · intro b w1 hS1 hF1 hN hB K hK
        refine append_wp w1 _ _ 61 3 1 8 _ rfl Try.underlying61 info rfl (by omega) w.heap.size vo _ (zcells [l[j].f, l[j].t]) hF1 rfl b 2 rfl _ _ hB rfl rfl zcells_each one_int (by rw [List.length_map]; omega) (by omega) (by have := hb.size; have := hS1.size; simp at this; omega) ?_
        intro v' w' h1 h2
        exact hK _ _ (by_trans hS1 h2) (ZRow.app h1)
      · intro b v' w1 hS1 hN hG1
        have hb2 : Below w.heap.size w w1 := (lowDrew hb).grown hS1 (by simpa using hb.size) (fun g hg => (World.ownsRow.lt hr.own g hg).1)
        rw [← hes] at hG1
        clear NA hr hFq f4
        go_wp2
        go_roundw
        case rel => exact ⟨j + 1, _, by omega, by go_num, rfl, hG1, hb2⟩
        case measure => simp [intOf]; omega
    · obtain rfl : j = l.length := by omega
      rw [List.take_length] at hr
      go_wp2
      go_ret
      exact ⟨_, rfl, hr, hb⟩
end Go.Proofs.Ytdjmeeknahdbbaa
