
import Derived.Test.YtdjmeeknahdbbaaSpnM
import Derived.Test.YtdjmeeknahdbbaaRow
import Derived.Test.YtdjmeeknahdbbaaEnd
namespace Go.Proofs.Ytdjmeeknahdbbaa
open Go.ChangeShapes Go.WideShapes Go.ChangeAt Go.RowKit
set_option maxHeartbeats 1000000
set_option linter.unusedSimpArgs false

def Sp.cells (s : Sp) : List Value := [.int .i64 s.f, .int .i64 s.t, .int .i64 s.i, .int .i64 s.o]
abbrev Sp.val (s : Sp) : Value := .agg #[.int .i64 (s.f), .int .i64 (s.t), .int .i64 (s.i), .int .i64 (s.o)]
/- the four cells of a span from k on in block b -/
def Four (w : World) (b k : Nat) (s : Sp) : Prop :=
  w.cell? ⟨b, k, none⟩ = some (.int .i64 s.f) ∧ w.cell? ⟨b, k + 1, none⟩ = some (.int .i64 s.t) ∧ w.cell? ⟨b, k + 2, none⟩ = some (.int .i64 s.i) ∧ w.cell? ⟨b, k + 3, none⟩ = some (.int .i64 s.o)
theorem cell_lift {w w' : World} {a : Addr} {u : Value} (h : w.cell? a = some u) (he : w'.heap[a.block]? = w.heap[a.block]?) : w'.cell? a = some u := by rw [World.cell?_of_block he]; exact h
theorem Four.lift {w w' : World} {b k : Nat} {s : Sp} (h : Four w b k s) (he : w'.heap[b]? = w.heap[b]?) : Four w' b k s := by
  obtain ⟨h0, h1, h2, h3⟩ := h
  exact ⟨cell_lift h0 he, cell_lift h1 he, cell_lift h2 he, cell_lift h3 he⟩
theorem Four.lt {w : World} {b k : Nat} {s : Sp} (h : Four w b k s) : b < w.heap.size := block_lt_of_cell h.1
theorem Four.below {w w' : World} {b k : Nat} {s : Sp} (h : Four w b k s) (hb : Below w.heap.size w w') : Four w' b k s := h.lift (hb.block b h.lt)
/- the slice value v reads as spans -/
def SIn (w : World) (v : Value) (l : List Sp) : Prop := ∃ A c, v = .slice A l.length c ∧ (0 < l.length → ∃ b off, A = some ⟨b, off, none⟩ ∧ ∀ i (h : i < l.length), Four w b (off + i * 4) l[i])
theorem SIn.lift {w w' : World} {v : Value} {l : List Sp} (h : SIn w v l) (he : ∀ b, v.ownBlock = some b → b < w.heap.size → w'.heap[b]? = w.heap[b]?) : SIn w' v l := by
  obtain ⟨A, c, rfl, h⟩ := h
  refine ⟨A, c, rfl, fun h0 => ?_⟩
  obtain ⟨b, off, rfl, hf⟩ := h h0
  exact ⟨b, off, rfl, fun i hi => (hf i hi).lift (he b rfl (hf i hi).lt)⟩
theorem SIn.below {w w' : World} {v : Value} {l : List Sp} (h : SIn w v l) (hb : Below w.heap.size w w') : SIn w' v l := h.lift fun b _ hlt => hb.block b hlt
abbrev SRow (w : World) (B : Nat) (v : Value) (l : List Sp) : Prop := RowK w B 60 4 v (l.map Sp.cells)
theorem SRow.seen {w : World} {B : Nat} {v : Value} {l : List Sp} (h : SRow w B v l) : SIn w v l := by
  obtain ⟨A, c, rfl, hA, _⟩ := h.shape
  rw [List.length_map] at hA h ⊢
  refine ⟨A, c, rfl, fun h0 => ?_⟩
  obtain ⟨g, rfl, _⟩ := hA h0
  refine ⟨g, 0, rfl, fun i hi => ?_⟩
  have hc : ∀ j, j < 4 → w.cell? ⟨g, i * 4 + j, none⟩ = (l[i].cells)[j]? := fun j hj => by
    have := h.cell (by simp) i j (by simpa using hi) hj
    simpa using this
  rw [Nat.zero_add]
  exact ⟨hc 0 (by omega), hc 1 (by omega), hc 2 (by omega), hc 3 (by omega)⟩
theorem cells_len {l : List Sp} : ∀ x ∈ l.map Sp.cells, x.length = 4 := fun x hx => by obtain ⟨s, _, rfl⟩ := List.mem_map.1 hx; rfl
theorem SRow.shape0 {w : World} {B : Nat} {v : Value} {l : List Sp} (h : SRow w B v l) : ∃ A c, v = .slice A l.length c ∧ (0 < l.length → ∃ g, A = some ⟨g, 0, none⟩ ∧ B ≤ g ∧ g < w.heap.size) := by
  obtain ⟨A, c, hv, hA, _⟩ := h.shape
  rw [List.length_map] at hA hv
  exact ⟨A, c, hv, hA⟩
theorem SRow.four {w : World} {B g n c : Nat} {l : List Sp} (h : SRow w B (.slice (some ⟨g, 0, none⟩) n c) l) (hn : n = l.length) (i : Nat) (hi : i < l.length) : Four w g (i * 4) l[i] := by
  obtain ⟨A, c', hv, h'⟩ := h.seen
  subst hn
  simp only [Value.slice.injEq] at hv
  obtain ⟨b, off, hA, hf⟩ := h' (by omega)
  rw [← hv.1] at hA
  simp only [Option.some.injEq, Addr.mk.injEq] at hA
  obtain ⟨rfl, rfl, _⟩ := hA
  have := hf i hi
  rwa [Nat.zero_add] at this

theorem toSpan_any (s : Sp) (w : World) : Calls Try.prog 95 #[s.val] w fun e w' => e = .returned (s.val) ∧ Below w.heap.size w w' := by
  go_enter Try.func95, Try.ntmps95
  go_wp2
  refine bodyPost_has (b := w.heap.size + 1) (T := 60) ?hB (fun wE hE => ?hres) rfl ⟨rfl, ?hlow⟩; (case hB => (refine Has.as (by repeat' (first | with_reducible assumption | with_reducible apply Has.new | with_reducible apply Has.new1 | with_reducible apply Has.new2 | with_reducible apply Has.new3 | with_reducible apply Has.new4 | with_reducible apply Has.drew | with_reducible apply Has.drewN | with_reducible apply Has.alloc | with_reducible apply Has.same | with_reducible apply Has.other | (with_reducible show _ ≠ _; first | omega | (simp; done)))) ?_; first | (with_reducible rfl) | (simp only [List.setIfInBounds_toArray, List.set_cons_zero, List.set_cons_succ]; done) | (simp only [List.setIfInBounds_toArray, List.set_cons_zero, List.set_cons_succ]; rfl) | rfl | (simp; done))); (case hres => have cE := Has.cell hE; simp only [results, Try.results95, go_sem]; simp [go_sem, cE]; done); (case hlow => repeat' (first | with_reducible exact lowRefl _ | with_reducible apply lowSet | with_reducible apply lowDrew | with_reducible apply lowDrewN | with_reducible apply lowAlloc | (with_reducible refine lowCall ?_ (by assumption)) | (show (_ : Nat) ≤ _; first | (simp; done) | (simp; omega) | omega)))
theorem eqSpan_yes (s : Sp) (w : World) : Calls Try.prog 96 #[s.val, s.val] w fun e w' => e = .returned (.bool true) ∧ Below w.heap.size w w' := by
  go_enter Try.func96, Try.ntmps96
  go_wp2
  go_ret; refine ⟨rfl, ?_⟩; (repeat' (first | with_reducible exact lowRefl _ | with_reducible apply lowSet | with_reducible apply lowDrew | with_reducible apply lowDrewN | with_reducible apply lowAlloc | (with_reducible refine lowCall ?_ (by assumption)) | (show (_ : Nat) ≤ _; first | (simp; done) | (simp; omega) | omega)))
theorem szSpanS_any (A : Option Addr) (n c : Nat) (k : Int) (w : World) (h0 : 0 ≤ k) (hk : k ≤ 1048576) (hn : n ≤ 9223372036854775807) :
    Calls Try.prog 53 #[.slice A n c, .int .i64 k] w fun e w' => e = .returned (.int .i64 (if k - n < 0 then -1 else k - n)) ∧ w = w' := by
  go_enter Try.func53, Try.ntmps53
  by_cases h : k - n < 0
  · rw [if_pos h]
    go_wp2
    go_ret
    exact ⟨rfl, rfl⟩
  · rw [if_neg h]
    go_wp2
    go_ret
    exact ⟨rfl, rfl⟩
/- a span is written into a row -/
theorem SRow.store4 {w : World} {B g n c : Nat} {l : List Sp} (h : SRow w B (.slice (some ⟨g, 0, none⟩) n c) l) (hn : n = l.length) (i : Nat) (hi : i < l.length) (s : Sp) :
    SRow ((((w.setCell ⟨g, i * 4, none⟩ (.int .i64 s.f)).setCell ⟨g, i * 4 + 1, none⟩ (.int .i64 s.t)).setCell ⟨g, i * 4 + 2, none⟩ (.int .i64 s.i)).setCell ⟨g, i * 4 + 3, none⟩ (.int .i64 s.o)) B (.slice (some ⟨g, 0, none⟩) n c) (l.set i s) ∧
    w.grownBy ((((w.setCell ⟨g, i * 4, none⟩ (.int .i64 s.f)).setCell ⟨g, i * 4 + 1, none⟩ (.int .i64 s.t)).setCell ⟨g, i * 4 + 2, none⟩ (.int .i64 s.i)).setCell ⟨g, i * 4 + 3, none⟩ (.int .i64 s.o)) (some g) := by
  obtain ⟨h1, g1⟩ := h.store (by simpa using hn) i 0 (by simpa using hi) (by omega) (.int .i64 s.f)
  obtain ⟨h2, g2⟩ := h1.store (by simpa using hn) i 1 (by simpa using hi) (by omega) (.int .i64 s.t)
  obtain ⟨h3, g3⟩ := h2.store (by simpa using hn) i 2 (by simpa using hi) (by omega) (.int .i64 s.i)
  obtain ⟨h4, g4⟩ := h3.store (by simpa using hn) i 3 (by simpa using hi) (by omega) (.int .i64 s.o)
  refine ⟨?_, by_trans (by_trans (by_trans g1 g2) g3) g4⟩
  have e : (l.set i s).map Sp.cells = (l.map Sp.cells).set i s.cells := by rw [List.map_set]
  rw [SRow, e]
  simp only [Nat.add_zero, List.set_set, List.getD_eq_getElem?_getD, List.getElem?_set, List.length_set, List.length_map, hi, if_true, List.getElem?_map, List.getElem?_eq_getElem hi, Option.map_some, Option.getD_some, Sp.cells, List.set_cons_zero, List.set_cons_succ] at h4
  exact h4
theorem infoSp : (Try.prog.info? 60).map (fun i => (i.zero, i.size, i.bytes)) = some (some (.agg #[.int .i64 0, .int .i64 0, .int .i64 0, .int .i64 0]), 4, 32) := by kernel_rfl
end Go.Proofs.Ytdjmeeknahdbbaa
