
import Derived.Test.YtegibpepdndocaaHueA
import Derived.Test.YtegibpepdndocaaRow
import Derived.Test.YtegibpepdndocaaEnd
namespace Go.Proofs.Ytegibpepdndocaa
open Go.ChangeShapes Go.WideShapes Go.ChangeAt Go.RowKit
set_option maxHeartbeats 1000000
set_option linter.unusedSimpArgs false

/- a colour -/
structure Hu where
  r : Int
  g : Int
  b : Int
def Hu.z : Hu := ⟨0, 0, 0⟩
instance : Inhabited Hu := ⟨Hu.z⟩
def Hu.cells (s : Hu) : List Value := [.int .i64 s.r, .int .i64 s.g, .int .i64 s.b]
abbrev Hu.val (s : Hu) : Value := .agg #[.int .i64 (s.r), .int .i64 (s.g), .int .i64 (s.b)]
/- the three cells of a colour from k on in block b -/
def Tri (w : World) (b k : Nat) (s : Hu) : Prop :=
  w.cell? ⟨b, k, none⟩ = some (.int .i64 s.r) ∧ w.cell? ⟨b, k + 1, none⟩ = some (.int .i64 s.g) ∧ w.cell? ⟨b, k + 2, none⟩ = some (.int .i64 s.b)
theorem hcell_lift {w w' : World} {a : Addr} {u : Value} (h : w.cell? a = some u) (he : w'.heap[a.block]? = w.heap[a.block]?) : w'.cell? a = some u := by rw [World.cell?_of_block he]; exact h
theorem Tri.lift {w w' : World} {b k : Nat} {s : Hu} (h : Tri w b k s) (he : w'.heap[b]? = w.heap[b]?) : Tri w' b k s := by
  obtain ⟨h0, h1, h2⟩ := h
  exact ⟨hcell_lift h0 he, hcell_lift h1 he, hcell_lift h2 he⟩
theorem Tri.lt {w : World} {b k : Nat} {s : Hu} (h : Tri w b k s) : b < w.heap.size := block_lt_of_cell h.1
theorem Tri.below {w w' : World} {b k : Nat} {s : Hu} (h : Tri w b k s) (hb : Below w.heap.size w w') : Tri w' b k s := h.lift (hb.block b h.lt)
/- the slice value v reads as colours -/
def HuIn (w : World) (v : Value) (l : List Hu) : Prop := ∃ A c, v = .slice A l.length c ∧ (0 < l.length → ∃ b off, A = some ⟨b, off, none⟩ ∧ ∀ i (h : i < l.length), Tri w b (off + i * 3) l[i])
theorem HuIn.lift {w w' : World} {v : Value} {l : List Hu} (h : HuIn w v l) (he : ∀ b, v.ownBlock = some b → b < w.heap.size → w'.heap[b]? = w.heap[b]?) : HuIn w' v l := by
  obtain ⟨A, c, rfl, h⟩ := h
  refine ⟨A, c, rfl, fun h0 => ?_⟩
  obtain ⟨b, off, rfl, hf⟩ := h h0
  exact ⟨b, off, rfl, fun i hi => (hf i hi).lift (he b rfl (hf i hi).lt)⟩
theorem HuIn.below {w w' : World} {v : Value} {l : List Hu} (h : HuIn w v l) (hb : Below w.heap.size w w') : HuIn w' v l := h.lift fun b _ hlt => hb.block b hlt
abbrev HuRow (w : World) (B : Nat) (v : Value) (l : List Hu) : Prop := RowK w B 25 3 v (l.map Hu.cells)
theorem HuRow.seen {w : World} {B : Nat} {v : Value} {l : List Hu} (h : HuRow w B v l) : HuIn w v l := by
  obtain ⟨A, c, rfl, hA, _⟩ := h.shape
  rw [List.length_map] at hA h ⊢
  refine ⟨A, c, rfl, fun h0 => ?_⟩
  obtain ⟨g, rfl, _⟩ := hA h0
  refine ⟨g, 0, rfl, fun i hi => ?_⟩
  have hc : ∀ j, j < 3 → w.cell? ⟨g, i * 3 + j, none⟩ = (l[i].cells)[j]? := fun j hj => by
    have := h.cell (by simp) i j (by simpa using hi) hj
    simpa using this
  rw [Nat.zero_add]
  exact ⟨hc 0 (by omega), hc 1 (by omega), hc 2 (by omega)⟩
theorem hcells_len {l : List Hu} : ∀ x ∈ l.map Hu.cells, x.length = 3 := fun x hx => by obtain ⟨s, _, rfl⟩ := List.mem_map.1 hx; rfl
theorem HuRow.shape0 {w : World} {B : Nat} {v : Value} {l : List Hu} (h : HuRow w B v l) : ∃ A c, v = .slice A l.length c ∧ (0 < l.length → ∃ g, A = some ⟨g, 0, none⟩ ∧ B ≤ g ∧ g < w.heap.size) := by
  obtain ⟨A, c, hv, hA, _⟩ := h.shape
  rw [List.length_map] at hA hv
  exact ⟨A, c, hv, hA⟩
theorem HuRow.tri {w : World} {B g n c : Nat} {l : List Hu} (h : HuRow w B (.slice (some ⟨g, 0, none⟩) n c) l) (hn : n = l.length) (i : Nat) (hi : i < l.length) : Tri w g (i * 3) l[i] := by
  obtain ⟨A, c', hv, h'⟩ := h.seen
  subst hn
  simp only [Value.slice.injEq] at hv
  obtain ⟨b, off, hA, hf⟩ := h' (by omega)
  rw [← hv.1] at hA
  simp only [Option.some.injEq, Addr.mk.injEq] at hA
  obtain ⟨rfl, rfl, _⟩ := hA
  have := hf i hi
  rwa [Nat.zero_add] at this

theorem szHueS_any (A : Option Addr) (n c : Nat) (k : Int) (w : World) (h0 : 0 ≤ k) (hk : k ≤ 1048576) (hn : n ≤ 9223372036854775807) :
    Calls Try.prog 30 #[.slice A n c, .int .i64 k] w fun e w' => e = .returned (.int .i64 (if k - n < 0 then -1 else k - n)) ∧ w = w' := by
  go_enter Try.func30, Try.ntmps30
  by_cases h : k - n < 0
  · rw [if_pos h]
    go_wp2
    go_ret
    exact ⟨rfl, rfl⟩
  · rw [if_neg h]
    go_wp2
    go_ret
    exact ⟨rfl, rfl⟩
/- a colour is written into a row -/
theorem HuRow.store3 {w : World} {B g n c : Nat} {l : List Hu} (h : HuRow w B (.slice (some ⟨g, 0, none⟩) n c) l) (hn : n = l.length) (i : Nat) (hi : i < l.length) (s : Hu) :
    HuRow (((w.setCell ⟨g, i * 3, none⟩ (.int .i64 s.r)).setCell ⟨g, i * 3 + 1, none⟩ (.int .i64 s.g)).setCell ⟨g, i * 3 + 2, none⟩ (.int .i64 s.b)) B (.slice (some ⟨g, 0, none⟩) n c) (l.set i s) ∧
    w.grownBy (((w.setCell ⟨g, i * 3, none⟩ (.int .i64 s.r)).setCell ⟨g, i * 3 + 1, none⟩ (.int .i64 s.g)).setCell ⟨g, i * 3 + 2, none⟩ (.int .i64 s.b)) (some g) := by
  obtain ⟨h1, g1⟩ := h.store (by simpa using hn) i 0 (by simpa using hi) (by omega) (.int .i64 s.r)
  obtain ⟨h2, g2⟩ := h1.store (by simpa using hn) i 1 (by simpa using hi) (by omega) (.int .i64 s.g)
  obtain ⟨h3, g3⟩ := h2.store (by simpa using hn) i 2 (by simpa using hi) (by omega) (.int .i64 s.b)
  refine ⟨?_, by_trans (by_trans g1 g2) g3⟩
  have e : (l.set i s).map Hu.cells = (l.map Hu.cells).set i s.cells := by rw [List.map_set]
  rw [HuRow, e]
  simp only [Nat.add_zero, List.set_set, List.getD_eq_getElem?_getD, List.getElem?_set, List.length_set, List.length_map, hi, if_true, List.getElem?_map, List.getElem?_eq_getElem hi, Option.map_some, Option.getD_some, Hu.cells, List.set_cons_zero, List.set_cons_succ] at h3
  exact h3
theorem infoHu : (Try.prog.info? 25).map (fun i => (i.zero, i.size, i.bytes)) = some (some (.agg #[.int .i64 0, .int .i64 0, .int .i64 0]), 3, 24) := by kernel_rfl
theorem htake_set (l : List Hu) (j : Nat) (hj : j < l.length) (z : Hu) : (l.take j ++ List.replicate (l.length - j) z).set j l[j] = l.take (j + 1) ++ List.replicate (l.length - (j + 1)) z := by
  rw [List.set_append_right _ _ (by simp; omega)]
  have e : l.length - j = l.length - (j + 1) + 1 := by omega
  rw [e, List.replicate_succ, List.length_take, Nat.min_eq_left (by omega), Nat.sub_self, List.set_cons_zero, List.take_succ_eq_append_getElem hj, List.append_assoc]
  rfl
attribute [local go_sem] VGo_value VGo_skip VGo_enter
theorem toHueS_any (l : List Hu) (v : Value) (w : World) (h : HuIn w v l) (hl : l.length ≤ 1048576) :
    Calls Try.prog 32 #[v] w fun e w' => ∃ v', e = .returned v' ∧ HuRow w' w.heap.size v' l ∧ Below w.heap.size w w' := by
  obtain ⟨A, c, rfl, hA⟩ := h
  have HA := Lib.hid hA
  clear hA
  go_enter Try.func32, Try.ntmps32
  go_wp2_with (refine make_k _ rfl _ _ 39 25 3 24 _ rfl Try.underlying39 infoHu _ rfl rfl (by omega) w.heap.size l.length rfl rfl (by omega) (by omega) (Nat.le_refl _) ?_)
  intro w1 hr hg
  have hb := grown_none (lowRefl w) hg
  clear hg
  go_wp2
  go_loopw [4] (fun i wr => ∃ j : Nat, j ≤ l.length ∧ i = .int .i64 j ∧ HuRow wr w.heap.size (.slice (some ⟨w.heap.size, 0, none⟩) l.length l.length) (l.take j ++ List.replicate (l.length - j) Hu.z) ∧ Below w.heap.size w wr) (fun i _ => l.length - (intOf i).toNat)
  case atStart => exact ⟨0, by omega, rfl, ⟨by simpa [Hu.z, Hu.cells] using hr.own, hcells_len⟩, hb⟩
  case round =>
    clear hr hb
    obtain ⟨j, hj, rfl, hr, hb⟩ := hrel
    by_cases hc : j < l.length
    · obtain ⟨b, off, rfl, hf⟩ := HA.out (by omega)
      obtain ⟨c0, c1, c2⟩ := (hf j hc).below hb
      clear hf
      have hll : l.length = (l.take j ++ List.replicate (l.length - j) Hu.z).length := by simp; omega
      have Hll := Lib.hid hll
      clear hll
      go_wp2_with ((go_at_call 17; ((with_reducible refine (toHue_any l[j].r l[j].g l[j].b _).mono ?_); rintro e w' ⟨rfl, hbq⟩; (try (have B0 := Has.below (b := w.heap.size) (by repeat' (first | with_reducible assumption | with_reducible apply Has.new | with_reducible apply Has.new1 | with_reducible apply Has.new2 | with_reducible apply Has.new3 | with_reducible apply Has.new4 | with_reducible apply Has.drew | with_reducible apply Has.drewN | with_reducible apply Has.alloc | with_reducible apply Has.same | with_reducible apply Has.other | (with_reducible show _ ≠ _; first | omega | (simp; done)))) hbq; have C0 := Has.cell B0; have F0 := Has.frozen B0)); (try (have B1 := Has.below (b := w.heap.size + 1) (by repeat' (first | with_reducible assumption | with_reducible apply Has.new | with_reducible apply Has.new1 | with_reducible apply Has.new2 | with_reducible apply Has.new3 | with_reducible apply Has.new4 | with_reducible apply Has.drew | with_reducible apply Has.drewN | with_reducible apply Has.alloc | with_reducible apply Has.same | with_reducible apply Has.other | (with_reducible show _ ≠ _; first | omega | (simp; done)))) hbq; have C1 := Has.cell B1; have F1 := Has.frozen B1)); (try (have B2 := Has.below (b := w.heap.size + 1 + 1) (by repeat' (first | with_reducible assumption | with_reducible apply Has.new | with_reducible apply Has.new1 | with_reducible apply Has.new2 | with_reducible apply Has.new3 | with_reducible apply Has.new4 | with_reducible apply Has.drew | with_reducible apply Has.drewN | with_reducible apply Has.alloc | with_reducible apply Has.same | with_reducible apply Has.other | (with_reducible show _ ≠ _; first | omega | (simp; done)))) hbq; have C2 := Has.cell B2; have F2 := Has.frozen B2)); (try (have B3 := Has.below (b := w.heap.size + 1 + 1 + 1) (by repeat' (first | with_reducible assumption | with_reducible apply Has.new | with_reducible apply Has.new1 | with_reducible apply Has.new2 | with_reducible apply Has.new3 | with_reducible apply Has.new4 | with_reducible apply Has.drew | with_reducible apply Has.drewN | with_reducible apply Has.alloc | with_reducible apply Has.same | with_reducible apply Has.other | (with_reducible show _ ≠ _; first | omega | (simp; done)))) hbq; have C3 := Has.cell B3; have F3 := Has.frozen B3)); (try (have BX := Has.below (b := bX) (by repeat' (first | with_reducible assumption | with_reducible apply Has.new | with_reducible apply Has.new1 | with_reducible apply Has.new2 | with_reducible apply Has.new3 | with_reducible apply Has.new4 | with_reducible apply Has.drew | with_reducible apply Has.drewN | with_reducible apply Has.alloc | with_reducible apply Has.same | with_reducible apply Has.other | (with_reducible show _ ≠ _; first | omega | (simp; done)))) hbq; have CX := Has.cell BX; have FX := Has.frozen BX)); (try (have BY := Has.below (b := bY) (by repeat' (first | with_reducible assumption | with_reducible apply Has.new | with_reducible apply Has.new1 | with_reducible apply Has.new2 | with_reducible apply Has.new3 | with_reducible apply Has.new4 | with_reducible apply Has.drew | with_reducible apply Has.drewN | with_reducible apply Has.alloc | with_reducible apply Has.same | with_reducible apply Has.other | (with_reducible show _ ≠ _; first | omega | (simp; done)))) hbq; have CY := Has.cell BY; have FY := Has.frozen BY)))); have hr2 := hr.below hbq; obtain ⟨d0, d1, d2⟩ := HuRow.tri hr2 Hll.out j (by rw [← Hll.out]; exact hc); have fz := RowK.frozen hr2 (by simpa using Hll.out); clear hr)
      obtain ⟨h4, g4⟩ := HuRow.store3 hr2 Hll.out j (by rw [← Hll.out]; exact hc) l[j]
      rw [htake_set l j hc] at h4
      go_roundw
      case rel => exact ⟨j + 1, by omega, by go_num, h4, (lowCall hb hbq).grown g4 (lowCall hb hbq).size (fun k hk => by injection hk with hk; omega)⟩
      case measure => simp [intOf]; omega
    · obtain rfl : j = l.length := by omega
      go_wp2
      go_ret
      exact ⟨_, rfl, by simpa using hr, hb⟩
theorem eqHueS_yes (l : List Hu) (vA vB : Value) (w : World) (hA : HuIn w vA l) (hB : HuIn w vB l) (hl : l.length ≤ 9223372036854775807) :
    Calls Try.prog 34 #[vA, vB] w fun e w' => e = .returned (.bool true) ∧ Below w.heap.size w w' := by
  obtain ⟨A, c, rfl, fA⟩ := hA
  obtain ⟨B, d, rfl, fB⟩ := hB
  have FA := Lib.hid fA
  have FB := Lib.hid fB
  clear fA fB
  go_enter Try.func34, Try.ntmps34
  go_wp2
  go_loopw [5] (fun i wr => ∃ j : Nat, j ≤ l.length ∧ i = .int .i64 j ∧ Below w.heap.size w wr) (fun i _ => l.length - (intOf i).toNat)
  case atStart => exact ⟨0, by omega, rfl, lowRefl w⟩
  case round =>
    obtain ⟨j, hj, rfl, hb⟩ := hrel
    by_cases hc : j < l.length
    · obtain ⟨bA, oA, rfl, hA⟩ := FA.out (by omega)
      obtain ⟨bB, oB, rfl, hB⟩ := FB.out (by omega)
      have NA : ∀ w', Below wr.drew.heap.size wr.drew w' → Tri w' bA (oA + j * 3) l[j] := fun w' h => ((hA j hc).below hb).below (undrew h)
      have NB : ∀ w', Below wr.drew.heap.size wr.drew w' → Tri w' bB (oB + j * 3) l[j] := fun w' h => ((hB j hc).below hb).below (undrew h)
      clear hA hB
      go_wp2
      (refine wp_region_held0 (by kernel_rfl) (by kernel_rfl) (fun _ _ _ d _ h => by cases d <;> exact h) ?_; intro Fq hFq)
      repeat (first | (refine wpHeld_skip (by rfl) ?_; ((try simp only [Act.put, List.setIfInBounds_toArray, List.set_cons_zero, List.set_cons_succ]))) | (refine wpHeld_run ?_ rfl ?_ ?_; rotate_left; (focus (intro w' hbq Kq hKq; go_simp; (try (rw [IntWalk.i64_in]; rotate_left; focus (constructor <;> omega))); first | exact hKq _ (Below.refl _ _) | first | (go_at_call 21; ((with_reducible refine (eqHue_yes l[j].r l[j].g l[j].b _).mono ?_); rintro e w2 ⟨rfl, hbr⟩; refine back ?_; exact hKq _ hbr)) | (obtain ⟨a0, a1, a2⟩ := NA _ hbq; go_simp; exact hKq _ (Below.refl _ _)) | (obtain ⟨a0, a1, a2⟩ := NB _ hbq; go_simp; exact hKq _ (Below.refl _ _)))); ((try simp only [Act.put, List.setIfInBounds_toArray, List.set_cons_zero, List.set_cons_succ]))))
      (refine wpHeld_nil (hFq _ ?_); clear hFq; intro w' hbq; ((try (have B0 := Has.below (b := w.heap.size) (by repeat' (first | with_reducible assumption | with_reducible apply Has.new | with_reducible apply Has.new1 | with_reducible apply Has.new2 | with_reducible apply Has.new3 | with_reducible apply Has.new4 | with_reducible apply Has.drew | with_reducible apply Has.drewN | with_reducible apply Has.alloc | with_reducible apply Has.same | with_reducible apply Has.other | (with_reducible show _ ≠ _; first | omega | (simp; done)))) hbq; have C0 := Has.cell B0; have F0 := Has.frozen B0)); (try (have B1 := Has.below (b := w.heap.size + 1) (by repeat' (first | with_reducible assumption | with_reducible apply Has.new | with_reducible apply Has.new1 | with_reducible apply Has.new2 | with_reducible apply Has.new3 | with_reducible apply Has.new4 | with_reducible apply Has.drew | with_reducible apply Has.drewN | with_reducible apply Has.alloc | with_reducible apply Has.same | with_reducible apply Has.other | (with_reducible show _ ≠ _; first | omega | (simp; done)))) hbq; have C1 := Has.cell B1; have F1 := Has.frozen B1)); (try (have B2 := Has.below (b := w.heap.size + 1 + 1) (by repeat' (first | with_reducible assumption | with_reducible apply Has.new | with_reducible apply Has.new1 | with_reducible apply Has.new2 | with_reducible apply Has.new3 | with_reducible apply Has.new4 | with_reducible apply Has.drew | with_reducible apply Has.drewN | with_reducible apply Has.alloc | with_reducible apply Has.same | with_reducible apply Has.other | (with_reducible show _ ≠ _; first | omega | (simp; done)))) hbq; have C2 := Has.cell B2; have F2 := Has.frozen B2)); (try (have B3 := Has.below (b := w.heap.size + 1 + 1 + 1) (by repeat' (first | with_reducible assumption | with_reducible apply Has.new | with_reducible apply Has.new1 | with_reducible apply Has.new2 | with_reducible apply Has.new3 | with_reducible apply Has.new4 | with_reducible apply Has.drew | with_reducible apply Has.drewN | with_reducible apply Has.alloc | with_reducible apply Has.same | with_reducible apply Has.other | (with_reducible show _ ≠ _; first | omega | (simp; done)))) hbq; have C3 := Has.cell B3; have F3 := Has.frozen B3)); (try (have BX := Has.below (b := bX) (by repeat' (first | with_reducible assumption | with_reducible apply Has.new | with_reducible apply Has.new1 | with_reducible apply Has.new2 | with_reducible apply Has.new3 | with_reducible apply Has.new4 | with_reducible apply Has.drew | with_reducible apply Has.drewN | with_reducible apply Has.alloc | with_reducible apply Has.same | with_reducible apply Has.other | (with_reducible show _ ≠ _; first | omega | (simp; done)))) hbq; have CX := Has.cell BX; have FX := Has.frozen BX)); (try (have BY := Has.below (b := bY) (by repeat' (first | with_reducible assumption | with_reducible apply Has.new | with_reducible apply Has.new1 | with_reducible apply Has.new2 | with_reducible apply Has.new3 | with_reducible apply Has.new4 | with_reducible apply Has.drew | with_reducible apply Has.drewN | with_reducible apply Has.alloc | with_reducible apply Has.same | with_reducible apply Has.other | (with_reducible show _ ≠ _; first | omega | (simp; done)))) hbq; have CY := Has.cell BY; have FY := Has.frozen BY))))
      go_wp2
      go_roundw
      case rel => exact ⟨j + 1, by omega, by go_num, lowCall hb (undrew hbq)⟩
      case measure => simp [intOf]; omega
    · obtain rfl : j = l.length := by omega
      go_wp2
      go_ret
      exact ⟨rfl, hb⟩
end Go.Proofs.Ytegibpepdndocaa
