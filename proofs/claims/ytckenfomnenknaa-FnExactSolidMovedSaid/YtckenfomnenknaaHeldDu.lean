import Derived.BigQuiet
import Derived.Deep.QuietTactic
import Derived.Laws.BitsAllLaws
import Derived.Laws.BitsLemmas
import Derived.Lib.AppendZeros
import Derived.Test.YtckenfomnenknaaIntsu
import Derived.Test.YtckenfomnenknaaRootu
import Derived.Test.YtckenfomnenknaaSpLu
import Derived.Test.YtckenfomnenknaaSpZu
section
namespace Go.Proofs.Ytckenfomnenknaa
open Go.ChangeShapes Go.WideShapes Go.ChangeAt Go.RowKit
set_option linter.unusedSimpArgs false
set_option linter.unusedVariables false
set_option maxHeartbeats 4000000

attribute [local go_sem] VGo_value VGo_skip VGo_enter
/- slices.Grow of the nil slice; slices.Concat of rows of parts -/
theorem rowNew (w : World) (cs : Array Value) (G : Nat) (hG : G ≤ maxLen) (hs : cs.size = G * 27) : PRow (w.drew.alloc (.cells cs 106)) w.heap.size (.slice (some ⟨w.heap.size, 0, none⟩) 0 G) [] :=
  ⟨⟨by simp, .inr ⟨w.heap.size, G, cs, rfl, Nat.le_refl _, Has.new w.drew cs 106, Nat.zero_le _, hG, hs, by simp⟩⟩, by simp⟩
theorem zcSize (n : Nat) : (Builtin.zeroCells Pt.zero.val.cells n).size = n * 27 := by simpa using zsLen n
set_option maxRecDepth 100000 in
theorem grow_any (n : Nat) (w : World) (h0 : 0 < n) (hn : n ≤ 4000000) : Calls Try.prog 132 #[.slice none 0 0, .int .i64 n] w fun e w' => ∃ v, e = .returned v ∧ PRow w' w.heap.size v [] ∧ Below w.heap.size w w' := by
  obtain ⟨i0, hi, hz0, hz1, hz2⟩ := info_parts infoPt
  have hrz : ∀ ty, (Builtin.append_ #[70, 3] ty #[.slice none 0 0, .int .i64 n]).run Try.prog w = _ := fun ty =>
    Lib.run_append_nil_zeros w 70 3 ty 106 i0 Pt.zero.val .i64 .i64 Try.underlying70 Try.underlying3 hi hz0 n h0 (by rw [hz1]; omega) (by omega) (by rw [hz2]; omega)
  have hG1 := grownCap_ge w n 0 106
  have hG2 : grownCap w n 0 106 ≤ maxLen := grownCap_le_maxLen w n 0 _ (by unfold maxLen; omega)
  generalize grownCap w n 0 106 = G at hrz hG1 hG2
  have hGb : G ≤ 9223372036854775807 := by unfold maxLen at hG2; omega
  have hR := Lib.hid (rowNew w (Builtin.zeroCells Pt.zero.val.cells n ++ Builtin.zeroCells Pt.zero.val.cells (G - n)) G hG2 (by rw [Array.size_append, zcSize, zcSize]; omega))
  clear hi hz0 hz1 hz2 hG2
  generalize (Builtin.zeroCells Pt.zero.val.cells n ++ Builtin.zeroCells Pt.zero.val.cells (G - n)) = cs at hrz hR
  go_enter Try.func132, Try.ntmps132
  go_wp2_with (at_builtin; refine Lib.wpList_append_run _ rfl _ _ _ _ rfl _ _ rfl rfl _ _ (hrz _) ?_)
  go_ret
  exact ⟨_, rfl, hR.out, lowAlloc (lowDrew (lowRefl w)) _⟩
/- rows seen, one behind another -/
def PIns (w : World) : List Value → List (List Pt) → Prop
  | [], [] => True
  | v :: vs, l :: ls => PIn w v l ∧ 0 < l.length ∧ PIns w vs ls
  | _, _ => False
theorem PIns.len {w : World} : ∀ {vs : List Value} {ls : List (List Pt)}, PIns w vs ls → vs.length = ls.length
  | [], [], _ => rfl
  | v :: vs, l :: ls, h => by simp [h.2.2.len]
  | [], _ :: _, h => h.elim
  | _ :: _, [], h => h.elim
theorem PIns.get {w : World} : ∀ {vs : List Value} {ls : List (List Pt)}, PIns w vs ls → ∀ (j : Nat) (hj : j < ls.length), ∃ v, vs[j]? = some v ∧ PIn w v ls[j] ∧ 0 < ls[j].length
  | [], [], _, j, hj => by simp at hj
  | v :: vs, l :: ls, h, 0, hj => ⟨v, rfl, h.1, h.2.1⟩
  | v :: vs, l :: ls, h, j + 1, hj => by simpa using h.2.2.get j (by simpa using hj)
  | [], _ :: _, h, _, _ => h.elim
  | _ :: _, [], h, _, _ => h.elim
theorem PIns.below {w w' : World} (hb : Below w.heap.size w w') : ∀ {vs : List Value} {ls : List (List Pt)}, PIns w vs ls → PIns w' vs ls
  | [], [], _ => trivial
  | v :: vs, l :: ls, h => ⟨h.1.below hb, h.2.1, h.2.2.below hb⟩
  | [], _ :: _, h => h.elim
  | _ :: _, [], h => h.elim
theorem flat_take_succ (ls : List (List Pt)) (j : Nat) (hj : j < ls.length) : (ls.take (j + 1)).flatten = (ls.take j).flatten ++ ls[j] := by
  rw [List.take_succ_eq_append_getElem hj, List.flatten_append]; simp
theorem flat_take_le (ls : List (List Pt)) (j : Nat) : (ls.take j).flatten.length ≤ ls.flatten.length := by
  have h := List.take_append_drop j ls
  rw [← congrArg (fun x => x.flatten.length) h]
  simp only [List.flatten_append, List.length_append]
  omega
def totL (ls : List (List Pt)) (j : Nat) : Nat := (ls.take j).flatten.length
theorem totL_all (ls : List (List Pt)) : totL ls ls.length = ls.flatten.length := by unfold totL; rw [List.take_length]
set_option maxRecDepth 100000 in
theorem concat_any (ls : List (List Pt)) (vs : List Value) (b c : Nat) (T : TypeId) (w : World) (hb : Has w b vs.toArray T) (hin : PIns w vs ls) (h0 : 0 < ls.length) (hk : ls.length ≤ 100) (hn : ls.flatten.length ≤ 4000000) :
    Calls Try.prog 92 #[.slice (some ⟨b, 0, none⟩) ls.length c] w fun e w' => ∃ v, e = .returned v ∧ PRow w' w.heap.size v ls.flatten ∧ Below w.heap.size w w' := by
  have HB := Lib.hid hb
  have HI := Lib.hid hin
  have hpos : 0 < ls.flatten.length := by
    have h1 := flat_take_succ ls 0 h0
    have h2 := flat_take_le ls 1
    obtain ⟨_, _, _, h3⟩ := hin.get 0 h0
    rw [h1, List.length_append] at h2
    omega
  have hpos2 : 0 < totL ls ls.length := by rw [totL_all]; exact hpos
  have hn2 : totL ls ls.length ≤ 4000000 := by rw [totL_all]; exact hn
  have HN := Lib.hid hn
  clear hb hin hpos hn
  go_enter Try.func92, Try.ntmps92
  go_wp2
  go_loop [3, 11] (fun s i => ∃ j : Nat, j ≤ ls.length ∧ i = .int .i64 j ∧ s = .int .i64 (totL ls j)) (fun _ i => ls.length - (intOf i).toNat)
  case atStart => exact ⟨0, by omega, rfl, rfl⟩
  case round =>
    obtain ⟨j, hj, rfl, rfl⟩ := hrel
    by_cases hc : j < ls.length
    · obtain ⟨v, hv, ⟨A, cv, rfl, -⟩, -⟩ := HI.out.get j hc
      have CJ : w.cell? ⟨b, j, none⟩ = some (.slice A ls[j].length cv) := by rw [Has.cell HB.out]; simpa using hv
      have E1 : totL ls (j + 1) = totL ls j + ls[j].length := by unfold totL; rw [flat_take_succ ls j hc, List.length_append]
      have E2 : totL ls j + ls[j].length ≤ 4000000 := by rw [← E1]; exact Nat.le_trans (flat_take_le ls (j + 1)) HN.out
      have EE := Lib.hid E1
      clear E1 hv
      generalize ls[j].length = m at CJ E2 EE
      generalize totL ls j = q at E2 EE
      have hq : ¬ ((q : Int) + (m : Int) < 0) := by omega
      go_wp2
      first | exact ⟨⟨j + 1, by omega, by go_num, by rw [EE.out]; simp⟩, by simp [intOf]; omega⟩ | (refine ⟨?_, by simp [intOf]; omega⟩; (repeat apply Exists.intro); exact ⟨⟨j + 1, by omega, by go_num, by rw [EE.out]; simp⟩, rfl⟩)
    · obtain rfl : j = ls.length := by omega
      go_upto_region 10 with (go_at_call 132; (with_reducible refine (grow_any _ _ hpos2 hn2).mono ?_); rintro e w1 ⟨v0, rfl, hr0, hb0⟩)
      go_wp2
      go_loopw [6, 27] (fun v i wr => ∃ j : Nat, j ≤ ls.length ∧ i = .int .i64 j ∧ PRow wr w.heap.size v (ls.take j).flatten ∧ Below w.heap.size w wr) (fun _ i _ => ls.length - (intOf i).toNat)
      case atStart => exact ⟨0, by omega, rfl, hr0, hb0⟩
      case round =>
        clear hr0 hb0
        obtain ⟨j, hj, rfl, hr, hb⟩ := hrel
        by_cases hc : j < ls.length
        · obtain ⟨v, hv, hp, hp0⟩ := (HI.out.below hb).get j hc
          obtain ⟨A, cv, rfl, hA⟩ := hp
          obtain ⟨ba, off, rfl, hf⟩ := hA hp0
          have CJ : wr.cell? ⟨b, j, none⟩ = some (.slice (some ⟨ba, off, none⟩) ls[j].length cv) := by rw [Has.cell (HB.out.below hb)]; simpa using hv
          have E1 := Lib.hid (flat_take_succ ls j hc)
          have HF := Lib.hid (pflat ls[j] wr ba off hf)
          have E2 := Lib.hid (flat_take_le ls (j + 1))
          have HR := Lib.hid hr
          have hs := hb.size
          have hq : (ls.take j).flatten.length + ls[j].length ≤ 4000000 := by
            have := E2.out; have h9 := HN.out; rw [E1.out, List.length_append] at this; omega
          clear hv hf hA hp0 hr
          generalize ls[j] = lj at CJ E1 HF hq
          go_wp2_with (at_builtin; refine append_from _ rfl _ _ _ 106 27 200 Pt.zero.val rfl Try.underlying70 infoPt rfl (by omega) w.heap.size _ _ (lj.map Pt.cells) HR.out rfl ba off lj.length cv rfl HF.out (by simp) pcells_len pcells_one (by rw [List.length_map]; omega) (by omega) hs ?_; intro v' w2 hr1 hg1)
          first | exact ⟨⟨j + 1, by omega, by go_num, by rw [E1.out]; unfold PRow; rw [List.map_append]; exact hr1, hb.grown hg1 hb.size (fun k hk => (HR.out.own.lt k hk).1)⟩, by simp [intOf]; omega⟩ | (refine ⟨?_, by simp [intOf]; omega⟩; (repeat apply Exists.intro); exact ⟨⟨j + 1, by omega, by go_num, by rw [E1.out]; unfold PRow; rw [List.map_append]; exact hr1, hb.grown hg1 hb.size (fun k hk => (HR.out.own.lt k hk).1)⟩, rfl⟩)
        · obtain rfl : j = ls.length := by omega
          rw [List.take_length] at hr
          go_wp2
          go_ret
          exact ⟨_, rfl, hr, hb⟩
end Go.Proofs.Ytckenfomnenknaa
end
section
namespace Go.Proofs.Ytckenfomnenknaa
open Go Go.RowKit

section
variable {P : Program} {ops : Array Oper} {Q : Exit → Act → World → Prop} {md : Region.Mode} {S : World → Prop}
theorem want_none {o : Oper} (h : o.guard.isNone = true) (y : Nat → Option Bool) : Region.wanted o y = true := by
  unfold Region.wanted
  cases hg : o.guard with
  | none => rfl
  | some x => rw [hg] at h; cases h
end
end Go.Proofs.Ytckenfomnenknaa
end
section
namespace Go.Proofs.Ytckenfomnenknaa
open Go.ChangeShapes Go.WideShapes Go.ChangeAt Go.RowKit

/- the bytes that a law gets -/
def Code (w : World) (B : Nat) (A : Option Addr) (n : Nat) : Prop :=
  0 < n → ∃ b off, A = some ⟨b, off, none⟩ ∧ b < B ∧ ∀ j, j < n → ∃ x : Int, 0 ≤ x ∧ x ≤ 255 ∧ w.cell? ⟨b, off + j, none⟩ = some (.int .u8 x)
theorem Code.keep {w w' : World} {B n : Nat} {A : Option Addr} (h : Code w B A n) (hk : ∀ b o, b < B → w'.cell? ⟨b, o, none⟩ = w.cell? ⟨b, o, none⟩) : Code w' B A n := fun hn => by
  obtain ⟨b, off, rfl, hb, hc⟩ := h hn
  refine ⟨b, off, rfl, hb, fun j hj => ?_⟩
  obtain ⟨x, h0, h1, h2⟩ := hc j hj
  exact ⟨x, h0, h1, (hk b _ hb).trans h2⟩
/- a reader of these bytes, in block g, that has been asked m times at most -/
structure Rd (w : World) (B g : Nat) (A : Option Addr) (n c m : Nat) : Prop where
  lo : B ≤ g
  len : n ≤ 2000
  cap : n ≤ c
  cells : ∃ p : Nat, p ≤ m ∧ w.heap[g]? = some (.cells #[.slice A n c, .int .i64 p] 125 (0, 0))
  code : Code w B A n
theorem Rd.mono {w : World} {B g n c m m' : Nat} {A : Option Addr} (h : Rd w B g A n c m) (hm : m ≤ m') : Rd w B g A n c m' := by
  obtain ⟨p, hp, hc⟩ := h.cells
  exact ⟨h.lo, h.len, h.cap, ⟨p, by omega, hc⟩, h.code⟩
theorem Rd.below {w w' : World} {B g n c m : Nat} {A : Option Addr} (h : Rd w B g A n c m) (hb : Below w.heap.size w w') : Rd w' B g A n c m := by
  obtain ⟨p, hp, hc⟩ := h.cells
  have hg : g < w.heap.size := (Array.getElem?_eq_some_iff.1 hc).1
  have hlo := h.lo
  exact ⟨h.lo, h.len, h.cap, ⟨p, hp, by rw [hb.block g hg]; exact hc⟩, h.code.keep fun b o hlt => hb.cell (p := ⟨b, o, none⟩) (Nat.lt_of_lt_of_le hlt (by omega))⟩
theorem Rd.drewN {w : World} {B g n c m : Nat} {A : Option Addr} (h : Rd w B g A n c m) (k : Nat) : Rd (w.drewN k) B g A n c m := ⟨h.lo, h.len, h.cap, h.cells, h.code⟩
theorem Rd.alloc {w : World} {B g n c m : Nat} {A : Option Addr} (h : Rd w B g A n c m) (o : Obj) : Rd (w.alloc o) B g A n c m := h.below ((Below.refl _ _).alloc (Nat.le_refl _) o)
theorem Rd.lt {w : World} {B g n c m : Nat} {A : Option Addr} (h : Rd w B g A n c m) : g < w.heap.size := by
  obtain ⟨p, hp, hc⟩ := h.cells
  exact (Array.getElem?_eq_some_iff.1 hc).1
end Go.Proofs.Ytckenfomnenknaa
end
section
namespace Go.Proofs.Ytckenfomnenknaa
open Go.ChangeShapes Go.WideShapes Go.ChangeAt Go.RowKit

theorem by_alloc {a w : World} {r : Option Nat} (h : a.grownBy w r) (o : Obj) : a.grownBy (w.alloc o) r := by_trans h (World.grownBy_alloc w o r)
/- the reader in world w, and what has happened since world a -/
structure St (a w : World) (B g : Nat) (A : Option Addr) (n c m : Nat) : Prop where
  rd : Rd w B g A n c m
  by_ : a.grownBy w (some g)
  lt : g < a.heap.size
section
variable {a w : World} {B g n c m : Nat} {A : Option Addr}
theorem St.alloc (h : St a w B g A n c m) (o : Obj) : St a (w.alloc o) B g A n c m := ⟨h.rd.alloc o, by_alloc h.by_ o, h.lt⟩
theorem St.start (h : Rd w B g A n c m) : St w w B g A n c m := ⟨h, World.grownBy.refl _ _, h.lt⟩
end
/- a function that draws one number: it returns a number in Q, and the reader has been asked m times at most -/
def Drew (Q : Int → Prop) (a : World) (B g : Nat) (A : Option Addr) (n c m : Nat) (e : Ending) (w' : World) : Prop :=
  ∃ z, e = .returned (.int .i64 z) ∧ Q z ∧ St a w' B g A n c m
theorem Drew.mk {Q : Int → Prop} {a w' : World} {B g n c m m' : Nat} {A : Option Addr} {z : Int} (h : St a w' B g A n c m) (hq : Q z) (hm : m ≤ m') : Drew Q a B g A n c m' (.returned (.int .i64 z)) w' :=
  ⟨z, rfl, hq, h.rd.mono hm, h.by_, h.lt⟩
end Go.Proofs.Ytckenfomnenknaa
end
section
namespace Go.Proofs.Ytckenfomnenknaa
open Go.ChangeShapes Go.WideShapes Go.ChangeAt Go.RowKit

/- the reader and blocks of one's own -/
/- a block of one's own stays while numbers are drawn -/
theorem Has.by_ {w w' : World} {b g : Nat} {cs : Array Value} {T : TypeId} (h : Has w b cs T) (hg : w.grownBy w' (some g)) (hne : b ≠ g) : Has w' b cs T := (hg.block b h.lt (by simpa using hne)).trans h
/- the reader stays while a block of one's own is set -/
theorem Rd.set {w : World} {B g b n c m : Nat} {A : Option Addr} (h : Rd w B g A n c m) (hB : B ≤ b) (hne : g ≠ b) (i : Nat) (v : Value) : Rd (w.setCell ⟨b, i, none⟩ v) B g A n c m := by
  obtain ⟨p, hp, hc⟩ := h.cells
  exact ⟨h.lo, h.len, h.cap, ⟨p, hp, (Below.heap_setCell w ⟨b, i, none⟩ v g hne).trans hc⟩, h.code.keep fun b' o hb => World.cell?_setCell_other w _ _ _ (fun e => by injection e with e1; omega)⟩
theorem Rd.call {w w' : World} {B g n c m : Nat} {A : Option Addr} (h : Rd w B g A n c m) (hb : Below w.heap.size w w') : Rd w' B g A n c m := h.below hb
/- the reader stays while a row of another type grows -/
theorem Rd.row {w w' : World} {B0 B C g n c m : Nat} {T : TypeId} {A : Option Addr} {v : Value} {L : List (List Value)} (hrd : Rd w B0 g A n c m) (h : RowK w B T C v L) (hT : T ≠ 125) (hB : B0 ≤ B) (hby : w.grownBy w' v.ownBlock) : Rd w' B0 g A n c m := by
  obtain ⟨p, hp, hc⟩ := hrd.cells
  have hlt := hrd.lt
  refine ⟨hrd.lo, hrd.len, hrd.cap, ⟨p, hp, ?_⟩, hrd.code.keep fun b o hlb => World.cell?_of_block (hby.block b (by have := hrd.lo; omega) (fun e => by have := (h.own.lt b e.symm).1; omega))⟩
  rw [hby.block g hlt (own_ne h.own (b := g) hc hT)]; exact hc
end Go.Proofs.Ytckenfomnenknaa
end
section
namespace Go.Proofs.Ytckenfomnenknaa
open Go Go.RowKit

/- the rule HeldC for a region of ten operations, as spec.l4Aimed has it; and one step of its chain -/
theorem upon_VGo2 {P : Program} {Q : Exit → Act → World → Prop} {o : Oper} {a : Act} {w : World} {K : Act → World → Prop}
    (h : VGo P (fun u x => K (a.put o.dst u) x) ((execOp a.eval o).run P w)) : o.wp P a w K Q := by
  unfold Oper.wp
  generalize (execOp a.eval o).run P w = r at *
  cases r with
  | ok n w' =>
    cases n <;> simp only [VGo, Oper.upon] at h ⊢
    case value u => exact h
    case skip => exact h
    case enter f args =>
      refine Calls.mono h fun e w'' he => ?_
      obtain ⟨u, rfl, hu⟩ := he
      exact hu
    all_goals exact h.elim
  | halt x w' => exact h.elim
end Go.Proofs.Ytckenfomnenknaa
end
