import Derived.BigQuiet
import Derived.Deep.QuietTactic
import Derived.Laws.BitsAllLaws
import Derived.Laws.BitsLemmas
import Derived.Shelf.Abstract
import Derived.Test.YtegibpepdndocabGreatBoxb
import Derived.Test.YtegibpepdndocabGreatIntsb
import Derived.Test.YtegibpepdndocabGreatRayBb
import Derived.Test.YtegibpepdndocabGreatRootb
import Derived.Test.YtegibpepdndocabGreatSpLb
section
namespace Go.Proofs.YtegibpepdndocabGreat
open Go.ChangeShapes Go.WideShapes Go.ChangeAt Go.RowKit
set_option linter.unusedSimpArgs false
set_option linter.unusedVariables false
set_option maxHeartbeats 4000000

attribute [local go_sem] VGo_value VGo_skip VGo_enter
/- shapes of solids: what the program's interface values hold -/
inductive Sh where
  | half (q : Qd) (s : Int)
  | ball (q : Qd) (s : Int)
  | box (x : Sx) (s : Int)
  | either (a b : Sh)
  | both (a b : Sh)
  | less (a b : Sh)
def Sh.val : Sh → Value
  | .half q s => .iface 246 (.agg #[.int .i64 q.f, .int .i64 q.t, .int .i64 q.i, .int .i64 q.o, .int .i64 s])
  | .ball q s => .iface 248 (.agg #[.int .i64 q.f, .int .i64 q.t, .int .i64 q.i, .int .i64 q.o, .int .i64 s])
  | .box x s => .iface 250 (.agg #[.int .i64 x.a, .int .i64 x.b, .int .i64 x.c, .int .i64 x.d, .int .i64 x.e, .int .i64 x.f, .int .i64 s])
  | .either a b => .iface 252 (.agg #[a.val, b.val])
  | .both a b => .iface 253 (.agg #[a.val, b.val])
  | .less a b => .iface 254 (.agg #[a.val, b.val])
def Sh.rcv : Sh → Value
  | .half q s => .agg #[.int .i64 q.f, .int .i64 q.t, .int .i64 q.i, .int .i64 q.o, .int .i64 s]
  | .ball q s => .agg #[.int .i64 q.f, .int .i64 q.t, .int .i64 q.i, .int .i64 q.o, .int .i64 s]
  | .box x s => .agg #[.int .i64 x.a, .int .i64 x.b, .int .i64 x.c, .int .i64 x.d, .int .i64 x.e, .int .i64 x.f, .int .i64 s]
  | .either a b => .agg #[a.val, b.val]
  | .both a b => .agg #[a.val, b.val]
  | .less a b => .agg #[a.val, b.val]
def Sh.hasF : Sh → FuncId
  | .half _ _ => 261
  | .ball _ _ => 267
  | .box _ _ => 278
  | .either _ _ => 281
  | .both _ _ => 285
  | .less _ _ => 289
def Sh.cutF : Sh → FuncId
  | .half _ _ => 260
  | .ball _ _ => 266
  | .box _ _ => 277
  | .either _ _ => 280
  | .both _ _ => 284
  | .less _ _ => 288
def Sh.boxF : Sh → FuncId
  | .half _ _ => 259
  | .ball _ _ => 265
  | .box _ _ => 276
  | .either _ _ => 279
  | .both _ _ => 283
  | .less _ _ => 287
theorem cmHas (s : Sh) (args : Array Value) (w : World) : (callMethod s.val "loop.example/wholelight/impl.has" args).run Tryz.prog w = .ok (.enter s.hasF (#[s.rcv] ++ args)) w := by cases s <;> kernel_rfl
theorem cmCut (s : Sh) (args : Array Value) (w : World) : (callMethod s.val "loop.example/wholelight/impl.cut" args).run Tryz.prog w = .ok (.enter s.cutF (#[s.rcv] ++ args)) w := by cases s <;> kernel_rfl
theorem cmBox (s : Sh) (args : Array Value) (w : World) : (callMethod s.val "loop.example/wholelight/impl.around" args).run Tryz.prog w = .ok (.enter s.boxF (#[s.rcv] ++ args)) w := by cases s <;> kernel_rfl
attribute [-go_sem] callMethod
attribute [local go_sem] cmHas cmCut cmBox
theorem Sh.one (s : Sh) : s.val.oneCell' = true := by cases s <;> rfl
def Sh.ok : Sh → Prop
  | .half q _ => q.hok
  | .ball q _ => q.bok
  | .box x _ => x.ok ∧ x.near
  | .either a b => a.ok ∧ b.ok
  | .both a b => a.ok ∧ b.ok
  | .less a b => a.ok ∧ b.ok
/- the places that a leaf has -/
def hHas (q : Qd) (x y z : Int) : Prop := dot3 q.f q.t q.i x y z ≤ q.o
def bHas (q : Qd) (x y z : Int) : Prop := dot3 (x - q.f) (y - q.t) (z - q.i) (x - q.f) (y - q.t) (z - q.i) ≤ q.o * q.o
def xHas (s : Sx) (x y z : Int) : Prop := Le3 s.a s.b s.c x y z ∧ Le3 x y z s.d s.e s.f
noncomputable def Sh.has (x y z : Int) : Sh → Bool
  | .half q _ => dec (hHas q x y z)
  | .ball q _ => dec (bHas q x y z)
  | .box s _ => dec (xHas s x y z)
  | .either a b => a.has x y z || b.has x y z
  | .both a b => a.has x y z && b.has x y z
  | .less a b => a.has x y z && !b.has x y z
/- the shape of each part -/
def Sh.none : Sh := .half ⟨0, 0, 0, 0⟩ 0
def mkSh (p : Pt) (n : Int) (L : List Sh) : Sh :=
  if p.k = 0 then .half p.h n else if p.k = 1 then .ball p.b n else if p.k = 2 then .box p.x n
  else if p.k = 3 then .either (L.getD p.A.toNat Sh.none) (L.getD p.B.toNat Sh.none)
  else if p.k = 4 then .both (L.getD p.A.toNat Sh.none) (L.getD p.B.toNat Sh.none)
  else if p.k = 5 then .less (L.getD p.A.toNat Sh.none) (L.getD p.B.toNat Sh.none)
  else L.getD p.A.toNat Sh.none
def shs (ps : List Pt) : Nat → List Sh
  | 0 => []
  | j + 1 => shs ps j ++ [mkSh (ps.getD j Pt.zero) ((j : Int) + 1) (shs ps j)]
theorem shs_len (ps : List Pt) : ∀ j, (shs ps j).length = j
  | 0 => rfl
  | j + 1 => by simp [shs, shs_len ps j]
def shp (ps : List Pt) (i : Nat) : Sh := mkSh (ps.getD i Pt.zero) ((i : Int) + 1) (shs ps i)
theorem shs_get (ps : List Pt) : ∀ (j i : Nat), i < j → (shs ps j).getD i Sh.none = shp ps i
  | 0, i, h => by omega
  | j + 1, i, h => by
    have hl := shs_len ps j
    simp only [shs, List.getD_eq_getElem?_getD]
    by_cases e : i = j
    · subst e
      rw [List.getElem?_append_right (by omega), hl, Nat.sub_self]; rfl
    · rw [List.getElem?_append_left (by omega), ← List.getD_eq_getElem?_getD, shs_get ps j i (by omega)]
/- parts whose leaves stand, each made of parts ahead of it -/
def Wf (ps : List Pt) : Prop := ∀ i (h : i < ps.length), (0 ≤ ps[i].k ∧ ps[i].k ≤ 6) ∧ (3 ≤ ps[i].k → 0 ≤ ps[i].A ∧ ps[i].A < i) ∧ (3 ≤ ps[i].k → ps[i].k ≤ 5 → 0 ≤ ps[i].B ∧ ps[i].B < i) ∧ LeafP ps[i]
theorem wf_lvs {l : List Pt} (h : SolidP l) : Wf (lvs l) := by
  intro i hi
  have hi' : i < l.length := by rw [lvs_len] at hi; exact hi
  have e : (lvs l)[i] = lv l i := by simp [lvs]
  have hp : pa l i = l[i] := pa_get l i hi'
  obtain ⟨hP, hL⟩ := h.1.2.1 i hi' hi'
  rw [← hp] at hP hL
  have hlf := h.2.2 i hi'
  rw [e]
  have hk : (lv l i).k = (pa l i).k := by
    unfold lv
    split
    · exact leafAt_k _ _
    · rfl
  have hm : ¬ (pa l i).k ≤ 2 → lv l i = pa l i := fun h => by unfold lv; rw [if_neg h]
  rw [hk]
  refine ⟨hP.1, fun h3 => ?_, fun h3 h5 => ?_, ?_⟩
  · rw [hm (by omega)]
    by_cases h5 : (pa l i).k ≤ 5
    · rw [made_two _ h3 h5] at hL; exact hL.1
    · rw [made_one _ (by have := hP.1; omega)] at hL; exact hL.1
  · rw [hm (by omega)]
    rw [made_two _ h3 h5] at hL; exact hL.2.2.1
  · by_cases h2 : (pa l i).k ≤ 2
    · have := hlf h2
      unfold lv; rw [if_pos h2]; exact this
    · rw [hm h2]
      exact ⟨fun h => by omega, fun h => by omega, fun h => by omega⟩
theorem shp_at (ps : List Pt) (i : Nat) (hi : i < ps.length) : shp ps i = mkSh ps[i] ((i : Int) + 1) (shs ps i) := by
  unfold shp; rw [List.getD_eq_getElem?_getD, List.getElem?_eq_getElem hi]; rfl
theorem shp_ok {ps : List Pt} (hw : Wf ps) : ∀ (n i : Nat), i < n → i < ps.length → (shp ps i).ok
  | 0, i, h, _ => by omega
  | n + 1, i, h, hi => by
    obtain ⟨hk, ha, hb, hl⟩ := hw i hi
    rw [shp_at ps i hi]
    have hA : 3 ≤ ps[i].k → ((shs ps i).getD ps[i].A.toNat Sh.none).ok := fun h3 => by
      have := ha h3
      rw [shs_get ps i _ (by omega)]
      exact shp_ok hw n _ (by omega) (by omega)
    have hB : 3 ≤ ps[i].k → ps[i].k ≤ 5 → ((shs ps i).getD ps[i].B.toNat Sh.none).ok := fun h3 h5 => by
      have := hb h3 h5
      rw [shs_get ps i _ (by omega)]
      exact shp_ok hw n _ (by omega) (by omega)
    unfold mkSh
    split
    · rename_i h0; exact hl.1 h0
    split
    · rename_i h0; exact hl.2.1 h0
    split
    · rename_i h0; exact hl.2.2 h0
    split
    · exact ⟨hA (by omega), hB (by omega) (by omega)⟩
    split
    · exact ⟨hA (by omega), hB (by omega) (by omega)⟩
    split
    · exact ⟨hA (by omega), hB (by omega) (by omega)⟩
    · exact hA (by omega)
end Go.Proofs.YtegibpepdndocabGreat
end
section
namespace Go.Proofs.YtegibpepdndocabGreat
open Go.ChangeShapes Go.WideShapes Go.ChangeAt Go.RowKit

/- the bytes that a law gets -/
def Code (w : World) (B : Nat) (A : Option Addr) (n : Nat) : Prop :=
  0 < n → ∃ b off, A = some ⟨b, off, none⟩ ∧ b < B ∧ ∀ j, j < n → ∃ x : Int, 0 ≤ x ∧ x ≤ 255 ∧ w.cell? ⟨b, off + j, none⟩ = some (.int .u8 x)
theorem Code.keep {w w' : World} {B n : Nat} {A : Option Addr} (h : Code w B A n) (hk : ∀ b o, b < B → w'.cell? ⟨b, o, none⟩ = w.cell? ⟨b, o, none⟩) : Code w' B A n := fun hn => by
  obtain ⟨b, off, rfl, hb, hc⟩ := h hn
  refine ⟨b, off, rfl, hb, fun j hj => ?_⟩
  obtain ⟨x, h0, h1, h2⟩ := hc j hj
  exact ⟨x, h0, h1, (hk b _ hb).trans h2⟩
/- a reader of these bytes, in block g, that has been asked m times at most -/
structure Rd (w : World) (B g : Nat) (A : Option Addr) (n c m : Nat) : Prop where
  lo : B ≤ g
  len : n ≤ 2000
  cap : n ≤ c
  cells : ∃ p : Nat, p ≤ m ∧ w.heap[g]? = some (.cells #[.slice A n c, .int .i64 p] 192 (0, 0))
  code : Code w B A n
theorem Rd.mono {w : World} {B g n c m m' : Nat} {A : Option Addr} (h : Rd w B g A n c m) (hm : m ≤ m') : Rd w B g A n c m' := by
  obtain ⟨p, hp, hc⟩ := h.cells
  exact ⟨h.lo, h.len, h.cap, ⟨p, by omega, hc⟩, h.code⟩
theorem Rd.below {w w' : World} {B g n c m : Nat} {A : Option Addr} (h : Rd w B g A n c m) (hb : Below w.heap.size w w') : Rd w' B g A n c m := by
  obtain ⟨p, hp, hc⟩ := h.cells
  have hg : g < w.heap.size := (Array.getElem?_eq_some_iff.1 hc).1
  have hlo := h.lo
  exact ⟨h.lo, h.len, h.cap, ⟨p, hp, by rw [hb.block g hg]; exact hc⟩, h.code.keep fun b o hlt => hb.cell (p := ⟨b, o, none⟩) (Nat.lt_of_lt_of_le hlt (by omega))⟩
theorem Rd.alloc {w : World} {B g n c m : Nat} {A : Option Addr} (h : Rd w B g A n c m) (o : Obj) : Rd (w.alloc o) B g A n c m := h.below ((Below.refl _ _).alloc (Nat.le_refl _) o)
theorem Rd.lt {w : World} {B g n c m : Nat} {A : Option Addr} (h : Rd w B g A n c m) : g < w.heap.size := by
  obtain ⟨p, hp, hc⟩ := h.cells
  exact (Array.getElem?_eq_some_iff.1 hc).1
end Go.Proofs.YtegibpepdndocabGreat
end
section
namespace Go.Proofs.YtegibpepdndocabGreat
open Go.ChangeShapes Go.WideShapes Go.ChangeAt Go.RowKit

theorem by_alloc {a w : World} {r : Option Nat} (h : a.grownBy w r) (o : Obj) : a.grownBy (w.alloc o) r := by_trans h (World.grownBy_alloc w o r)
/- the reader in world w, and what has happened since world a -/
structure St (a w : World) (B g : Nat) (A : Option Addr) (n c m : Nat) : Prop where
  rd : Rd w B g A n c m
  by_ : a.grownBy w (some g)
  lt : g < a.heap.size
section
variable {a w : World} {B g n c m : Nat} {A : Option Addr}
theorem St.alloc (h : St a w B g A n c m) (o : Obj) : St a (w.alloc o) B g A n c m := ⟨h.rd.alloc o, by_alloc h.by_ o, h.lt⟩
end
end Go.Proofs.YtegibpepdndocabGreat
end
section
namespace Go.Proofs.YtegibpepdndocabGreat
open Go.ChangeShapes Go.WideShapes Go.ChangeAt Go.RowKit

/- the reader and blocks of one's own -/
/- a block of one's own stays while numbers are drawn -/
theorem Has.by_ {w w' : World} {b g : Nat} {cs : Array Value} {T : TypeId} (h : Has w b cs T) (hg : w.grownBy w' (some g)) (hne : b ≠ g) : Has w' b cs T := (hg.block b h.lt (by simpa using hne)).trans h
/- the reader stays while a block of one's own is set -/
theorem Rd.set {w : World} {B g b n c m : Nat} {A : Option Addr} (h : Rd w B g A n c m) (hB : B ≤ b) (hne : g ≠ b) (i : Nat) (v : Value) : Rd (w.setCell ⟨b, i, none⟩ v) B g A n c m := by
  obtain ⟨p, hp, hc⟩ := h.cells
  exact ⟨h.lo, h.len, h.cap, ⟨p, hp, (Below.heap_setCell w ⟨b, i, none⟩ v g hne).trans hc⟩, h.code.keep fun b' o hb => World.cell?_setCell_other w _ _ _ (fun e => by injection e with e1; omega)⟩
theorem Rd.call {w w' : World} {B g n c m : Nat} {A : Option Addr} (h : Rd w B g A n c m) (hb : Below w.heap.size w w') : Rd w' B g A n c m := h.below hb
/- the reader stays while a row of another type grows -/
theorem Rd.row {w w' : World} {B0 B C g n c m : Nat} {T : TypeId} {A : Option Addr} {v : Value} {L : List (List Value)} (hrd : Rd w B0 g A n c m) (h : RowK w B T C v L) (hT : T ≠ 192) (hB : B0 ≤ B) (hby : w.grownBy w' v.ownBlock) : Rd w' B0 g A n c m := by
  obtain ⟨p, hp, hc⟩ := hrd.cells
  have hlt := hrd.lt
  refine ⟨hrd.lo, hrd.len, hrd.cap, ⟨p, hp, ?_⟩, hrd.code.keep fun b o hlb => World.cell?_of_block (hby.block b (by have := hrd.lo; omega) (fun e => by have := (h.own.lt b e.symm).1; omega))⟩
  rw [hby.block g hlt (own_ne h.own (b := g) hc hT)]; exact hc
end Go.Proofs.YtegibpepdndocabGreat
end
section
namespace Go.Proofs.YtegibpepdndocabGreat
open Go Go.RowKit

/- the rule HeldC for a region of ten operations, as spec.l4Aimed has it; and one step of its chain -/
theorem upon_VGo2 {P : Program} {Q : Exit → Act → World → Prop} {o : Oper} {a : Act} {w : World} {K : Act → World → Prop}
    (h : VGo P (fun u x => K (a.put o.dst u) x) ((execOp a.eval o).run P w)) : o.wp P a w K Q := by
  unfold Oper.wp
  generalize (execOp a.eval o).run P w = r at *
  cases r with
  | ok n w' =>
    cases n <;> simp only [VGo, Oper.upon] at h ⊢
    case value u => exact h
    case skip => exact h
    case enter f args =>
      refine Calls.mono h fun e w'' he => ?_
      obtain ⟨u, rfl, hu⟩ := he
      exact hu
    all_goals exact h.elim
  | halt x w' => exact h.elim
end Go.Proofs.YtegibpepdndocabGreat
end
section
namespace Go.Proofs.YtegibpepdndocabGreat
open Go Go.RowKit

/- A region whose order is open: held operations (a mask tells which), a chain of calls that may draw from the reader in block g, and behind all of these, one after another, the last operations (stores): these are walked in the order of the text, with nothing asked of the world between them. -/
section
variable {P : Program} {ops : Array Oper} {Q : Exit → Act → World → Prop} {md : Region.Mode} {S : World → Prop}
def linB (md : Region.Mode) (ops : Array Oper) : Nat → Nat → Array Bool → Bool
  | 0, _, listed => decide (Region.ready md ops listed = [])
  | m + 1, k, listed => decide (Region.ready md ops listed = [k]) && linB md ops m (k + 1) (listed.setIfInBounds k true)
theorem lin_any : ∀ (m k : Nat) (listed : Array Bool) (a : Act) (w : World) (l : List Oper), (∀ j, j < m → l[j]? = ops[k + j]?) → l.length = m → linB md ops m k listed = true → wpList P ops Q l a w → wpAny P md ops Q m listed a w
  | 0, k, listed, a, w, l, _, hl, hB, h => by
    have : l = [] := by simpa using hl
    subst this
    exact ⟨by simpa [linB] using hB, h⟩
  | m + 1, k, listed, a, w, [], _, hl, _, _ => by simp at hl
  | m + 1, k, listed, a, w, o :: l, hlst, hl, hB, h => by
    simp only [linB, Bool.and_eq_true, decide_eq_true_eq] at hB
    obtain ⟨hr, hB⟩ := hB
    have ho : ops[k]? = some o := by simpa using (hlst 0 (by omega)).symm
    refine ⟨fun h0 => by rw [hr] at h0; simp at h0, fun i hi => ?_⟩
    rw [hr] at hi
    have hin : i = k := by simpa using hi
    subst hin
    have hw : wpOp P ops Q i (wpList P ops Q l) a w := by unfold wpOp; simp only [ho]; exact h
    exact wpOp_mono (fun a' w' h' => lin_any m (i + 1) _ a' w' l (fun j hj => by have := hlst (j + 1) (by omega); simpa [Nat.add_assoc, Nat.add_comm 1 j] using this) (by simpa using hl) hB h') hw
/- what is left of the first part -/
def heldN (P : Program) (md : Region.Mode) (ops : Array Oper) (Q : Exit → Act → World → Prop) (S : World → Prop) (n0 : Nat) : Nat → Array Bool → Act → World → Prop
  | 0, listed, a, w => (∀ k, k < n0 → listed.getD k true = true) ∧ S w ∧ ∃ F : World → Prop, (∀ w1 w2, F w1 → Below w1.heap.size w1 w2 → F w2) ∧ F w ∧ ∀ w1, S w1 → F w1 → wpAny P md ops Q (ops.size - n0) listed a w1
  | f + 1, listed, a, w => Region.ready md ops listed ≠ [] ∧ S w ∧ ∃ F : World → Prop, (∀ w1 w2, F w1 → Below w1.heap.size w1 w2 → F w2) ∧ F w ∧
      ∀ w1, S w1 → F w1 → ∀ i ∈ Region.ready md ops listed, wpOp P ops Q i (heldN P md ops Q S n0 f (listed.setIfInBounds i true)) a w1
theorem wpAny_of_heldN {n0 : Nat} : ∀ (f : Nat) (listed : Array Bool) (a : Act) (w : World), heldN P md ops Q S n0 f listed a w → wpAny P md ops Q (f + (ops.size - n0)) listed a w
  | 0, listed, a, w, h => by
    obtain ⟨_, hS, F, _, hF, hU⟩ := h
    simpa using hU w hS hF
  | f + 1, listed, a, w, h => by
    obtain ⟨h1, hS, F, _, hF, hU⟩ := h
    rw [show f + 1 + (ops.size - n0) = (f + (ops.size - n0)) + 1 by omega]
    exact ⟨fun h0 => absurd h0 h1, fun i hi => wpOp_mono (fun a' w' => wpAny_of_heldN f _ a' w') (hU w hS hF i hi)⟩
/- the last operations wait for all ahead of them, at once or through others -/
def preds (md : Region.Mode) (o : Oper) : List Nat := (o.after.toList.filter (Region.binds md)).map (·.on)
def reach (md : Region.Mode) (ops : Array Oper) : Nat → Nat → Nat → Bool
  | 0, _, _ => false
  | f + 1, t, i => match ops[t]? with
    | none => false
    | some o => (preds md o).any fun e => e == i || reach md ops f e i
def Closed (md : Region.Mode) (ops : Array Oper) (listed : Array Bool) : Prop := ∀ (k : Nat) (o : Oper), ops[k]? = some o → listed.getD k false = true → ∀ e ∈ preds md o, listed.getD e false = true
theorem reach_listed {listed : Array Bool} (hc : Closed md ops listed) : ∀ (f t i : Nat) (o : Oper), ops[t]? = some o → reach md ops f t i = true → (∀ e ∈ preds md o, listed.getD e false = true) → listed.getD i false = true
  | 0, t, i, o, _, h, _ => by simp [reach] at h
  | f + 1, t, i, o, ho, h, hl => by
    simp only [reach, ho, List.any_eq_true, Bool.or_eq_true, beq_iff_eq] at h
    obtain ⟨e, he, rfl | hr⟩ := h
    · exact hl e he
    · have hel := hl e he
      cases hoe : ops[e]? with
      | none =>
        cases f with
        | zero => simp [reach] at hr
        | succ f => simp [reach, hoe] at hr
      | some oe => exact reach_listed hc f e i oe hoe hr (hc e oe hoe hel)
theorem preds_mem {o : Oper} {listed : Array Bool} (h : ∀ e ∈ o.after, Region.binds md e = true → listed.getD e.on false = true) : ∀ e ∈ preds md o, listed.getD e false = true := fun e he => by
  simp only [preds, List.mem_map, List.mem_filter, Array.mem_toList_iff] at he
  obtain ⟨x, ⟨hx, hb⟩, rfl⟩ := he
  exact h x hx hb
theorem closed_none : Closed md ops (Array.replicate ops.size false) := fun k o _ h => by
  exfalso
  rcases Nat.lt_or_ge k ops.size with h' | h'
  · simp [h'] at h
  · simp [Array.getElem?_eq_none (show (Array.replicate ops.size false).size ≤ k by simpa using h')] at h
theorem closed_set {listed : Array Bool} {j : Nat} (hc : Closed md ops listed) (hj : j ∈ Region.ready md ops listed) : Closed md ops (listed.setIfInBounds j true) := fun k o ho hk e he => by
  obtain ⟨_, oj, hoj, hall⟩ := mem_ready.1 hj
  have keep : listed.getD e false = true → (listed.setIfInBounds j true).getD e false = true := fun h => getD_set_true h
  by_cases hkj : j = k
  · subst hkj
    have : oj = o := Option.some.inj (hoj.symm.trans ho)
    subst this
    exact keep (preds_mem hall e he)
  · refine keep (hc k o ho ?_ e he)
    rw [getD_set_ne false hkj] at hk
    exact hk
def tailWaits (md : Region.Mode) (ops : Array Oper) (n0 : Nat) : Bool := (List.range (ops.size - n0)).all fun t => (List.range n0).all fun i => reach md ops ops.size (n0 + t) i
theorem tailWaits_spec {n0 t i : Nat} (h : tailWaits md ops n0 = true) (h1 : n0 ≤ t) (h2 : t < ops.size) (hi : i < n0) : reach md ops ops.size t i = true := by
  have := List.all_eq_true.1 (List.all_eq_true.1 h (t - n0) (List.mem_range.2 (by omega))) i (List.mem_range.2 hi)
  rwa [show n0 + (t - n0) = t by omega] at this
theorem heldN_first {n0 i : Nat} {oi : Oper} {v : Value} (hstab : ∀ w w', S w → Below w.heap.size w w' → S w') (hi : ops[i]? = some oi)
    (hsel : ∀ (j : Nat) (o : Oper) cs b, ops[j]? = some o → o.op ≠ .select cs b)
    (hQ : ∀ c a w, Q (.panic c) (a.put oi.dst v) w → Q (.panic c) a w) (hin : i < n0) (hw : tailWaits md ops n0 = true) :
    ∀ (f : Nat) (listed : Array Bool) (a : Act) (F : World → Prop), Closed md ops listed → (∀ w1 w2, F w1 → Below w1.heap.size w1 w2 → F w2) →
      (∀ j oj, ops[j]? = some oj → j ≠ i → listed.getD j true = false → (∀ e ∈ oj.after, Region.binds md e = true → e.on ≠ i) → oi.apart ops oj = true) →
      i ∈ Region.ready md ops listed → Vyld P ops S oi v a →
      (∀ w, S w → F w → heldN P md ops Q S n0 f (listed.setIfInBounds i true) (a.put oi.dst v) w) → ∀ w, S w → F w → heldN P md ops Q S n0 (f + 1) listed a w := by
  have notail : ∀ (listed : Array Bool) (j : Nat), Closed md ops listed → j ∈ Region.ready md ops listed → i ∈ Region.ready md ops listed → j ≠ i → j < n0 := fun listed j hc hj hr hne => by
    refine Classical.byContradiction fun hge => ?_
    obtain ⟨_, oj, hoj, hall⟩ := mem_ready.1 hj
    have hlt : j < ops.size := (Array.getElem?_eq_some_iff.1 hoj).1
    have h1 := reach_listed hc _ j i oj hoj (tailWaits_spec hw (by omega : n0 ≤ j) hlt hin) (preds_mem hall)
    rw [getD_both (mem_ready.1 hr).1] at h1
    cases h1
  intro f
  induction f with
  | zero =>
    intro listed a F hcl hF hfree hr hy H w hS hFw
    refine ⟨fun h => (by rw [h] at hr; cases hr), hS, F, hF, hFw, fun w1 hS1 hF1 j hj => ?_⟩
    by_cases hji : j = i
    · subst hji
      exact hy.wpOp hi hS1 fun w' hb => H w' (hstab _ _ hS1 hb) (hF _ _ hF1 hb)
    · have hjn := notail listed j hcl hj hr hji
      have h1 := (H w hS hFw).1 j hjn
      rw [getD_set_ne true (Ne.symm hji)] at h1
      rw [(mem_ready.1 hj).1] at h1
      cases h1
  | succ f ih =>
    intro listed a F hcl hF hfree hr hy H w hS hFw
    refine ⟨fun h => (by rw [h] at hr; cases hr), hS, F, hF, hFw, fun w1 hS1 hF1 j hj => ?_⟩
    by_cases hji : j = i
    · subst hji
      exact hy.wpOp hi hS1 fun w' hb => H w' (hstab _ _ hS1 hb) (hF _ _ hF1 hb)
    · obtain ⟨hne, _, F2, hF2, hF2w, hU⟩ := H w1 hS1 hF1
      have h1 := hU w1 hS1 hF2w j (ready_mono hj hji)
      obtain ⟨hjun, oj, hoj, hall⟩ := mem_ready.1 hj
      have hiun := (mem_ready.1 hr).1
      have hnot : ∀ e ∈ oj.after, Region.binds md e = true → e.on ≠ i := fun e he hb heq => by
        have h1 := hall e he hb
        rw [heq, getD_both hiun] at h1
        cases h1
      have h2 := wpOp_putV hoj (hfree j oj hoj hji hjun hnot) (fun cs b => hsel i oi cs b hi) (fun cs b => hsel j oj cs b hoj) hQ hy h1
      have hfree' : ∀ k ok, ops[k]? = some ok → k ≠ i → (listed.setIfInBounds j true).getD k true = false →
          (∀ e ∈ ok.after, Region.binds md e = true → e.on ≠ i) → oi.apart ops ok = true := fun k ok hk hki hunk hno => by
        refine hfree k ok hk hki ?_ hno
        by_cases hjk : j = k
        · subst hjk; exact hjun
        · rw [getD_set_ne true hjk] at hunk; exact hunk
      refine wpOp_mono (fun a' w' h3 => ?_) h2
      obtain ⟨hy', h4⟩ := h3
      rw [Array.setIfInBounds_comm _ _ (Ne.symm hji)] at h4
      cases f with
      | zero =>
        obtain ⟨hall3, hS3, F3, hF3, hF3w, hU3⟩ := h4
        exact ih (listed.setIfInBounds j true) a' F3 (closed_set hcl hj) hF3 hfree' (ready_mono hr (Ne.symm hji)) hy'
          (fun w2 hS2 hF2 => ⟨hall3, hS2, F3, hF3, hF2, hU3⟩) w' hS3 hF3w
      | succ g =>
        obtain ⟨hne3, hS3, F3, hF3, hF3w, hU3⟩ := h4
        exact ih (listed.setIfInBounds j true) a' F3 (closed_set hcl hj) hF3 hfree' (ready_mono hr (Ne.symm hji)) hy'
          (fun w2 hS2 hF2 => ⟨hne3, hS2, F3, hF3, hF2, hU3⟩) w' hS3 hF3w
def headN (md : Region.Mode) (ops : Array Oper) (n0 : Nat) (T : Array Bool → Bool) : List Nat → Array Bool → Bool
  | [], listed => T listed
  | k :: ks, listed => (Region.ready md ops listed).contains k && Region.free md ops listed k && decide (k < n0) && headN md ops n0 T ks (listed.setIfInBounds k true)
theorem heldN_lex {n0 g : Nat} {T : Array Bool → Bool} {F : World → Prop} (hstabF : ∀ w1 w2, F w1 → Below w1.heap.size w1 w2 → F w2) (hstab : ∀ w w', S w → Below w.heap.size w w' → S w') (hsel : Region.noSelect ops = true) (htw : tailWaits md ops n0 = true)
    (hQ : ∀ c a w (d : Option Tmp) (v : Value), Q (.panic c) (a.put d v) w → Q (.panic c) a w) {Fin : Act → Prop}
    (hfin : ∀ listed a, Closed md ops listed → T listed = true → Fin a → ∀ w, S w → F w → heldN P md ops Q S n0 g listed a w) :
    ∀ (ks : List Nat) (l : List Oper) (listed : Array Bool) (a : Act), Closed md ops listed → ks.map (fun k => ops[k]?) = l.map some →
    headN md ops n0 T ks listed = true → wpHeld P ops S Fin l a → ∀ w, S w → F w → heldN P md ops Q S n0 (ks.length + g) listed a w
  | [], [], listed, a, hcl, _, hB, h => by simpa using hfin listed a hcl (by simpa [headN] using hB) h
  | [], _ :: _, _, _, _, hm, _, _ => by simp at hm
  | _ :: _, [], _, _, _, hm, _, _ => by simp at hm
  | k :: ks, o :: l, listed, a, hcl, hm, hB, h => by
    simp only [List.map_cons, List.cons.injEq] at hm
    obtain ⟨h0, hm⟩ := hm
    simp only [headN, Bool.and_eq_true, decide_eq_true_eq] at hB
    obtain ⟨⟨⟨hr, hf⟩, hk⟩, hB'⟩ := hB
    have hr' : k ∈ Region.ready md ops listed := by simpa using hr
    obtain ⟨v, hy, hK⟩ := h
    rw [List.length_cons, show ks.length + 1 + g = (ks.length + g) + 1 by omega]
    intro w hS hFw
    exact heldN_first (F := F) hstab h0 (Region.noSelect_spec hsel) (fun c a w => hQ c a w _ _) hk htw (ks.length + g) listed a hcl hstabF
      (Region.free_spec h0 hf) hr' hy
      (fun w hS hFw => heldN_lex hstabF hstab hsel htw hQ hfin ks l _ _ (closed_set hcl hr') hm hB' hK w hS hFw) w hS hFw
end
/- the operations that a mask tells, and their numbers -/
def maskL {α : Type} : List Bool → List α → List α
  | true :: m, x :: l => x :: maskL m l
  | false :: m, _ :: l => maskL m l
  | _, _ => []
def maskI : Nat → List Bool → List Nat
  | k, true :: m => k :: maskI (k + 1) m
  | k, false :: m => maskI (k + 1) m
  | _, [] => []
theorem mask_map {ops : Array Oper} : ∀ (m : List Bool) (l : List Oper) (k : Nat), m.length ≤ l.length → (∀ j, j < l.length → l[j]? = ops[k + j]?) → (maskI k m).map (fun i => ops[i]?) = (maskL m l).map some
  | [], l, k, _, _ => by simp [maskI, maskL]
  | _ :: m, [], k, h, _ => by simp at h
  | b :: m, x :: l, k, h, hl => by
    have h0 : ops[k]? = some x := by simpa using (hl 0 (by simp)).symm
    have ih := mask_map m l (k + 1) (by simpa using h) (fun j hj => by have := hl (j + 1) (by simpa using hj); simpa [Nat.add_assoc, Nat.add_comm 1 j] using this)
    cases b
    · simpa [maskI, maskL] using ih
    · simp [maskI, maskL, h0, ih]
end Go.Proofs.YtegibpepdndocabGreat
end
