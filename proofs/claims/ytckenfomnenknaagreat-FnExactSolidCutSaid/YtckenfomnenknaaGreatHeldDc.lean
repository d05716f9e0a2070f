import Derived.BigQuiet
import Derived.Deep.QuietTactic
import Derived.Laws.BitsAllLaws
import Derived.Laws.BitsLemmas
import Derived.Shelf.Abstract
import Derived.Test.YtckenfomnenknaaGreatBoxc
import Derived.Test.YtckenfomnenknaaGreatIntsc
import Derived.Test.YtckenfomnenknaaGreatMotLc
import Derived.Test.YtckenfomnenknaaGreatPmkc
import Derived.Test.YtckenfomnenknaaGreatRayHc
import Derived.Test.YtckenfomnenknaaGreatRootc
import Derived.Test.YtckenfomnenknaaGreatSpLc
section
namespace Go.Proofs.YtckenfomnenknaaGreat
open Go.ChangeShapes Go.WideShapes Go.ChangeAt Go.RowKit
set_option linter.unusedSimpArgs false
set_option linter.unusedVariables false
set_option maxHeartbeats 4000000

attribute [local go_sem] VGo_value VGo_skip VGo_enter
theorem apartP {w w' : World} {B n n' s s' : Nat} {e e' : TypeId} {v x : Value} {xs ys : List Value} (h : w.ownsRow B e s v n xs) (k : w'.ownsRow w.heap.size e' s' x n' ys) :
    (v.ownBlock = none ∨ v.ownBlock ≠ x.ownBlock) ∧ (x.ownBlock = none ∨ x.ownBlock ≠ v.ownBlock) := by
  have h1 := h.lt
  have h2 := k.lt
  cases hv : v.ownBlock with
  | none => exact ⟨.inl rfl, by cases x.ownBlock <;> simp⟩
  | some g =>
    cases hx : x.ownBlock with
    | none => exact ⟨.inr (by simp), .inl rfl⟩
    | some g' =>
      have a := (h1 g hv).2
      have b := (h2 g' hx).1
      exact ⟨.inr (by simp; omega), .inr (by simp; omega)⟩
/- an argument of the law stays as it was where a row that was made since is written -/
theorem PIn.grownLow {w a b : World} {v x : Value} {l : List Pt} {row : Option Nat} (h : PIn w v l) (hb : Below w.heap.size w a) (hg : a.grownBy b row) {B n s : Nat} {e : TypeId} {ys : List Value} (hB : w.heap.size ≤ B) (k : a.ownsRow B e s x n ys) (hrow : row = x.ownBlock := by rfl) : PIn b v l := by
  subst hrow
  exact h.below (hb.grown hg hb.size (fun g hgx => Nat.le_trans hB (k.lt g hgx).1))
end Go.Proofs.YtckenfomnenknaaGreat
end
section
namespace Go.Proofs.YtckenfomnenknaaGreat
open Has renaming new → J0, new1 → J1, new2 → J2, new3 → J3, new4 → J4, drew → J5, drewN → J6, alloc → J7, same → J8, other → J9, cell → Jc, frozen → Jf, below → Jb
open Go.ChangeShapes Go.WideShapes Go.ChangeAt Go.RowKit
set_option linter.unusedSimpArgs false
set_option maxHeartbeats 1000000

attribute [local go_sem] VGo_value VGo_skip VGo_enter
theorem sqn (x : Int) : 0 ≤ x * x := by by_cases hx : 0 ≤ x; exact Int.mul_nonneg hx hx; exact Int.mul_nonneg_of_nonpos_of_nonpos (by omega) (by omega)
theorem lagr (a b c x y z : Int) : dot3 a b c a b c * dot3 x y z x y z - dot3 a b c x y z * dot3 a b c x y z = (a*y-b*x)*(a*y-b*x) + (a*z-c*x)*(a*z-c*x) + (b*z-c*y)*(b*z-c*y) := by
  unfold dot3; grind
theorem cauchy (a b c x y z : Int) : dot3 a b c x y z * dot3 a b c x y z ≤ dot3 a b c a b c * dot3 x y z x y z := by
  have h := lagr a b c x y z
  have h1 := sqn (a*y-b*x)
  have h2 := sqn (a*z-c*x)
  have h3 := sqn (b*z-c*y)
  omega
theorem dot_nonneg (a b c : Int) : 0 ≤ dot3 a b c a b c := by
  have h1 := sqn a
  have h2 := sqn b
  have h3 := sqn c
  unfold dot3
  omega
/- from a ball's middle to a place -/
def AwE (a b c x y z p q r : Int) : Prop := x - a = p ∧ y - b = q ∧ z - c = r
theorem awB {a b c x y z p q r : Int} (h : Vok a b c 400) (k : Vok x y z 800) (e : AwE a b c x y z p q r) : Vok p q r 1200 := by
  obtain ⟨rfl, rfl, rfl⟩ := e
  unfold Vok at *
  omega
theorem iMinusV (a b c x y z p q r : Int) (w : World) (h : Vok a b c 1048576) (k : Vok x y z 1048576) (e : AwE x y z a b c p q r) :
    Calls Tryz.prog 155 #[.agg #[.int .i64 (a), .int .i64 (b), .int .i64 (c)], .agg #[.int .i64 (x), .int .i64 (y), .int .i64 (z)]] w fun e w' => e = .returned (.agg #[.int .i64 (p), .int .i64 (q), .int .i64 (r)]) ∧ Below w.heap.size w w' := by
  obtain ⟨rfl, rfl, rfl⟩ := e
  exact iMinus_yes a b c x y z w h k
theorem sNegV (x y z : Int) (w : World) (h : Vok x y z 1048576) :
    Calls Tryz.prog 107 #[.agg #[.int .i64 (x), .int .i64 (y), .int .i64 (z)], .int .i64 (-1)] w fun e w' => e = .returned (.agg #[.int .i64 (-x), .int .i64 (-y), .int .i64 (-z)]) ∧ Below w.heap.size w w' :=
  (l2Times_any x y z (-1) w h (by omega) (by omega)).mono fun _ _ ⟨he, hw⟩ => ⟨by rw [he]; exact vec_eq (by omega) (by omega) (by omega), hw⟩
theorem sSubV (a b c x y z p q r : Int) (w : World) (h : Vok x y z 1152921504606846976) (k : Vok (-a) (-b) (-c) 1152921504606846976) (e : AwE a b c x y z p q r) :
    Calls Tryz.prog 106 #[.agg #[.int .i64 (x), .int .i64 (y), .int .i64 (z)], .agg #[.int .i64 (-a), .int .i64 (-b), .int .i64 (-c)]] w fun e w' => e = .returned (.agg #[.int .i64 (p), .int .i64 (q), .int .i64 (r)]) ∧ Below w.heap.size w w' := by
  obtain ⟨rfl, rfl, rfl⟩ := e
  exact (l2Plus_any x y z (-a) (-b) (-c) w h k).mono fun _ _ ⟨he, hw⟩ => ⟨by rw [he]; exact vec_eq (by omega) (by omega) (by omega), hw⟩
theorem l4AwayV (a b c d x y z p q r : Int) (w : World) (h : Vok a b c 400) (k : Vok x y z 800) (e : AwE a b c x y z p q r) :
    Calls Tryz.prog 167 #[.agg #[.int .i64 (a), .int .i64 (b), .int .i64 (c), .int .i64 (d)], .agg #[.int .i64 (x), .int .i64 (y), .int .i64 (z)]] w fun e w' => e = .returned (.agg #[.int .i64 (p), .int .i64 (q), .int .i64 (r)]) ∧ Below w.heap.size w w' := by
  have V1 := Lib.hid (vokUp h (by omega))
  have V2 : Hid (Vok x y z 1152921504606846976) := Lib.hid (by unfold Vok at *; omega)
  have V3 : Hid (Vok (-a) (-b) (-c) 1152921504606846976) := Lib.hid (by unfold Vok at *; omega)
  have E := Lib.hid e
  clear h k e
  go_enter Tryz.func167, Tryz.ntmps167
  go_upto_region 1 with fail
  (refine wp_region_held1 5 (by kernel_rfl) (by kernel_rfl) rfl (fun _ _ _ d _ h => by cases d <;> exact h) ?_; intro Fq hFq; simp only [List.take_succ_cons, List.take_zero])
  repeat (first | (refine wpHeld_run ?_ rfl ?_ ?_; rotate_left; (focus (intro w' hbq Kq hKq; ((try (have B0 := Jb (b := w.heap.size) (by repeat' (first | with_reducible (first | assumption | apply J0 | apply J1 | apply J2 | apply J3 | apply J4 | apply J5 | apply J6 | apply J7 | apply J8 | apply J9) | (with_reducible show _ ≠ _; first | omega | (simp; done)))) hbq; have C0 := Jc B0; have F0 := Jf B0)); (try (have B1 := Jb (b := w.heap.size + 1) (by repeat' (first | with_reducible (first | assumption | apply J0 | apply J1 | apply J2 | apply J3 | apply J4 | apply J5 | apply J6 | apply J7 | apply J8 | apply J9) | (with_reducible show _ ≠ _; first | omega | (simp; done)))) hbq; have C1 := Jc B1; have F1 := Jf B1)); (try (have B2 := Jb (b := w.heap.size + 1 + 1) (by repeat' (first | with_reducible (first | assumption | apply J0 | apply J1 | apply J2 | apply J3 | apply J4 | apply J5 | apply J6 | apply J7 | apply J8 | apply J9) | (with_reducible show _ ≠ _; first | omega | (simp; done)))) hbq; have C2 := Jc B2; have F2 := Jf B2))); go_simp; (try (rw [IntWalk.i64_in]; rotate_left; focus (constructor <;> omega))); first | exact hKq _ (Below.refl _ _) | first | (go_at_call 107; ((with_reducible refine (sNegV _ _ _ _ V1.out).mono ?_); rintro e w2 ⟨rfl, hbr⟩; refine back ?_; exact hKq _ hbr)) | (go_at_call 106; ((with_reducible refine (sSubV _ _ _ _ _ _ _ _ _ _ V2.out V3.out E.out).mono ?_); rintro e w2 ⟨rfl, hbr⟩; refine back ?_; exact hKq _ hbr)))); ((try simp only [Act.put, List.setIfInBounds_toArray, List.set_cons_zero, List.set_cons_succ]))) | (refine wpHeld_skip (by rfl) ?_; ((try simp only [Act.put, List.setIfInBounds_toArray, List.set_cons_zero, List.set_cons_succ]))))
  (refine wpHeld_nil (hFq _ ?_); clear hFq; intro w' hbq; ((try (have B0 := Jb (b := w.heap.size) (by repeat' (first | with_reducible (first | assumption | apply J0 | apply J1 | apply J2 | apply J3 | apply J4 | apply J5 | apply J6 | apply J7 | apply J8 | apply J9) | (with_reducible show _ ≠ _; first | omega | (simp; done)))) hbq; have C0 := Jc B0; have F0 := Jf B0)); (try (have B1 := Jb (b := w.heap.size + 1) (by repeat' (first | with_reducible (first | assumption | apply J0 | apply J1 | apply J2 | apply J3 | apply J4 | apply J5 | apply J6 | apply J7 | apply J8 | apply J9) | (with_reducible show _ ≠ _; first | omega | (simp; done)))) hbq; have C1 := Jc B1; have F1 := Jf B1)); (try (have B2 := Jb (b := w.heap.size + 1 + 1) (by repeat' (first | with_reducible (first | assumption | apply J0 | apply J1 | apply J2 | apply J3 | apply J4 | apply J5 | apply J6 | apply J7 | apply J8 | apply J9) | (with_reducible show _ ≠ _; first | omega | (simp; done)))) hbq; have C2 := Jc B2; have F2 := Jf B2))))
  go_wp2
  refine bodyPost_ret (v := .agg #[.int .i64 (p), .int .i64 (q), .int .i64 (r)]) (by simp [results, Tryz.results167, go_sem, *]) rfl ⟨vec_eq (by first | rfl | omega) (by first | rfl | omega) (by first | rfl | omega), ?_⟩; (repeat' (first | with_reducible (first | exact lowRefl _ | apply lowSet | apply lowDrew | apply lowDrewN | apply lowAlloc) | (with_reducible refine lowCall ?_ (by assumption)) | (show (_ : Nat) ≤ _; first | (simp; done) | (simp; omega) | omega)))

theorem sqB {d : Int} (h1 : 1 ≤ d) (h2 : d ≤ 200) : 0 ≤ d * d ∧ d * d ≤ 40000 := by
  have := mulb d d 200 (by omega) (by omega) (by omega) (by omega)
  have := sqn d
  omega
end Go.Proofs.YtckenfomnenknaaGreat
end
section
namespace Go.Proofs.YtckenfomnenknaaGreat
open Go.ChangeShapes Go.WideShapes Go.ChangeAt Go.RowKit
set_option linter.unusedSimpArgs false
set_option linter.unusedVariables false
set_option maxHeartbeats 4000000

attribute [local go_sem] VGo_value VGo_skip VGo_enter
/- shapes of solids: what the program's interface values hold -/
inductive Sh where
  | half (q : Qd) (s : Int)
  | ball (q : Qd) (s : Int)
  | box (x : Sx) (s : Int)
  | either (a b : Sh)
  | both (a b : Sh)
  | less (a b : Sh)
def Sh.val : Sh → Value
  | .half q s => .iface 219 (.agg #[.int .i64 q.f, .int .i64 q.t, .int .i64 q.i, .int .i64 q.o, .int .i64 s])
  | .ball q s => .iface 221 (.agg #[.int .i64 q.f, .int .i64 q.t, .int .i64 q.i, .int .i64 q.o, .int .i64 s])
  | .box x s => .iface 223 (.agg #[.int .i64 x.a, .int .i64 x.b, .int .i64 x.c, .int .i64 x.d, .int .i64 x.e, .int .i64 x.f, .int .i64 s])
  | .either a b => .iface 225 (.agg #[a.val, b.val])
  | .both a b => .iface 226 (.agg #[a.val, b.val])
  | .less a b => .iface 227 (.agg #[a.val, b.val])
def Sh.rcv : Sh → Value
  | .half q s => .agg #[.int .i64 q.f, .int .i64 q.t, .int .i64 q.i, .int .i64 q.o, .int .i64 s]
  | .ball q s => .agg #[.int .i64 q.f, .int .i64 q.t, .int .i64 q.i, .int .i64 q.o, .int .i64 s]
  | .box x s => .agg #[.int .i64 x.a, .int .i64 x.b, .int .i64 x.c, .int .i64 x.d, .int .i64 x.e, .int .i64 x.f, .int .i64 s]
  | .either a b => .agg #[a.val, b.val]
  | .both a b => .agg #[a.val, b.val]
  | .less a b => .agg #[a.val, b.val]
def Sh.hasF : Sh → FuncId
  | .half _ _ => 235
  | .ball _ _ => 241
  | .box _ _ => 252
  | .either _ _ => 255
  | .both _ _ => 259
  | .less _ _ => 263
def Sh.cutF : Sh → FuncId
  | .half _ _ => 234
  | .ball _ _ => 240
  | .box _ _ => 251
  | .either _ _ => 254
  | .both _ _ => 258
  | .less _ _ => 262
def Sh.boxF : Sh → FuncId
  | .half _ _ => 233
  | .ball _ _ => 239
  | .box _ _ => 250
  | .either _ _ => 253
  | .both _ _ => 257
  | .less _ _ => 261
theorem cmHas (s : Sh) (args : Array Value) (w : World) : (callMethod s.val "loop.example/wholelight/impl.has" args).run Tryz.prog w = .ok (.enter s.hasF (#[s.rcv] ++ args)) w := by cases s <;> kernel_rfl
theorem cmCut (s : Sh) (args : Array Value) (w : World) : (callMethod s.val "loop.example/wholelight/impl.cut" args).run Tryz.prog w = .ok (.enter s.cutF (#[s.rcv] ++ args)) w := by cases s <;> kernel_rfl
theorem cmBox (s : Sh) (args : Array Value) (w : World) : (callMethod s.val "loop.example/wholelight/impl.around" args).run Tryz.prog w = .ok (.enter s.boxF (#[s.rcv] ++ args)) w := by cases s <;> kernel_rfl
attribute [-go_sem] callMethod
attribute [local go_sem] cmHas cmCut cmBox
theorem Sh.one (s : Sh) : s.val.oneCell' = true := by cases s <;> rfl
def Sh.ok : Sh → Prop
  | .half q _ => q.hok
  | .ball q _ => q.bok
  | .box x _ => x.ok ∧ x.near
  | .either a b => a.ok ∧ b.ok
  | .both a b => a.ok ∧ b.ok
  | .less a b => a.ok ∧ b.ok
/- the places that a leaf has -/
def hHas (q : Qd) (x y z : Int) : Prop := dot3 q.f q.t q.i x y z ≤ q.o
def bHas (q : Qd) (x y z : Int) : Prop := dot3 (x - q.f) (y - q.t) (z - q.i) (x - q.f) (y - q.t) (z - q.i) ≤ q.o * q.o
def xHas (s : Sx) (x y z : Int) : Prop := Le3 s.a s.b s.c x y z ∧ Le3 x y z s.d s.e s.f
noncomputable def Sh.has (x y z : Int) : Sh → Bool
  | .half q _ => dec (hHas q x y z)
  | .ball q _ => dec (bHas q x y z)
  | .box s _ => dec (xHas s x y z)
  | .either a b => a.has x y z || b.has x y z
  | .both a b => a.has x y z && b.has x y z
  | .less a b => a.has x y z && !b.has x y z
/- the shape of each part -/
def Sh.none : Sh := .half ⟨0, 0, 0, 0⟩ 0
def mkSh (p : Pt) (n : Int) (L : List Sh) : Sh :=
  if p.k = 0 then .half p.h n else if p.k = 1 then .ball p.b n else if p.k = 2 then .box p.x n
  else if p.k = 3 then .either (L.getD p.A.toNat Sh.none) (L.getD p.B.toNat Sh.none)
  else if p.k = 4 then .both (L.getD p.A.toNat Sh.none) (L.getD p.B.toNat Sh.none)
  else if p.k = 5 then .less (L.getD p.A.toNat Sh.none) (L.getD p.B.toNat Sh.none)
  else L.getD p.A.toNat Sh.none
def shs (ps : List Pt) : Nat → List Sh
  | 0 => []
  | j + 1 => shs ps j ++ [mkSh (ps.getD j Pt.zero) ((j : Int) + 1) (shs ps j)]
theorem shs_len (ps : List Pt) : ∀ j, (shs ps j).length = j
  | 0 => rfl
  | j + 1 => by simp [shs, shs_len ps j]
def shp (ps : List Pt) (i : Nat) : Sh := mkSh (ps.getD i Pt.zero) ((i : Int) + 1) (shs ps i)
theorem shs_get (ps : List Pt) : ∀ (j i : Nat), i < j → (shs ps j).getD i Sh.none = shp ps i
  | 0, i, h => by omega
  | j + 1, i, h => by
    have hl := shs_len ps j
    simp only [shs, List.getD_eq_getElem?_getD]
    by_cases e : i = j
    · subst e
      rw [List.getElem?_append_right (by omega), hl, Nat.sub_self]; rfl
    · rw [List.getElem?_append_left (by omega), ← List.getD_eq_getElem?_getD, shs_get ps j i (by omega)]
/- parts whose leaves stand, each made of parts ahead of it -/
def Wf (ps : List Pt) : Prop := ∀ i (h : i < ps.length), (0 ≤ ps[i].k ∧ ps[i].k ≤ 6) ∧ (3 ≤ ps[i].k → 0 ≤ ps[i].A ∧ ps[i].A < i) ∧ (3 ≤ ps[i].k → ps[i].k ≤ 5 → 0 ≤ ps[i].B ∧ ps[i].B < i) ∧ LeafP ps[i]
theorem wf_lvs {l : List Pt} (h : SolidP l) : Wf (lvs l) := by
  intro i hi
  have hi' : i < l.length := by rw [lvs_len] at hi; exact hi
  have e : (lvs l)[i] = lv l i := by simp [lvs]
  have hp : pa l i = l[i] := pa_get l i hi'
  obtain ⟨hP, hL⟩ := h.1.2.1 i hi' hi'
  rw [← hp] at hP hL
  have hlf := h.2.2 i hi'
  rw [e]
  have hk : (lv l i).k = (pa l i).k := by
    unfold lv
    split
    · exact leafAt_k _ _
    · rfl
  have hm : ¬ (pa l i).k ≤ 2 → lv l i = pa l i := fun h => by unfold lv; rw [if_neg h]
  rw [hk]
  refine ⟨hP.1, fun h3 => ?_, fun h3 h5 => ?_, ?_⟩
  · rw [hm (by omega)]
    by_cases h5 : (pa l i).k ≤ 5
    · rw [made_two _ h3 h5] at hL; exact hL.1
    · rw [made_one _ (by have := hP.1; omega)] at hL; exact hL.1
  · rw [hm (by omega)]
    rw [made_two _ h3 h5] at hL; exact hL.2.2.1
  · by_cases h2 : (pa l i).k ≤ 2
    · have := hlf h2
      unfold lv; rw [if_pos h2]; exact this
    · rw [hm h2]
      exact ⟨fun h => by omega, fun h => by omega, fun h => by omega⟩
theorem shp_at (ps : List Pt) (i : Nat) (hi : i < ps.length) : shp ps i = mkSh ps[i] ((i : Int) + 1) (shs ps i) := by
  unfold shp; rw [List.getD_eq_getElem?_getD, List.getElem?_eq_getElem hi]; rfl
theorem shp_ok {ps : List Pt} (hw : Wf ps) : ∀ (n i : Nat), i < n → i < ps.length → (shp ps i).ok
  | 0, i, h, _ => by omega
  | n + 1, i, h, hi => by
    obtain ⟨hk, ha, hb, hl⟩ := hw i hi
    rw [shp_at ps i hi]
    have hA : 3 ≤ ps[i].k → ((shs ps i).getD ps[i].A.toNat Sh.none).ok := fun h3 => by
      have := ha h3
      rw [shs_get ps i _ (by omega)]
      exact shp_ok hw n _ (by omega) (by omega)
    have hB : 3 ≤ ps[i].k → ps[i].k ≤ 5 → ((shs ps i).getD ps[i].B.toNat Sh.none).ok := fun h3 h5 => by
      have := hb h3 h5
      rw [shs_get ps i _ (by omega)]
      exact shp_ok hw n _ (by omega) (by omega)
    unfold mkSh
    split
    · rename_i h0; exact hl.1 h0
    split
    · rename_i h0; exact hl.2.1 h0
    split
    · rename_i h0; exact hl.2.2 h0
    split
    · exact ⟨hA (by omega), hB (by omega) (by omega)⟩
    split
    · exact ⟨hA (by omega), hB (by omega) (by omega)⟩
    split
    · exact ⟨hA (by omega), hB (by omega) (by omega)⟩
    · exact hA (by omega)
end Go.Proofs.YtckenfomnenknaaGreat
end
section
namespace Go.Proofs.YtckenfomnenknaaGreat
open Go.ChangeShapes Go.WideShapes Go.ChangeAt Go.RowKit

/- the bytes that a law gets -/
def Code (w : World) (B : Nat) (A : Option Addr) (n : Nat) : Prop :=
  0 < n → ∃ b off, A = some ⟨b, off, none⟩ ∧ b < B ∧ ∀ j, j < n → ∃ x : Int, 0 ≤ x ∧ x ≤ 255 ∧ w.cell? ⟨b, off + j, none⟩ = some (.int .u8 x)
theorem Code.keep {w w' : World} {B n : Nat} {A : Option Addr} (h : Code w B A n) (hk : ∀ b o, b < B → w'.cell? ⟨b, o, none⟩ = w.cell? ⟨b, o, none⟩) : Code w' B A n := fun hn => by
  obtain ⟨b, off, rfl, hb, hc⟩ := h hn
  refine ⟨b, off, rfl, hb, fun j hj => ?_⟩
  obtain ⟨x, h0, h1, h2⟩ := hc j hj
  exact ⟨x, h0, h1, (hk b _ hb).trans h2⟩
/- a reader of these bytes, in block g, that has been asked m times at most -/
structure Rd (w : World) (B g : Nat) (A : Option Addr) (n c m : Nat) : Prop where
  lo : B ≤ g
  len : n ≤ 2000
  cap : n ≤ c
  cells : ∃ p : Nat, p ≤ m ∧ w.heap[g]? = some (.cells #[.slice A n c, .int .i64 p] 148 (0, 0))
  code : Code w B A n
theorem Rd.mono {w : World} {B g n c m m' : Nat} {A : Option Addr} (h : Rd w B g A n c m) (hm : m ≤ m') : Rd w B g A n c m' := by
  obtain ⟨p, hp, hc⟩ := h.cells
  exact ⟨h.lo, h.len, h.cap, ⟨p, by omega, hc⟩, h.code⟩
theorem Rd.below {w w' : World} {B g n c m : Nat} {A : Option Addr} (h : Rd w B g A n c m) (hb : Below w.heap.size w w') : Rd w' B g A n c m := by
  obtain ⟨p, hp, hc⟩ := h.cells
  have hg : g < w.heap.size := (Array.getElem?_eq_some_iff.1 hc).1
  have hlo := h.lo
  exact ⟨h.lo, h.len, h.cap, ⟨p, hp, by rw [hb.block g hg]; exact hc⟩, h.code.keep fun b o hlt => hb.cell (p := ⟨b, o, none⟩) (Nat.lt_of_lt_of_le hlt (by omega))⟩
theorem Rd.alloc {w : World} {B g n c m : Nat} {A : Option Addr} (h : Rd w B g A n c m) (o : Obj) : Rd (w.alloc o) B g A n c m := h.below ((Below.refl _ _).alloc (Nat.le_refl _) o)
theorem Rd.lt {w : World} {B g n c m : Nat} {A : Option Addr} (h : Rd w B g A n c m) : g < w.heap.size := by
  obtain ⟨p, hp, hc⟩ := h.cells
  exact (Array.getElem?_eq_some_iff.1 hc).1
end Go.Proofs.YtckenfomnenknaaGreat
end
section
namespace Go.Proofs.YtckenfomnenknaaGreat
open Go.ChangeShapes Go.WideShapes Go.ChangeAt Go.RowKit

theorem by_alloc {a w : World} {r : Option Nat} (h : a.grownBy w r) (o : Obj) : a.grownBy (w.alloc o) r := by_trans h (World.grownBy_alloc w o r)
/- the reader in world w, and what has happened since world a -/
structure St (a w : World) (B g : Nat) (A : Option Addr) (n c m : Nat) : Prop where
  rd : Rd w B g A n c m
  by_ : a.grownBy w (some g)
  lt : g < a.heap.size
section
variable {a w : World} {B g n c m : Nat} {A : Option Addr}
theorem St.alloc (h : St a w B g A n c m) (o : Obj) : St a (w.alloc o) B g A n c m := ⟨h.rd.alloc o, by_alloc h.by_ o, h.lt⟩
end
end Go.Proofs.YtckenfomnenknaaGreat
end
section
namespace Go.Proofs.YtckenfomnenknaaGreat
open Go.ChangeShapes Go.WideShapes Go.ChangeAt Go.RowKit

/- the reader and blocks of one's own -/
/- a block of one's own stays while numbers are drawn -/
theorem Has.by_ {w w' : World} {b g : Nat} {cs : Array Value} {T : TypeId} (h : Has w b cs T) (hg : w.grownBy w' (some g)) (hne : b ≠ g) : Has w' b cs T := (hg.block b h.lt (by simpa using hne)).trans h
theorem Rd.call {w w' : World} {B g n c m : Nat} {A : Option Addr} (h : Rd w B g A n c m) (hb : Below w.heap.size w w') : Rd w' B g A n c m := h.below hb
/- the reader stays while a row of another type grows -/
theorem Rd.row {w w' : World} {B0 B C g n c m : Nat} {T : TypeId} {A : Option Addr} {v : Value} {L : List (List Value)} (hrd : Rd w B0 g A n c m) (h : RowK w B T C v L) (hT : T ≠ 148) (hB : B0 ≤ B) (hby : w.grownBy w' v.ownBlock) : Rd w' B0 g A n c m := by
  obtain ⟨p, hp, hc⟩ := hrd.cells
  have hlt := hrd.lt
  refine ⟨hrd.lo, hrd.len, hrd.cap, ⟨p, hp, ?_⟩, hrd.code.keep fun b o hlb => World.cell?_of_block (hby.block b (by have := hrd.lo; omega) (fun e => by have := (h.own.lt b e.symm).1; omega))⟩
  rw [hby.block g hlt (own_ne h.own (b := g) hc hT)]; exact hc
end Go.Proofs.YtckenfomnenknaaGreat
end
section
namespace Go.Proofs.YtckenfomnenknaaGreat
open Go Go.RowKit

/- the rule HeldC for a region of ten operations, as spec.l4Aimed has it; and one step of its chain -/
theorem upon_VGo2 {P : Program} {Q : Exit → Act → World → Prop} {o : Oper} {a : Act} {w : World} {K : Act → World → Prop}
    (h : VGo P (fun u x => K (a.put o.dst u) x) ((execOp a.eval o).run P w)) : o.wp P a w K Q := by
  unfold Oper.wp
  generalize (execOp a.eval o).run P w = r at *
  cases r with
  | ok n w' =>
    cases n <;> simp only [VGo, Oper.upon] at h ⊢
    case value u => exact h
    case skip => exact h
    case enter f args =>
      refine Calls.mono h fun e w'' he => ?_
      obtain ⟨u, rfl, hu⟩ := he
      exact hu
    all_goals exact h.elim
  | halt x w' => exact h.elim
end Go.Proofs.YtckenfomnenknaaGreat
end
