import Derived.Test.YtegibpepdndocabGreatBoxDb
import Derived.Test.YtegibpepdndocabGreatRayDb
import Derived.Test.YtegibpepdndocabGreatShtb
import Derived.Test.YtegibpepdndocabGreatSpnJb
import Derived.Test.YtegibpepdndocabGreatSpnOb
namespace Go.Proofs.YtegibpepdndocabGreat
open Go.ChangeShapes Go.WideShapes Go.ChangeAt Go.RowKit
set_option linter.unusedSimpArgs false
set_option linter.unusedVariables false
set_option maxHeartbeats 4000000

/- where rays are in leaves: what both programs answer, and within the limits -/
def InFar (X Y : Int) : Prop := (-1073741824 ≤ X ∧ X ≤ 1073741824) ∧ -1073741824 ≤ Y ∧ Y ≤ 1073741824
theorem ediv_bd {a g : Int} (hg : 0 < g) (h1 : -1073741824 * g ≤ a) (h2 : a ≤ 1073741824 * g) : -1073741824 ≤ a / g ∧ a / g ≤ 1073741824 := by
  refine ⟨(Int.le_ediv_iff_mul_le hg).2 h1, ?_⟩
  have := (Int.ediv_lt_iff_lt_mul (a := a) (b := 1073741825) hg).2 (by omega)
  omega
theorem fdivFar {a g : Int} (hg : g ≠ 0) (h1 : -278528000 ≤ a) (h2 : a ≤ 278528000) : -1073741824 ≤ a.fdiv g ∧ a.fdiv g ≤ 1073741824 := by
  by_cases h : 0 < g
  · rw [Int.fdiv_eq_ediv_of_nonneg _ (by omega)]
    exact ediv_bd h (by omega) (by omega)
  · rw [← Int.neg_fdiv_neg, Int.fdiv_eq_ediv_of_nonneg _ (by omega)]
    exact ediv_bd (by omega) (by omega) (by omega)
theorem half_cuts (q : Qd) (r : Sx) (h : q.hok) (k : Rok r.a r.b r.c r.d r.e r.f) : ∃ X Y, InFar X Y ∧ (∀ w, Calls Tryz.prog 262 #[q.val, r.val] w fun e w' => e = .returned (.tuple #[.int .i64 (X), .int .i64 (Y)]) ∧ Below w.heap.size w w') ∧ (∀ w, Calls Tryz.prog 138 #[q.val, r.val] w fun e w' => e = .returned (.tuple #[.int .i64 (X), .int .i64 (Y)]) ∧ Below w.heap.size w w') := by
  obtain ⟨X, Y, hc⟩ := cutE q.o (dot3 q.f q.t q.i r.a r.b r.c) (dot3 q.f q.t q.i r.d r.e r.f) (((q.o - dot3 q.f q.t q.i r.a r.b r.c) * 4096).fdiv (dot3 q.f q.t q.i r.d r.e r.f))
  refine ⟨X, Y, ?_, fun w => ihalfCut_yes _ _ _ _ _ _ _ _ _ _ _ _ _ _ _ w h k rfl rfl rfl hc, fun w => l4Half_any _ _ _ _ _ _ _ _ _ _ _ _ _ _ _ w h k rfl rfl rfl hc⟩
  have b1 := dot3bb q.f q.t q.i r.a r.b r.c 20 800 h.1 k.1
  have b2 := h.2.2
  unfold InFar
  rcases hc with ⟨c1, rfl, rfl⟩ | ⟨c1, rfl, rfl⟩ | ⟨-, -, rfl, rfl⟩ | ⟨-, -, rfl, rfl⟩
  · exact ⟨by omega, fdivFar (by omega) (by omega) (by omega)⟩
  · exact ⟨fdivFar (by omega) (by omega) (by omega), by omega⟩
  · omega
  · omega
theorem e_le {E D G : Int} (h : E * E ≤ D * G) (hG : G ≤ 4320000) (hD : 1 ≤ D) : -(2079 * D) ≤ E ∧ E ≤ 2079 * D := by
  have p1 : D * 1 ≤ D * D := Int.mul_le_mul_of_nonneg_left hD (by omega)
  have p2 : D * G ≤ D * 4320000 := Int.mul_le_mul_of_nonneg_left hG (by omega)
  have p3 : (2079 * D) * (2079 * D) = 4322241 * (D * D) := by grind
  refine ⟨?_, ?_⟩
  · refine Classical.byContradiction fun hc => ?_
    have : (2079 * D) * (2079 * D) ≤ (-E) * (-E) := Int.mul_le_mul (by omega) (by omega) (by omega) (by omega)
    have e2 : (-E) * (-E) = E * E := by grind
    omega
  · refine Classical.byContradiction fun hc => ?_
    have : (2079 * D) * (2079 * D) ≤ E * E := Int.mul_le_mul (by omega) (by omega) (by omega) (by omega)
    omega
theorem ball_cuts (q : Qd) (r : Sx) (h : q.bok) (k : Rok r.a r.b r.c r.d r.e r.f) : ∃ X Y, InFar X Y ∧ (∀ w, Calls Tryz.prog 269 #[q.val, r.val] w fun e w' => e = .returned (.tuple #[.int .i64 (X), .int .i64 (Y)]) ∧ Below w.heap.size w w') ∧ (∀ w, Calls Tryz.prog 139 #[q.val, r.val] w fun e w' => e = .returned (.tuple #[.int .i64 (X), .int .i64 (Y)]) ∧ Below w.heap.size w w') := by
  obtain ⟨u, v, t, D, E, G, s, P1, P2, U, hb⟩ := bcE h k
  have hb' := hb
  obtain ⟨e, ⟨hD, hE, hG⟩, -, ⟨d1, d2⟩, -, ⟨g1, g2⟩, -, -, -, u2⟩ := hb'
  by_cases h0 : 0 ≤ U
  · obtain ⟨R, R1, Q, hr⟩ := rtE h0 u2
    obtain ⟨X, Y, hf⟩ := flE D E R R1
    refine ⟨X, Y, ?_, fun w => iballCut_yes _ _ _ _ _ _ _ _ _ _ _ _ _ _ _ _ _ _ _ _ _ _ _ _ _ w h k hb h0 hr hf, fun w => l4Ball_yes _ _ _ _ _ _ _ _ _ _ _ _ _ _ _ _ _ _ _ _ _ _ _ _ _ w h k hb h0 hr hf⟩
    have hcs := cauchy r.d r.e r.f u v t
    rw [hD, hE, hG] at hcs
    obtain ⟨e1, e2⟩ := e_le (by omega) g2 d1
    obtain ⟨-, -, -, ⟨r1, r2⟩, -, hR⟩ := hr
    have hR1 : 0 ≤ R1 ∧ R1 ≤ 400000001 := by omega
    obtain ⟨rfl, rfl, -, -⟩ := hf
    rw [Int.fdiv_eq_ediv_of_nonneg _ (by omega), Int.fdiv_eq_ediv_of_nonneg _ (by omega)]
    exact ⟨ediv_bd (by omega) (by omega) (by omega), ediv_bd (by omega) (by omega) (by omega)⟩
  · exact ⟨0, 0, by unfold InFar; omega, fun w => iballCut_neg _ _ _ _ _ _ _ _ _ _ _ _ _ _ _ _ _ _ _ _ w h k hb (by omega), fun w => l4Ball_neg _ _ _ _ _ _ _ _ _ _ _ _ _ _ _ _ _ _ _ _ w h k hb (by omega)⟩
theorem box_cuts (s : Sx) (r : Sx) (h : s.ok) (k : Rok r.a r.b r.c r.d r.e r.f) : ∃ X Y, InFar X Y ∧ (∀ w, Calls Tryz.prog 42 #[s.val, r.val] w fun e w' => e = .returned (.tuple #[.int .i64 (X), .int .i64 (Y)]) ∧ Below w.heap.size w w') ∧ (∀ w, Calls Tryz.prog 140 #[s.val, r.val] w fun e w' => e = .returned (.tuple #[.int .i64 (X), .int .i64 (Y)]) ∧ Below w.heap.size w w') := by
  obtain ⟨X1, Y1, X2, Y2, X3, Y3, G1, D1, G2, D2, G3, D3, X, Y, e⟩ := xcE s.a s.b s.c s.d s.e s.f r.a r.b r.c r.d r.e r.f
  refine ⟨X, Y, ?_, fun w => iboxCut_yes _ _ _ _ _ _ _ _ _ _ _ _ _ _ _ _ _ _ _ _ _ _ _ _ _ _ w h k e, fun w => l6Box_any _ _ _ _ _ _ _ _ _ _ _ _ _ _ _ _ _ _ _ _ _ _ _ _ _ _ w h k e⟩
  obtain ⟨-, hc, hl⟩ := e
  unfold CtE at hc
  unfold LfE at hl
  unfold InFar
  omega
noncomputable def hCut (q : Qd) (r : Sx) : Int × Int := @dite _ (q.hok ∧ Rok r.a r.b r.c r.d r.e r.f) (Classical.propDecidable _) (fun h => ⟨(half_cuts q r h.1 h.2).choose, (half_cuts q r h.1 h.2).choose_spec.choose⟩) fun _ => (0, 0)
noncomputable def bCut (q : Qd) (r : Sx) : Int × Int := @dite _ (q.bok ∧ Rok r.a r.b r.c r.d r.e r.f) (Classical.propDecidable _) (fun h => ⟨(ball_cuts q r h.1 h.2).choose, (ball_cuts q r h.1 h.2).choose_spec.choose⟩) fun _ => (0, 0)
noncomputable def xCut (q : Sx) (r : Sx) : Int × Int := @dite _ (q.ok ∧ Rok r.a r.b r.c r.d r.e r.f) (Classical.propDecidable _) (fun h => ⟨(box_cuts q r h.1 h.2).choose, (box_cuts q r h.1 h.2).choose_spec.choose⟩) fun _ => (0, 0)
theorem hCut_at (q : Qd) (r : Sx) (h : q.hok) (k : Rok r.a r.b r.c r.d r.e r.f) : InFar (hCut q r).1 (hCut q r).2 ∧ (∀ w, Calls Tryz.prog 262 #[q.val, r.val] w fun e w' => e = .returned (.tuple #[.int .i64 ((hCut q r).1), .int .i64 ((hCut q r).2)]) ∧ Below w.heap.size w w') ∧ (∀ w, Calls Tryz.prog 138 #[q.val, r.val] w fun e w' => e = .returned (.tuple #[.int .i64 ((hCut q r).1), .int .i64 ((hCut q r).2)]) ∧ Below w.heap.size w w') := by
  have e : hCut q r = ⟨(half_cuts q r h k).choose, (half_cuts q r h k).choose_spec.choose⟩ := by unfold hCut; rw [dif_pos ⟨h, k⟩]
  rw [e]; exact (half_cuts q r h k).choose_spec.choose_spec
theorem bCut_at (q : Qd) (r : Sx) (h : q.bok) (k : Rok r.a r.b r.c r.d r.e r.f) : InFar (bCut q r).1 (bCut q r).2 ∧ (∀ w, Calls Tryz.prog 269 #[q.val, r.val] w fun e w' => e = .returned (.tuple #[.int .i64 ((bCut q r).1), .int .i64 ((bCut q r).2)]) ∧ Below w.heap.size w w') ∧ (∀ w, Calls Tryz.prog 139 #[q.val, r.val] w fun e w' => e = .returned (.tuple #[.int .i64 ((bCut q r).1), .int .i64 ((bCut q r).2)]) ∧ Below w.heap.size w w') := by
  have e : bCut q r = ⟨(ball_cuts q r h k).choose, (ball_cuts q r h k).choose_spec.choose⟩ := by unfold bCut; rw [dif_pos ⟨h, k⟩]
  rw [e]; exact (ball_cuts q r h k).choose_spec.choose_spec
theorem xCut_at (q : Sx) (r : Sx) (h : q.ok) (k : Rok r.a r.b r.c r.d r.e r.f) : InFar (xCut q r).1 (xCut q r).2 ∧ (∀ w, Calls Tryz.prog 42 #[q.val, r.val] w fun e w' => e = .returned (.tuple #[.int .i64 ((xCut q r).1), .int .i64 ((xCut q r).2)]) ∧ Below w.heap.size w w') ∧ (∀ w, Calls Tryz.prog 140 #[q.val, r.val] w fun e w' => e = .returned (.tuple #[.int .i64 ((xCut q r).1), .int .i64 ((xCut q r).2)]) ∧ Below w.heap.size w w') := by
  have e : xCut q r = ⟨(box_cuts q r h k).choose, (box_cuts q r h k).choose_spec.choose⟩ := by unfold xCut; rw [dif_pos ⟨h, k⟩]
  rw [e]; exact (box_cuts q r h k).choose_spec.choose_spec
/- the spans of a ray in a shape -/
def lfSp (c : Int × Int) (s : Int) : List Sp := if c.1 < c.2 then [⟨c.1, c.2, s, s⟩] else []
noncomputable def Sh.sp (r : Sx) : Sh → List Sp
  | .half q s => lfSp (hCut q r) s
  | .ball q s => lfSp (bCut q r) s
  | .box x s => lfSp (xCut x r) s
  | .either a b => spTotal 1 (a.sp r) (b.sp r)
  | .both a b => spTotal 0 (a.sp r) (b.sp r)
  | .less a b => spTotal 2 (a.sp r) (b.sp r)
def Sh.nl : Sh → Nat
  | .half _ _ => 1
  | .ball _ _ => 1
  | .box _ _ => 1
  | .either a b => a.nl + b.nl
  | .both a b => a.nl + b.nl
  | .less a b => a.nl + b.nl
def Sh.sfc : Sh → Prop
  | .half _ s => 1 ≤ s ∧ s ≤ 24
  | .ball _ s => 1 ≤ s ∧ s ≤ 24
  | .box _ s => 1 ≤ s ∧ s ≤ 24
  | .either a b => a.sfc ∧ b.sfc
  | .both a b => a.sfc ∧ b.sfc
  | .less a b => a.sfc ∧ b.sfc
theorem run_len (op : Nat) (a b : List Sp) : ∀ (n p q : Nat) (o : Bool) (f s : Int), 2 * (spRun op a b n p q o f s).length ≤ n + (if o then 1 else 0)
  | 0, p, q, o, f, s => by simp [spRun]
  | n + 1, p, q, o, f, s => by
    rw [spRun]
    split
    · simp
    split
    · have := run_len op a b n (pA a b p q) (qB a b p q) o f s; omega
    cases o
    · have := run_len op a b n (pA a b p q) (qB a b p q) true (atN a b p q) (suN op a b p q)
      simp at this ⊢
      omega
    · have := run_len op a b n (pA a b p q) (qB a b p q) false f s
      simp at this ⊢
      omega
theorem total_len (op : Nat) (a b : List Sp) : (spTotal op a b).length ≤ a.length + b.length := by
  have := run_len op a b (2 * a.length + 2 * b.length) 0 0 false 0 0
  unfold spTotal
  simp at this
  omega
theorem lfSp_len (c : Int × Int) (s : Int) : (lfSp c s).length ≤ 1 := by unfold lfSp; split <;> simp
theorem sp_len (r : Sx) : ∀ s : Sh, (s.sp r).length ≤ s.nl
  | .half q n => lfSp_len _ _
  | .ball q n => lfSp_len _ _
  | .box x n => lfSp_len _ _
  | .either a b => Nat.le_trans (total_len _ _ _) (Nat.add_le_add (sp_len r a) (sp_len r b))
  | .both a b => Nat.le_trans (total_len _ _ _) (Nat.add_le_add (sp_len r a) (sp_len r b))
  | .less a b => Nat.le_trans (total_len _ _ _) (Nat.add_le_add (sp_len r a) (sp_len r b))
theorem lfSp_good {c : Int × Int} {s : Int} (h : InFar c.1 c.2) (hs : 1 ≤ s ∧ s ≤ 24) : SpsGood (lfSp c s) := by
  unfold lfSp
  split
  · rename_i hc
    intro k hk
    have : k = 0 := by simpa using hk
    subst this
    refine ⟨?_, fun j hj => by omega⟩
    unfold InFar at h
    show SpGood ⟨c.1, c.2, s, s⟩
    unfold SpGood
    simp only
    omega
  · intro k hk; simp at hk
theorem sp_good (r : Sx) (k : Rok r.a r.b r.c r.d r.e r.f) : ∀ s : Sh, s.ok → s.sfc → SpsGood (s.sp r)
  | .half q n, h, hs => lfSp_good (hCut_at q r h k).1 hs
  | .ball q n, h, hs => lfSp_good (bCut_at q r h k).1 hs
  | .box x n, h, hs => lfSp_good (xCut_at x r h.1 k).1 hs
  | .either a b, h, hs => ((total_good (sp_good r k a h.1 hs.1) (sp_good r k b h.2 hs.2)).1).good.1
  | .both a b, h, hs => ((total_good (sp_good r k a h.1 hs.1) (sp_good r k b h.2 hs.2)).1).good.1
  | .less a b, h, hs => ((total_good (sp_good r k a h.1 hs.1) (sp_good r k b h.2 hs.2)).1).good.1
/- where both have at most 200 spans and their spans are in order, the program's sums are these -/
theorem put_total {op : Nat} {a b : List Sp} (ha : SpsGood a) (hb : SpsGood b) (hl : a.length + b.length ≤ 200) : spPut op a b = spTotal op a b := by
  rw [spPut_yes ⟨sOk_true ⟨by omega, ha⟩, sOk_true ⟨by omega, hb⟩⟩]
  unfold putS spTold
  rw [if_neg (by have := total_len op a b; omega)]
/- surfaces, and how many leaves -/
theorem shp_sfc {ps : List Pt} (hw : Wf ps) (h24 : ps.length ≤ 24) : ∀ (n i : Nat), i < n → i < ps.length → (shp ps i).sfc
  | 0, i, h, _ => by omega
  | n + 1, i, h, hi => by
    obtain ⟨hk, ha, hb, hl⟩ := hw i hi
    rw [shp_at ps i hi]
    have hA : 3 ≤ ps[i].k → ((shs ps i).getD ps[i].A.toNat Sh.none).sfc := fun h3 => by
      have := ha h3
      rw [shs_get ps i _ (by omega)]
      exact shp_sfc hw h24 n _ (by omega) (by omega)
    have hB : 3 ≤ ps[i].k → ps[i].k ≤ 5 → ((shs ps i).getD ps[i].B.toNat Sh.none).sfc := fun h3 h5 => by
      have := hb h3 h5
      rw [shs_get ps i _ (by omega)]
      exact shp_sfc hw h24 n _ (by omega) (by omega)
    have hn : 1 ≤ (i : Int) + 1 ∧ (i : Int) + 1 ≤ 24 := by omega
    unfold mkSh
    split
    · exact hn
    split
    · exact hn
    split
    · exact hn
    split
    · exact ⟨hA (by omega), hB (by omega) (by omega)⟩
    split
    · exact ⟨hA (by omega), hB (by omega) (by omega)⟩
    split
    · exact ⟨hA (by omega), hB (by omega) (by omega)⟩
    · exact hA (by omega)
def wsum (W : Nat → Nat) (U : Nat → Bool) : Nat → Nat
  | 0 => 0
  | j + 1 => wsum W U j + (if U j then 0 else W j)
theorem wsum_congr {W : Nat → Nat} {U V : Nat → Bool} : ∀ {j : Nat}, (∀ x, x < j → U x = V x) → wsum W U j = wsum W V j
  | 0, _ => rfl
  | j + 1, h => by rw [wsum, wsum, wsum_congr (fun x hx => h x (by omega)), h j (by omega)]
theorem wsum_mrk {W : Nat → Nat} {U : Nat → Bool} {k : Int} (h0 : 0 ≤ k) (hU : U k.toNat = false) : ∀ {j : Nat}, k < j → wsum W (mrk U k) j + W k.toNat = wsum W U j
  | 0, h => by omega
  | j + 1, h => by
    rw [wsum, wsum]
    by_cases e : k = j
    · have hk : k.toNat = j := by omega
      rw [wsum_congr (V := U) (fun x hx => by unfold mrk; have : ¬ ((x : Int) = k) := by omega
                                              simp [this])]
      have h1 : mrk U k j = true := by unfold mrk; simp [e]
      have hU2 : U j = false := by rw [← hk]; exact hU
      rw [h1, hk, hU2]
      simp
    · have h1 : mrk U k j = U j := by unfold mrk; have : ¬ ((j : Int) = k) := by omega
                                      simp [this]
      have := wsum_mrk (W := W) h0 hU (j := j) (by omega)
      rw [h1]; omega
theorem lv_same (l : List Pt) (i : Nat) : (lv l i).k = (pa l i).k ∧ (lv l i).A = (pa l i).A ∧ (lv l i).B = (pa l i).B := by
  unfold lv
  split
  · unfold leafAt
    split
    · exact ⟨rfl, rfl, rfl⟩
    split
    · exact ⟨rfl, rfl, rfl⟩
    split
    · exact ⟨rfl, rfl, rfl⟩
    · exact ⟨rfl, rfl, rfl⟩
  · exact ⟨rfl, rfl, rfl⟩
theorem nl_step {l : List Pt} (h : SolidP l) (j : Nat) (hj : j < l.length) (hS : wsum (fun i => (shp (lvs l) i).nl) (usd l j) j ≤ j) :
    (shp (lvs l) j).nl ≤ j + 1 ∧ wsum (fun i => (shp (lvs l) i).nl) (usd l (j + 1)) (j + 1) ≤ j + 1 := by
  have hjl : j < (lvs l).length := by rw [lvs_len]; exact hj
  obtain ⟨hk, ha, hb, -⟩ := wf_lvs h j hjl
  have e : (lvs l)[j] = lv l j := by simp [lvs]
  have hp : pa l j = l[j] := pa_get l j hj
  obtain ⟨e1, e2, e3⟩ := lv_same l j
  have hL := (h.1.2.1 j hj hj).2
  have hus := usd_succ l j hj
  rw [← hp] at hL hus
  have hsh := shp_at (lvs l) j hjl
  rw [e] at hk ha hb hsh
  rw [e1] at hk ha hb
  rw [e2] at ha
  rw [e3] at hb
  have key : ∀ U : Nat → Bool, wsum (fun i => (shp (lvs l) i).nl) U j + (shp (lvs l) j).nl ≤ j + 1 → wsum (fun i => (shp (lvs l) i).nl) U (j + 1) ≤ j + 1 := fun U hU => by
    rw [wsum]; split <;> omega
  by_cases h3 : 3 ≤ (pa l j).k
  · have hAt := ha h3
    have gA := shs_get (lvs l) j (pa l j).A.toNat (by omega)
    by_cases h5 : (pa l j).k ≤ 5
    · have hBt := hb h3 h5
      have gB := shs_get (lvs l) j (pa l j).B.toNat (by omega)
      rw [made_two _ h3 h5] at hL hus
      obtain ⟨-, u1, -, u2, -⟩ := hL
      have s1 := wsum_mrk (W := fun i => (shp (lvs l) i).nl) hAt.1 u1 (j := j) hAt.2
      have s2 := wsum_mrk (W := fun i => (shp (lvs l) i).nl) hBt.1 u2 (j := j) hBt.2
      have hn : (shp (lvs l) j).nl = (shp (lvs l) (pa l j).A.toNat).nl + (shp (lvs l) (pa l j).B.toNat).nl := by
        rw [hsh]
        unfold mkSh
        rw [e1, e2, e3, gA, gB, if_neg (by omega), if_neg (by omega), if_neg (by omega)]
        split
        · rfl
        split
        · rfl
        split
        · rfl
        · omega
      refine ⟨by omega, ?_⟩
      rw [hus]
      refine key _ ?_
      show wsum _ (mrk (mrk (usd l j) (pa l j).A) (pa l j).B) j + _ ≤ _
      omega
    · rw [made_one _ (by omega)] at hL hus
      obtain ⟨-, u1, -⟩ := hL
      have s1 := wsum_mrk (W := fun i => (shp (lvs l) i).nl) hAt.1 u1 (j := j) hAt.2
      have hn : (shp (lvs l) j).nl = (shp (lvs l) (pa l j).A.toNat).nl := by
        rw [hsh]
        unfold mkSh
        rw [e1, e2, gA, if_neg (by omega), if_neg (by omega), if_neg (by omega), if_neg (by omega), if_neg (by omega), if_neg (by omega)]
      refine ⟨by omega, ?_⟩
      rw [hus]
      refine key _ ?_
      show wsum _ (mrk (usd l j) (pa l j).A) j + _ ≤ _
      omega
  · rw [made_none _ (by omega)] at hus
    have hn : (shp (lvs l) j).nl = 1 := by
      rw [hsh]
      unfold mkSh
      rw [e1]
      split
      · rfl
      split
      · rfl
      split
      · rfl
      · omega
    refine ⟨by omega, ?_⟩
    rw [hus]
    refine key _ ?_
    show wsum _ (usd l j) j + _ ≤ _
    omega
theorem nl_sum {l : List Pt} (h : SolidP l) : ∀ j, j ≤ l.length → wsum (fun i => (shp (lvs l) i).nl) (usd l j) j ≤ j
  | 0, _ => by simp [wsum]
  | j + 1, hj => (nl_step h j (by omega) (nl_sum h j (by omega))).2
theorem nl_le {l : List Pt} (h : SolidP l) (j : Nat) (hj : j < l.length) : (shp (lvs l) j).nl ≤ j + 1 := (nl_step h j hj (nl_sum h j (by omega))).1
end Go.Proofs.YtegibpepdndocabGreat
