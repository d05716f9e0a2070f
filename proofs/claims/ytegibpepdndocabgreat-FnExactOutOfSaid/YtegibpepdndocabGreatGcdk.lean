import Derived.Below
import Derived.BigQuiet
import Derived.Deep.QuietTactic
import Derived.IntWalk
import Derived.Lib.Hide
import Derived.LoopTactic
import Derived.OpenShut
import Derived.Outline
import Derived.ProofKit
import Derived.RowKit
import Derived.Shelf.Small.Bits
import Derived.Shelf.Strconv.Itoa0
import Derived.Test.YtegibpepdndocabGreatProg
import Derived.Test.YtegibpepdndocabGreatRows
import Derived.WalkKit
section
namespace Go.Proofs.YtegibpepdndocabGreat
open Go.ChangeShapes Go.WideShapes Go.ChangeAt Go.RowKit

theorem laidOut : laidOutB Tryz.prog = true := by kernel_rfl
/- arguments read as they did in every world that holds the same below the first world's end -/
theorem stay_all {H : Type} {enc : TypeId × Value → H} {P : Program} (hl : laidOutB P = true) {W W' : World} (hb : Below W.heap.size W W') {sp : Nat → Bool} :
    ∀ (ts : List TypeId) (vs : List Value) (ds : List (DataW H)) (ps : List MemPlace), (∀ t ∈ ts, P.readableRec t = true ∧ t < P.types.size) → DataW.TrodAll enc P W 0 (fun _ => true) true ts vs ds ps →
      (∀ p ∈ ps, p.block < W.heap.size) → (∀ p ∈ ps, sp p.block = true) → DataW.TrodAll enc P W' 0 sp true ts vs ds ps
  | [], _, _, _, _, h, _, _ => by
    obtain ⟨rfl, rfl, rfl⟩ := trodAll_nil h
    exact trodAll_mk0
  | t :: ts, _, _, _, hr, h, hlt, hsp => by
    obtain ⟨v, vs1, d, ds1, p, q, rfl, rfl, rfl, h1, h2⟩ := trodAll_cons h
    have ht := hr t (by simp)
    exact trodAll_cons_mk (WideElems.Trod_stays hl ht.1 ht.2 h1 (fun x hx => hb.same (hlt x (by simp [hx]))) (fun x hx => hsp x (by simp [hx])))
      (stay_all hl hb ts vs1 ds1 q (fun t' h' => hr t' (by simp [h'])) h2 (fun x hx => hlt x (by simp [hx])) (fun x hx => hsp x (by simp [hx])))
/- the row's last step for a law: it answers true and nothing that was there has turned -/
theorem post_law {H : Type} {enc : TypeId × Value → H} {P : Program} {f : Func} {s : ChangeSpec} {W W' : World} {args : Array Value} {ds gs : List (DataW H)} {before : List MemPlace}
    (hl : laidOutB P = true) (hW : DataW.Whole enc P f.params.toList s.vars false W args.toList ds gs before) (hb : Below W.heap.size W W')
    (hA : DataW.TrodAll enc P W 0 (fun _ => true) true f.params.toList args.toList ds before) (hr : ∀ t ∈ f.params.toList, P.readableRec t = true ∧ t < P.types.size)
    (hf : s.fn H (ds ++ gs) = { results := [.lit (.bool true)], args := ds }) (hv : s.vars = []) {tb : TypeId} (hres : f.resultTypes = #[tb]) (hbool : P.underlying tb = some .bool) :
    s.post enc P f false true false false W args (.bool true) W' := by
  have low : ∀ p ∈ before, p.block < W.heap.size := fun p hp => hW.lt p hp
  have kept : W.keptBut W' (fun p => p ∈ before ∧ (p ∈ [] ∨ p ∈ before ∨ p ∈ [])) := hb.frame _
  have hlow : ∀ p ∈ before, (fun b => decide (b < W.heap.size)) p.block = true := fun p hp => decide_eq_true (low p hp)
  refine ⟨ds, gs, before, [], before, [], hW, ?_, ?_, ?_, kept, by simp⟩
  · rw [hf, hres]; exact trodAll_cons_mk (p := []) (p' := []) (shut_bool hbool true) trodAll_mk0
  · rw [hf]; exact stay_all hl hb _ _ _ _ hr hA low hlow
  · rw [hf, hv]; rfl
end Go.Proofs.YtegibpepdndocabGreat
end
section
namespace Go.Proofs.YtegibpepdndocabGreat
open Go.RowKit (wrap64)

def Small (a b : Int) : Prop := b ≠ 0 ∧ -4611686018427387904 ≤ a ∧ a ≤ 4611686018427387904 ∧ -4611686018427387904 ≤ b ∧ b ≤ 4611686018427387904
theorem tdiv_bd (a b : Int) (hs : Small a b) : -4611686018427387904 ≤ a.tdiv b ∧ a.tdiv b ≤ 4611686018427387904 := by
  obtain ⟨h0, h1, h2, h3, h4⟩ := hs
  have := Int.natAbs_tdiv_le_natAbs a b
  omega
theorem tdiv_mul_bd (a b : Int) (hs : Small a b) : -4611686018427387904 ≤ a.tdiv b * b ∧ a.tdiv b * b ≤ 4611686018427387904 := by
  obtain ⟨h0, h1, h2, h3, h4⟩ := hs
  have h5 := Int.mul_tdiv_add_tmod a b
  rw [Int.mul_comm] at h5
  by_cases ha : 0 ≤ a
  · have := Int.tmod_nonneg b ha
    have h6 : (a.tdiv b * b).natAbs ≤ a.natAbs := by
      rw [Int.natAbs_mul, Int.natAbs_tdiv]; exact Nat.div_mul_le_self _ _
    omega
  · have h6 : (a.tdiv b * b).natAbs ≤ a.natAbs := by
      rw [Int.natAbs_mul, Int.natAbs_tdiv]; exact Nat.div_mul_le_self _ _
    omega
theorem wrap64_of (n : Int) (h1 : -9223372036854775808 ≤ n) (h2 : n ≤ 9223372036854775807) : wrap64 n = n := by unfold wrap64; omega

theorem fdiv_of (a b q r : Int) (h : b * q + r = a) (hr : (0 < b ∧ 0 ≤ r ∧ r < b) ∨ (b < 0 ∧ b < r ∧ r ≤ 0)) : a.fdiv b = q := by
  subst h
  rcases hr with ⟨hb, h1, h2⟩ | ⟨hb, h1, h2⟩
  · rw [Int.fdiv_eq_ediv_of_nonneg _ (by omega), Int.add_comm, Int.add_mul_ediv_left _ _ (by omega), Int.ediv_eq_zero_of_lt h1 h2]; omega
  · have : (b * q + r).fdiv b = (-(b * q + r)).fdiv (-b) := by rw [Int.neg_fdiv_neg]
    rw [this, Int.fdiv_eq_ediv_of_nonneg _ (by omega)]
    have e : -(b * q + r) = -r + (-b) * q := by rw [Int.neg_mul]; omega
    rw [e, Int.add_mul_ediv_left _ _ (by omega), Int.ediv_eq_zero_of_lt (by omega) (by omega)]; omega
theorem tmod_fact (a b : Int) (hb : b ≠ 0) : ∃ r, b * a.tdiv b + r = a ∧ r = a.tmod b ∧ (0 ≤ a → 0 ≤ r) ∧ (a ≤ 0 → r ≤ 0) ∧ (r < b ∨ r < -b) ∧ (-b < r ∨ b < r) ∧ (a.tdiv b * b = a ↔ r = 0) := by
  have h5 := Int.mul_tdiv_add_tmod a b
  have hn : (a.tmod b).natAbs < b.natAbs := by rw [Int.natAbs_tmod]; exact Nat.mod_lt _ (by omega)
  refine ⟨a.tmod b, h5, rfl, fun h => Int.tmod_nonneg b h, fun h => ?_, by omega, by omega, ?_⟩
  · have h6 : (-a).tmod b = -(a.tmod b) := Int.neg_tmod ..
    have := Int.tmod_nonneg b (show 0 ≤ -a by omega)
    omega
  · rw [Int.mul_comm]; omega
/- the floor, from the quotient that drops -/
theorem floor_down (a b : Int) (hb : b ≠ 0) (h : a.tdiv b * b ≠ a) (hx : ¬ (a < 0 ↔ b < 0)) : a.tdiv b - 1 = a.fdiv b := by
  obtain ⟨r, h1, _, h2, h3, h4, h5, h6⟩ := tmod_fact a b hb
  refine (fdiv_of a b _ (r + b) (by rw [Int.mul_sub]; omega) ?_).symm
  have : r ≠ 0 := fun e => h (h6.2 e)
  omega
theorem floor_same (a b : Int) (hb : b ≠ 0) (h : a.tdiv b * b = a ∨ (a < 0 ↔ b < 0)) : a.tdiv b = a.fdiv b := by
  obtain ⟨r, h1, _, h2, h3, h4, h5, h6⟩ := tmod_fact a b hb
  refine (fdiv_of a b _ r h1 ?_).symm
  rcases h with h | h
  · have := h6.1 h; omega
  · omega
theorem ceil_up (a b : Int) (hb : b ≠ 0) (h : a.tdiv b * b ≠ a) (hx : a < 0 ↔ b < 0) : a.tdiv b + 1 = -((-a).fdiv b) := by
  obtain ⟨r, h1, _, h2, h3, h4, h5, h6⟩ := tmod_fact a b hb
  have : r ≠ 0 := fun e => h (h6.2 e)
  have := fdiv_of (-a) b (-(a.tdiv b) - 1) (b - r) (by rw [Int.mul_sub, Int.mul_neg]; omega) (by
    omega)
  omega
theorem ceil_same (a b : Int) (hb : b ≠ 0) (h : a.tdiv b * b = a ∨ ¬ (a < 0 ↔ b < 0)) : a.tdiv b = -((-a).fdiv b) := by
  obtain ⟨r, h1, _, h2, h3, h4, h5, h6⟩ := tmod_fact a b hb
  have := fdiv_of (-a) b (-(a.tdiv b)) (-r) (by rw [Int.mul_neg]; omega) (by
    rcases h with h | h
    · have := h6.1 h; omega
    · omega)
  omega
theorem fdiv_bd (a b : Int) (hs : Small a b) : -4611686018427387905 ≤ a.fdiv b ∧ a.fdiv b ≤ 4611686018427387904 := by
  have h := tdiv_bd a b hs
  obtain ⟨h0, -⟩ := hs
  by_cases e : a.tdiv b * b = a
  · have := floor_same a b h0 (.inl e); omega
  · by_cases e2 : (a < 0 ↔ b < 0)
    · have := floor_same a b h0 (.inr e2); omega
    · have := floor_down a b h0 e e2; omega
/- the root -/
def rt : Nat → Nat
  | 0 => 0
  | n + 1 => if (rt n + 1) * (rt n + 1) ≤ n + 1 then rt n + 1 else rt n
attribute [irreducible] rt
end Go.Proofs.YtegibpepdndocabGreat
end
section
namespace Go.Proofs.YtegibpepdndocabGreat
open Go.ChangeShapes Go.WideShapes Go.ChangeAt Go.RowKit

theorem ret_int {k : IntKind} {a b : Int} (h : a = b) : Ending.returned (.int k a) = .returned (.int k b) := by rw [h]

theorem within_yes (n l h : Int) (w : World) (h1 : l ≤ n) (h2 : n ≤ h) :
    Calls Tryz.prog 79 #[.int .i64 n, .int .i64 l, .int .i64 h] w fun e w' => e = .returned (.bool true) ∧ w = w' := by
  go_enter Tryz.func79, Tryz.ntmps79
  go_wp2
  go_ret
  exact ⟨rfl, rfl⟩
theorem within_no (n l h : Int) (w : World) (h1 : n < l ∨ h < n) :
    Calls Tryz.prog 79 #[.int .i64 n, .int .i64 l, .int .i64 h] w fun e w' => e = .returned (.bool false) ∧ w = w' := by
  by_cases hl : l ≤ n
  · have h2 : ¬ n ≤ h := by omega
    clear h1
    go_enter Tryz.func79, Tryz.ntmps79
    go_wp2
    go_ret
    exact ⟨rfl, rfl⟩
  · clear h1
    go_enter Tryz.func79, Tryz.ntmps79
    go_wp2
    go_ret
    exact ⟨rfl, rfl⟩
theorem l1In_yes (n l h : Int) (w : World) (h1 : l ≤ n) (h2 : n ≤ h) :
    Calls Tryz.prog 72 #[.int .i64 n, .int .i64 l, .int .i64 h] w fun e w' => e = .returned (.bool true) ∧ w = w' := by
  go_enter Tryz.func72, Tryz.ntmps72
  go_wp2
  go_ret
  exact ⟨rfl, rfl⟩
theorem l1In_no (n l h : Int) (w : World) (h1 : n < l ∨ h < n) :
    Calls Tryz.prog 72 #[.int .i64 n, .int .i64 l, .int .i64 h] w fun e w' => e = .returned (.bool false) ∧ w = w' := by
  by_cases hl : l ≤ n
  · have h2 : ¬ n ≤ h := by omega
    clear h1
    go_enter Tryz.func72, Tryz.ntmps72
    go_wp2
    go_ret
    exact ⟨rfl, rfl⟩
  · clear h1
    go_enter Tryz.func72, Tryz.ntmps72
    go_wp2
    go_ret
    exact ⟨rfl, rfl⟩
theorem divides_yes (a b : Int) (w : World) (hs : Small a b) :
    Calls Tryz.prog 233 #[.int .i64 a, .int .i64 b] w fun e w' => e = .returned (.bool true) ∧ w = w' := by
  obtain ⟨h0, h1, h2, h3, h4⟩ := hs
  have hb : (b != 0) = true := by simpa using h0
  go_enter Tryz.func233, Tryz.ntmps233
  go_wp2_with (go_at_call 79; refine (within_yes _ _ _ _ (by omega) (by omega)).mono ?_; rintro e w' ⟨rfl, rfl⟩)
  go_ret
  exact ⟨rfl, rfl⟩
theorem nx {p q : Prop} [Decidable p] [Decidable q] (h : (!decide p == decide q) = true) : ¬ (p ↔ q) := by by_cases hp : p <;> by_cases hq : q <;> simp_all
theorem ny {p q : Prop} [Decidable p] [Decidable q] (h : (!decide p == decide q) = false) : p ↔ q := by by_cases hp : p <;> by_cases hq : q <;> simp_all
theorem px {p q : Prop} [Decidable p] [Decidable q] (h : (decide p == decide q) = true) : p ↔ q := by by_cases hp : p <;> by_cases hq : q <;> simp_all
theorem py {p q : Prop} [Decidable p] [Decidable q] (h : (decide p == decide q) = false) : ¬ (p ↔ q) := by by_cases hp : p <;> by_cases hq : q <;> simp_all
theorem bz {a b : Int} (h : (a != b) = false) : a = b := by simpa using h
theorem floor_yes (a b : Int) (w : World) (hs : Small a b) :
    Calls Tryz.prog 229 #[.int .i64 a, .int .i64 b] w fun e w' => e = .returned (.int .i64 (a.fdiv b)) ∧ w = w' := by
  have ⟨ht, ht'⟩ := tdiv_bd a b hs
  have ⟨hm, hm'⟩ := tdiv_mul_bd a b hs
  have H := Lib.hid hs
  obtain ⟨h0, h1, h2, h3, h4⟩ := hs
  go_enter Tryz.func229, Tryz.ntmps229
  go_wp2_with (go_at_call 233; refine (divides_yes _ _ _ H.out).mono ?_; rintro e w' ⟨rfl, rfl⟩)
  all_goals
    go_ret
    refine ⟨ret_int ?_, rfl⟩
  · rename_i x; exact floor_same a b h0 (.inl x)
  · rename_i x y; exact floor_down a b h0 x (nx y.2)
  · rename_i x y; exact floor_same a b h0 (y.imp bz ny)
theorem ceil_yes (a b : Int) (w : World) (hs : Small a b) :
    Calls Tryz.prog 196 #[.int .i64 a, .int .i64 b] w fun e w' => e = .returned (.int .i64 (-((-a).fdiv b))) ∧ w = w' := by
  have ⟨ht, ht'⟩ := tdiv_bd a b hs
  have ⟨hm, hm'⟩ := tdiv_mul_bd a b hs
  have H := Lib.hid hs
  obtain ⟨h0, h1, h2, h3, h4⟩ := hs
  go_enter Tryz.func196, Tryz.ntmps196
  go_wp2_with (go_at_call 233; refine (divides_yes _ _ _ H.out).mono ?_; rintro e w' ⟨rfl, rfl⟩)
  all_goals
    go_ret
    refine ⟨ret_int ?_, rfl⟩
  · rename_i x; exact ceil_same a b h0 (.inl x)
  · rename_i x y; exact ceil_up a b h0 x (px y.2)
  · rename_i x y; exact ceil_same a b h0 (y.imp bz py)
/- the reference -/
theorem l1Small_yes (a b : Int) (w : World) (hs : Small a b) :
    Calls Tryz.prog 238 #[.int .i64 a, .int .i64 b] w fun e w' => e = .returned (.bool true) ∧ w = w' := by
  obtain ⟨h0, h1, h2, h3, h4⟩ := hs
  have hb : (b != 0) = true := by simpa using h0
  go_enter Tryz.func238, Tryz.ntmps238
  go_wp2_with (go_at_call 72; refine (l1In_yes _ _ _ _ (by omega) (by omega)).mono ?_; rintro e w' ⟨rfl, rfl⟩)
  go_ret
  exact ⟨rfl, rfl⟩
theorem l1Floor_yes (a b : Int) (w : World) (hs : Small a b) :
    Calls Tryz.prog 200 #[.int .i64 a, .int .i64 b] w fun e w' => e = .returned (.int .i64 (a.fdiv b)) ∧ w = w' := by
  have ⟨ht, ht'⟩ := tdiv_bd a b hs
  have H := Lib.hid hs
  obtain ⟨h0, h1, h2, h3, h4⟩ := hs
  have h6 : a.tmod b = 0 ↔ a.tdiv b * b = a := by
    obtain ⟨_, h1, rfl, h2, h3, h4, h5, h6⟩ := tmod_fact a b h0
    exact h6.symm
  have H6 := Lib.hid h6
  clear h6
  go_enter Tryz.func200, Tryz.ntmps200
  go_wp2
  all_goals
    go_ret
    refine ⟨ret_int ?_, rfl⟩
  · rename_i x; exact floor_same a b h0 (.inl (H6.out.1 x))
  · rename_i x y; exact floor_down a b h0 (fun e => x (H6.out.2 e)) (nx y.2)
  · rename_i x y; exact floor_same a b h0 (y.imp (fun e => H6.out.1 (bz e)) ny)
theorem sceil_yes (a b : Int) (w : World) (hs : Small a b) :
    Calls Tryz.prog 217 #[.int .i64 a, .int .i64 b] w fun e w' => e = .returned (.int .i64 (-((-a).fdiv b))) ∧ w = w' := by
  have hs2 : Small (-a) b := by unfold Small at *; omega
  have ⟨ht, ht'⟩ := fdiv_bd (-a) b hs2
  have H := Lib.hid hs
  have H2 := Lib.hid hs2
  obtain ⟨h0, h1, h2, h3, h4⟩ := hs
  clear hs2
  go_enter Tryz.func217, Tryz.ntmps217
  go_wp2_with (first | (go_at_call 238; refine (l1Small_yes _ _ _ H.out).mono ?_; rintro e w' ⟨rfl, rfl⟩) | (go_at_call 200; refine (l1Floor_yes _ _ _ H2.out).mono ?_; rintro e w' ⟨rfl, rfl⟩))
  go_ret
  exact ⟨rfl, rfl⟩
end Go.Proofs.YtegibpepdndocabGreat
end
section
namespace Go.Proofs.YtegibpepdndocabGreat
open Go.ChangeShapes Go.WideShapes Go.ChangeAt Go.RowKit

def p0 (n : Nat) : Nat := 2 ^ ((Lib.bitLen n + 1) / 2)
end Go.Proofs.YtegibpepdndocabGreat
end
section
namespace Go.Proofs.YtegibpepdndocabGreat
open Go.ChangeShapes Go.WideShapes Go.ChangeAt Go.RowKit

def Whole2 (a b : Int) : Prop := -4611686018427387904 ≤ a ∧ a ≤ 4611686018427387904 ∧ -4611686018427387904 ≤ b ∧ b ≤ 4611686018427387904
theorem gcd_step (a b : Int) : Int.gcd b (a.tmod b) = Int.gcd a b := by
  unfold Int.gcd
  rw [Int.natAbs_tmod, Nat.gcd_comm a.natAbs b.natAbs, Nat.gcd_rec b.natAbs a.natAbs, Nat.gcd_comm]
theorem gcd_zero (a : Int) : (Int.gcd a 0 : Int) = max a (-a) := by
  rw [Int.gcd_zero_right]; omega
theorem abs_any (n : Int) (w : World) (h1 : -4611686018427387904 ≤ n) (h2 : n ≤ 4611686018427387904) :
    Calls Tryz.prog 214 #[.int .i64 n] w fun e w' => e = .returned (.int .i64 (n.natAbs : Int)) ∧ w = w' := by
  go_enter Tryz.func214, Tryz.ntmps214
  go_wp2
  all_goals
    go_ret
    exact ⟨ret_int (by omega), rfl⟩
theorem scommon_yes (a b : Int) (w : World) (hs : Whole2 a b) :
    Calls Tryz.prog 216 #[.int .i64 a, .int .i64 b] w fun e w' => e = .returned (.int .i64 (Int.gcd a b)) ∧ w = w' := by
  obtain ⟨h1, h2, h3, h4⟩ := hs
  go_enter Tryz.func216, Tryz.ntmps216
  go_wp2_with (first | (go_at_call 72; (with_reducible refine (l1In_yes _ _ _ _ (by omega) (by omega)).mono ?_); rintro e w' ⟨rfl, rfl⟩) | (go_at_call 214; refine (abs_any _ _ (by omega) (by omega)).mono ?_; rintro e w' ⟨rfl, rfl⟩))
  go_loop [0, 1, 5] (fun x y _ => ∃ p q : Nat, (p : Int) ≤ 4611686018427387904 ∧ (q : Int) ≤ 4611686018427387904 ∧ Nat.gcd p q = Int.gcd a b ∧ x = .int .i64 p ∧ y = .int .i64 q) (fun _ y _ => (intOf y).toNat)
  case atStart => exact ⟨a.natAbs, b.natAbs, by omega, by omega, rfl, rfl, rfl⟩
  case round =>
    obtain ⟨p, q, hp, hq, hg, rfl, rfl⟩ := hrel
    by_cases hc : 0 < q
    · have hm1 := Nat.mod_lt p hc
      have hg2 : Nat.gcd q (p % q) = Int.gcd a b := by rw [← hg, Nat.gcd_comm p q, Nat.gcd_rec q p, Nat.gcd_comm]
      have Hg := Lib.hid hg2
      clear hg hg2
      go_wp2
      go_round
      case rel => exact ⟨q, p % q, hq, by omega, Hg.out, rfl, rfl⟩
      case measure => simp [intOf]; omega
    · obtain rfl : q = 0 := by omega
      have hg2 : p = Int.gcd a b := by rw [← hg]; simp
      have Hg := Lib.hid hg2
      clear hg hg2
      go_wp2
      go_ret
      exact ⟨ret_int (by exact_mod_cast Hg.out), rfl⟩
theorem common_yes (a b : Int) (w : World) (hs : Whole2 a b) :
    Calls Tryz.prog 195 #[.int .i64 a, .int .i64 b] w fun e w' => e = .returned (.int .i64 (Int.gcd a b)) ∧ ∃ n, w' = w.drewN n := by
  obtain ⟨h1, h2, h3, h4⟩ := hs
  go_enter Tryz.func195, Tryz.ntmps195
  go_wp2_with (go_at_call 79; (with_reducible refine (within_yes _ _ _ _ (by omega) (by omega)).mono ?_); rintro e w' ⟨rfl, hw⟩; subst hw)
  go_loopw [0, 1] (fun x y wr => ∃ p q : Int, -4611686018427387904 ≤ p ∧ p ≤ 4611686018427387904 ∧ -4611686018427387904 ≤ q ∧ q ≤ 4611686018427387904 ∧ Int.gcd p q = Int.gcd a b ∧ x = .int .i64 p ∧ y = .int .i64 q ∧ ∃ n, wr = w.drewN n) (fun _ y _ => (intOf y).natAbs)
  case atStart => exact ⟨a, b, h1, h2, h3, h4, rfl, rfl, rfl, 0, rfl⟩
  case round =>
    obtain ⟨p, q, hp1, hp2, hq1, hq2, hg, rfl, rfl, nn, rfl⟩ := hrel
    by_cases hc : q = 0
    · subst hc
      have hg2 : max p (-p) = Int.gcd a b := by rw [← hg, gcd_zero]
      have Hg := Lib.hid hg2
      clear hg hg2
      go_wp2
      all_goals
        go_ret
        have := Hg.out
        exact ⟨ret_int (by omega), nn, rfl⟩
    · have hm : -4611686018427387904 ≤ p.tmod q ∧ p.tmod q ≤ 4611686018427387904 ∧ (p.tmod q).natAbs < q.natAbs := by
        have := Nat.mod_lt p.natAbs (show q.natAbs > 0 by omega)
        rw [← Int.natAbs_tmod] at this
        omega
      obtain ⟨hm1, hm2, hm3⟩ := hm
      have hz : (q != 0) = true := by simpa using hc
      have hg2 := gcd_step p q
      have Hg := Lib.hid (hg2.trans hg)
      clear hg hg2
      go_wp2
      go_quiet (fail)
      go_wp2
      go_roundw
      case rel => exact ⟨q, p.tmod q, hq1, hq2, hm1, hm2, Hg.out, rfl, rfl, _, World.drewN_drewN _ _ _⟩
      case measure => exact hm3
end Go.Proofs.YtegibpepdndocabGreat
end
