import Derived.Below
import Derived.BigQuiet
import Derived.Deep.OwnRows
import Derived.Deep.QuietTactic
import Derived.IntWalk
import Derived.Lib.Hide
import Derived.LoopTactic
import Derived.OpenShut
import Derived.Outline
import Derived.OwnWalk
import Derived.ProofKit
import Derived.RowKit
import Derived.Test.YtegibpepdndocabGreatRows
import Derived.WalkKit
section
namespace Go.Proofs.YtegibpepdndocabGreat
open Go.ChangeShapes Go.WideShapes Go.ChangeAt Go.RowKit

theorem laidOut : laidOutB Tryz.prog = true := by kernel_rfl
/- arguments read as they did in every world that holds the same below the first world's end -/
theorem stay_all {H : Type} {enc : TypeId × Value → H} {P : Program} (hl : laidOutB P = true) {W W' : World} (hb : Below W.heap.size W W') {sp : Nat → Bool} :
    ∀ (ts : List TypeId) (vs : List Value) (ds : List (DataW H)) (ps : List MemPlace), (∀ t ∈ ts, P.readableRec t = true ∧ t < P.types.size) → DataW.TrodAll enc P W 0 (fun _ => true) true ts vs ds ps →
      (∀ p ∈ ps, p.block < W.heap.size) → (∀ p ∈ ps, sp p.block = true) → DataW.TrodAll enc P W' 0 sp true ts vs ds ps
  | [], _, _, _, _, h, _, _ => by
    obtain ⟨rfl, rfl, rfl⟩ := trodAll_nil h
    exact trodAll_mk0
  | t :: ts, _, _, _, hr, h, hlt, hsp => by
    obtain ⟨v, vs1, d, ds1, p, q, rfl, rfl, rfl, h1, h2⟩ := trodAll_cons h
    have ht := hr t (by simp)
    exact trodAll_cons_mk (WideElems.Trod_stays hl ht.1 ht.2 h1 (fun x hx => hb.same (hlt x (by simp [hx]))) (fun x hx => hsp x (by simp [hx])))
      (stay_all hl hb ts vs1 ds1 q (fun t' h' => hr t' (by simp [h'])) h2 (fun x hx => hlt x (by simp [hx])) (fun x hx => hsp x (by simp [hx])))
/- the row's last step for a law: it answers true and nothing that was there has turned -/
theorem post_law {H : Type} {enc : TypeId × Value → H} {P : Program} {f : Func} {s : ChangeSpec} {W W' : World} {args : Array Value} {ds gs : List (DataW H)} {before : List MemPlace}
    (hl : laidOutB P = true) (hW : DataW.Whole enc P f.params.toList s.vars false W args.toList ds gs before) (hb : Below W.heap.size W W')
    (hA : DataW.TrodAll enc P W 0 (fun _ => true) true f.params.toList args.toList ds before) (hr : ∀ t ∈ f.params.toList, P.readableRec t = true ∧ t < P.types.size)
    (hf : s.fn H (ds ++ gs) = { results := [.lit (.bool true)], args := ds }) (hv : s.vars = []) {tb : TypeId} (hres : f.resultTypes = #[tb]) (hbool : P.underlying tb = some .bool) :
    s.post enc P f false true false false W args (.bool true) W' := by
  have low : ∀ p ∈ before, p.block < W.heap.size := fun p hp => hW.lt p hp
  have kept : W.keptBut W' (fun p => p ∈ before ∧ (p ∈ [] ∨ p ∈ before ∨ p ∈ [])) := hb.frame _
  have hlow : ∀ p ∈ before, (fun b => decide (b < W.heap.size)) p.block = true := fun p hp => decide_eq_true (low p hp)
  refine ⟨ds, gs, before, [], before, [], hW, ?_, ?_, ?_, kept, by simp⟩
  · rw [hf, hres]; exact trodAll_cons_mk (p := []) (p' := []) (shut_bool hbool true) trodAll_mk0
  · rw [hf]; exact stay_all hl hb _ _ _ _ hr hA low hlow
  · rw [hf, hv]; rfl
end Go.Proofs.YtegibpepdndocabGreat
end
section
namespace Go.Proofs.YtegibpepdndocabGreat
open Go.RowKit (wrap64)

def Small (a b : Int) : Prop := b ≠ 0 ∧ -4611686018427387904 ≤ a ∧ a ≤ 4611686018427387904 ∧ -4611686018427387904 ≤ b ∧ b ≤ 4611686018427387904
theorem tdiv_bd (a b : Int) (hs : Small a b) : -4611686018427387904 ≤ a.tdiv b ∧ a.tdiv b ≤ 4611686018427387904 := by
  obtain ⟨h0, h1, h2, h3, h4⟩ := hs
  have := Int.natAbs_tdiv_le_natAbs a b
  omega
theorem tdiv_mul_bd (a b : Int) (hs : Small a b) : -4611686018427387904 ≤ a.tdiv b * b ∧ a.tdiv b * b ≤ 4611686018427387904 := by
  obtain ⟨h0, h1, h2, h3, h4⟩ := hs
  have h5 := Int.mul_tdiv_add_tmod a b
  rw [Int.mul_comm] at h5
  by_cases ha : 0 ≤ a
  · have := Int.tmod_nonneg b ha
    have h6 : (a.tdiv b * b).natAbs ≤ a.natAbs := by
      rw [Int.natAbs_mul, Int.natAbs_tdiv]; exact Nat.div_mul_le_self _ _
    omega
  · have h6 : (a.tdiv b * b).natAbs ≤ a.natAbs := by
      rw [Int.natAbs_mul, Int.natAbs_tdiv]; exact Nat.div_mul_le_self _ _
    omega
theorem wrap64_of (n : Int) (h1 : -9223372036854775808 ≤ n) (h2 : n ≤ 9223372036854775807) : wrap64 n = n := by unfold wrap64; omega

theorem fdiv_of (a b q r : Int) (h : b * q + r = a) (hr : (0 < b ∧ 0 ≤ r ∧ r < b) ∨ (b < 0 ∧ b < r ∧ r ≤ 0)) : a.fdiv b = q := by
  subst h
  rcases hr with ⟨hb, h1, h2⟩ | ⟨hb, h1, h2⟩
  · rw [Int.fdiv_eq_ediv_of_nonneg _ (by omega), Int.add_comm, Int.add_mul_ediv_left _ _ (by omega), Int.ediv_eq_zero_of_lt h1 h2]; omega
  · have : (b * q + r).fdiv b = (-(b * q + r)).fdiv (-b) := by rw [Int.neg_fdiv_neg]
    rw [this, Int.fdiv_eq_ediv_of_nonneg _ (by omega)]
    have e : -(b * q + r) = -r + (-b) * q := by rw [Int.neg_mul]; omega
    rw [e, Int.add_mul_ediv_left _ _ (by omega), Int.ediv_eq_zero_of_lt (by omega) (by omega)]; omega
theorem tmod_fact (a b : Int) (hb : b ≠ 0) : ∃ r, b * a.tdiv b + r = a ∧ r = a.tmod b ∧ (0 ≤ a → 0 ≤ r) ∧ (a ≤ 0 → r ≤ 0) ∧ (r < b ∨ r < -b) ∧ (-b < r ∨ b < r) ∧ (a.tdiv b * b = a ↔ r = 0) := by
  have h5 := Int.mul_tdiv_add_tmod a b
  have hn : (a.tmod b).natAbs < b.natAbs := by rw [Int.natAbs_tmod]; exact Nat.mod_lt _ (by omega)
  refine ⟨a.tmod b, h5, rfl, fun h => Int.tmod_nonneg b h, fun h => ?_, by omega, by omega, ?_⟩
  · have h6 : (-a).tmod b = -(a.tmod b) := Int.neg_tmod ..
    have := Int.tmod_nonneg b (show 0 ≤ -a by omega)
    omega
  · rw [Int.mul_comm]; omega
/- the floor, from the quotient that drops -/
theorem floor_down (a b : Int) (hb : b ≠ 0) (h : a.tdiv b * b ≠ a) (hx : ¬ (a < 0 ↔ b < 0)) : a.tdiv b - 1 = a.fdiv b := by
  obtain ⟨r, h1, _, h2, h3, h4, h5, h6⟩ := tmod_fact a b hb
  refine (fdiv_of a b _ (r + b) (by rw [Int.mul_sub]; omega) ?_).symm
  have : r ≠ 0 := fun e => h (h6.2 e)
  omega
theorem floor_same (a b : Int) (hb : b ≠ 0) (h : a.tdiv b * b = a ∨ (a < 0 ↔ b < 0)) : a.tdiv b = a.fdiv b := by
  obtain ⟨r, h1, _, h2, h3, h4, h5, h6⟩ := tmod_fact a b hb
  refine (fdiv_of a b _ r h1 ?_).symm
  rcases h with h | h
  · have := h6.1 h; omega
  · omega
/- the root -/
def rt : Nat → Nat
  | 0 => 0
  | n + 1 => if (rt n + 1) * (rt n + 1) ≤ n + 1 then rt n + 1 else rt n
theorem rt_spec (n : Nat) : rt n * rt n ≤ n ∧ n < (rt n + 1) * (rt n + 1) := by
  induction n with
  | zero => simp [rt]
  | succ n ih =>
    unfold rt
    split
    · rename_i h
      refine ⟨h, ?_⟩
      have e : (rt n + 1 + 1) * (rt n + 1 + 1) = (rt n + 1) * (rt n + 1) + 2 * (rt n + 1) + 1 := by
        rw [Nat.add_mul (rt n + 1) 1, Nat.mul_add (rt n + 1) (rt n + 1) 1]; omega
      omega
    · omega
theorem sq_le_imp (a b : Nat) (h : a * a < b * b) : a < b := by
  apply Nat.lt_of_not_le
  intro hb
  have := Nat.mul_le_mul hb hb
  omega
theorem rt_of (n r : Nat) (h1 : r * r ≤ n) (h2 : n < (r + 1) * (r + 1)) : rt n = r := by
  have ⟨a, b⟩ := rt_spec n
  have := sq_le_imp (rt n) (r + 1) (by omega)
  have := sq_le_imp r (rt n + 1) (by omega)
  omega
attribute [irreducible] rt
theorem rt_lt (n k : Nat) (h : n < k * k) : rt n < k := by
  have ⟨a, b⟩ := rt_spec n
  exact sq_le_imp _ _ (by omega)
theorem le_rt (n k : Nat) (h : k * k ≤ n) : k ≤ rt n := by
  have ⟨a, b⟩ := rt_spec n
  have := sq_le_imp k (rt n + 1) (by omega)
  omega
end Go.Proofs.YtegibpepdndocabGreat
end
section
namespace Go.Proofs.YtegibpepdndocabGreat
open Go.ChangeShapes Go.WideShapes Go.ChangeAt Go.RowKit

theorem ret_int {k : IntKind} {a b : Int} (h : a = b) : Ending.returned (.int k a) = .returned (.int k b) := by rw [h]

theorem within_yes (n l h : Int) (w : World) (h1 : l ≤ n) (h2 : n ≤ h) :
    Calls Tryz.prog 79 #[.int .i64 n, .int .i64 l, .int .i64 h] w fun e w' => e = .returned (.bool true) ∧ w = w' := by
  go_enter Tryz.func79, Tryz.ntmps79
  go_wp2
  go_ret
  exact ⟨rfl, rfl⟩
theorem within_no (n l h : Int) (w : World) (h1 : n < l ∨ h < n) :
    Calls Tryz.prog 79 #[.int .i64 n, .int .i64 l, .int .i64 h] w fun e w' => e = .returned (.bool false) ∧ w = w' := by
  by_cases hl : l ≤ n
  · have h2 : ¬ n ≤ h := by omega
    clear h1
    go_enter Tryz.func79, Tryz.ntmps79
    go_wp2
    go_ret
    exact ⟨rfl, rfl⟩
  · clear h1
    go_enter Tryz.func79, Tryz.ntmps79
    go_wp2
    go_ret
    exact ⟨rfl, rfl⟩
theorem l1In_yes (n l h : Int) (w : World) (h1 : l ≤ n) (h2 : n ≤ h) :
    Calls Tryz.prog 72 #[.int .i64 n, .int .i64 l, .int .i64 h] w fun e w' => e = .returned (.bool true) ∧ w = w' := by
  go_enter Tryz.func72, Tryz.ntmps72
  go_wp2
  go_ret
  exact ⟨rfl, rfl⟩
theorem l1In_no (n l h : Int) (w : World) (h1 : n < l ∨ h < n) :
    Calls Tryz.prog 72 #[.int .i64 n, .int .i64 l, .int .i64 h] w fun e w' => e = .returned (.bool false) ∧ w = w' := by
  by_cases hl : l ≤ n
  · have h2 : ¬ n ≤ h := by omega
    clear h1
    go_enter Tryz.func72, Tryz.ntmps72
    go_wp2
    go_ret
    exact ⟨rfl, rfl⟩
  · clear h1
    go_enter Tryz.func72, Tryz.ntmps72
    go_wp2
    go_ret
    exact ⟨rfl, rfl⟩
theorem divides_yes (a b : Int) (w : World) (hs : Small a b) :
    Calls Tryz.prog 233 #[.int .i64 a, .int .i64 b] w fun e w' => e = .returned (.bool true) ∧ w = w' := by
  obtain ⟨h0, h1, h2, h3, h4⟩ := hs
  have hb : (b != 0) = true := by simpa using h0
  go_enter Tryz.func233, Tryz.ntmps233
  go_wp2_with (go_at_call 79; refine (within_yes _ _ _ _ (by omega) (by omega)).mono ?_; rintro e w' ⟨rfl, rfl⟩)
  go_ret
  exact ⟨rfl, rfl⟩
theorem divides_no (a b : Int) (w : World) (hs : ¬ Small a b) :
    Calls Tryz.prog 233 #[.int .i64 a, .int .i64 b] w fun e w' => e = .returned (.bool false) ∧ w = w' := by
  unfold Small at hs
  by_cases h0 : b = 0
  · subst h0
    go_enter Tryz.func233, Tryz.ntmps233
    go_wp2
    go_ret
    exact ⟨rfl, rfl⟩
  have hb : (b != 0) = true := by simpa using h0
  by_cases h1 : a < -4611686018427387904 ∨ 4611686018427387904 < a
  · clear hs
    go_enter Tryz.func233, Tryz.ntmps233
    go_wp2_with (go_at_call 79; refine (within_no _ _ _ _ h1).mono ?_; rintro e w' ⟨rfl, rfl⟩)
    go_ret
    exact ⟨rfl, rfl⟩
  · have ha1 : -4611686018427387904 ≤ a := by omega
    have ha2 : a ≤ 4611686018427387904 := by omega
    have h2 : b < -4611686018427387904 ∨ 4611686018427387904 < b := by omega
    clear hs h1
    go_enter Tryz.func233, Tryz.ntmps233
    go_wp2_with (first | (go_at_call 79; (with_reducible refine (within_yes a _ _ _ ha1 ha2).mono ?_); rintro e w' ⟨rfl, rfl⟩) | (go_at_call 79; (with_reducible refine (within_no b _ _ _ h2).mono ?_); rintro e w' ⟨rfl, rfl⟩))
    go_ret
    exact ⟨rfl, rfl⟩

theorem nx {p q : Prop} [Decidable p] [Decidable q] (h : (!decide p == decide q) = true) : ¬ (p ↔ q) := by by_cases hp : p <;> by_cases hq : q <;> simp_all
theorem ny {p q : Prop} [Decidable p] [Decidable q] (h : (!decide p == decide q) = false) : p ↔ q := by by_cases hp : p <;> by_cases hq : q <;> simp_all
theorem bz {a b : Int} (h : (a != b) = false) : a = b := by simpa using h
theorem floor_yes (a b : Int) (w : World) (hs : Small a b) :
    Calls Tryz.prog 229 #[.int .i64 a, .int .i64 b] w fun e w' => e = .returned (.int .i64 (a.fdiv b)) ∧ w = w' := by
  have ⟨ht, ht'⟩ := tdiv_bd a b hs
  have ⟨hm, hm'⟩ := tdiv_mul_bd a b hs
  have H := Lib.hid hs
  obtain ⟨h0, h1, h2, h3, h4⟩ := hs
  go_enter Tryz.func229, Tryz.ntmps229
  go_wp2_with (go_at_call 233; refine (divides_yes _ _ _ H.out).mono ?_; rintro e w' ⟨rfl, rfl⟩)
  all_goals
    go_ret
    refine ⟨ret_int ?_, rfl⟩
  · rename_i x; exact floor_same a b h0 (.inl x)
  · rename_i x y; exact floor_down a b h0 x (nx y.2)
  · rename_i x y; exact floor_same a b h0 (y.imp bz ny)
theorem floor_no (a b : Int) (w : World) (hs : ¬ Small a b) :
    Calls Tryz.prog 229 #[.int .i64 a, .int .i64 b] w fun e w' => e = .returned (.int .i64 0) ∧ w = w' := by
  have H := Lib.hid hs
  clear hs
  go_enter Tryz.func229, Tryz.ntmps229
  go_wp2_with (go_at_call 233; refine (divides_no _ _ _ H.out).mono ?_; rintro e w' ⟨rfl, rfl⟩)
  go_ret
  exact ⟨rfl, rfl⟩
theorem l1Floor_yes (a b : Int) (w : World) (hs : Small a b) :
    Calls Tryz.prog 200 #[.int .i64 a, .int .i64 b] w fun e w' => e = .returned (.int .i64 (a.fdiv b)) ∧ w = w' := by
  have ⟨ht, ht'⟩ := tdiv_bd a b hs
  have H := Lib.hid hs
  obtain ⟨h0, h1, h2, h3, h4⟩ := hs
  have h6 : a.tmod b = 0 ↔ a.tdiv b * b = a := by
    obtain ⟨_, h1, rfl, h2, h3, h4, h5, h6⟩ := tmod_fact a b h0
    exact h6.symm
  have H6 := Lib.hid h6
  clear h6
  go_enter Tryz.func200, Tryz.ntmps200
  go_wp2
  all_goals
    go_ret
    refine ⟨ret_int ?_, rfl⟩
  · rename_i x; exact floor_same a b h0 (.inl (H6.out.1 x))
  · rename_i x y; exact floor_down a b h0 (fun e => x (H6.out.2 e)) (nx y.2)
  · rename_i x y; exact floor_same a b h0 (y.imp (fun e => H6.out.1 (bz e)) ny)
end Go.Proofs.YtegibpepdndocabGreat
end
section
namespace Go.Proofs.YtegibpepdndocabGreat
open Go.ChangeShapes Go.WideShapes Go.ChangeAt Go.RowKit

/- slices of integers -/
abbrev ints (zs : List Int) : List Value := zs.map (Value.int .i64)
/- the slice value v of world w lies alone in a block from B on and reads as zs -/
def Row (w : World) (B : Nat) (v : Value) (zs : List Int) : Prop := w.ownsRow B 3 1 v zs.length (ints zs)

theorem by_trans {a b c : World} {r : Option Nat} (h : a.grownBy b r) (k : b.grownBy c r) : a.grownBy c r :=
  ⟨k.os.trans h.os, k.tape.trans h.tape, k.output.trans h.output, Nat.le_trans h.size k.size, fun i hi hn => (k.block i (Nat.lt_of_lt_of_le hi h.size) hn).trans (h.block i hi hn)⟩

theorem info : (Tryz.prog.info? 3).map (fun i => (i.zero, i.size, i.bytes)) = some (some (.int .i64 0), 1, 8) := by kernel_rfl
end Go.Proofs.YtegibpepdndocabGreat
end
