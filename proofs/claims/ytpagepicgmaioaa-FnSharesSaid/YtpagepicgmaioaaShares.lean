import Derived.Test.YtpagepicgmaioaaInts
namespace Go.Proofs.Ytpagepicgmaioaa
open Go.ChangeShapes Go.WideShapes Go.ChangeAt Go.RowKit

/- n in many parts: q each, the first s of them one more -/
def shr (q s i : Nat) : Int := ((q + if i < s then 1 else 0 : Nat) : Int)
def shares (n many k : Nat) : List Int := (List.range k).map (shr (n / many) (n % many))
theorem shares_len (n many k : Nat) : (shares n many k).length = k := by simp [shares]
theorem shares_succ (n many k : Nat) : shares n many (k + 1) = shares n many k ++ [shr (n / many) (n % many) k] := by simp [shares, List.range_succ]
theorem div_at (n m i q : Nat) (hi : i < m) (hq : q = n / m) : ((n : Int) - i + m - 1) / m = shr q (n % m) i := by
  have h1 := Nat.div_add_mod n m
  have h2 := Nat.mod_lt n (show m > 0 by omega)
  rw [← hq] at h1
  unfold shr
  have e : ((n : Int) - i + m - 1) = ((n % m : Nat) - i + m - 1 : Int) + m * q := by
    have : (n : Int) = (m : Int) * q + (n % m : Nat) := by exact_mod_cast h1.symm
    omega
  rw [e, Int.add_mul_ediv_left _ _ (by omega)]
  split
  · rw [show (((n % m : Nat) : Int) - i + m - 1) / m = 1 from by
      rw [show (((n % m : Nat) : Int) - i + m - 1) = ((n % m : Nat) - i - 1 : Int) + m * 1 by omega, Int.add_mul_ediv_left _ _ (by omega), Int.ediv_eq_zero_of_lt (by omega) (by omega)]; rfl]
    omega
  · rw [Int.ediv_eq_zero_of_lt (by omega) (by omega)]; omega
/- what is left ahead of the part i -/
def left (q s m i : Nat) : Nat := q * (m - i) + (s - i)
theorem left_div (q s m i : Nat) (hi : i < m) (hs : s < m) : left q s m i / (m - i) = q ∧ left q s m i % (m - i) = s - i := by
  unfold left
  rw [Nat.mul_comm]
  refine ⟨?_, ?_⟩
  · rw [Nat.mul_add_div (by omega), Nat.div_eq_of_lt (by omega)]; rfl
  · rw [Nat.mul_add_mod, Nat.mod_eq_of_lt (by omega)]
theorem left_next (q s m i : Nat) (hi : i < m) : (left q s m i : Int) - shr q s i = left q s m (i + 1) := by
  unfold left shr
  have e : q * (m - i) = q * (m - (i + 1)) + q := by
    rw [show m - i = m - (i + 1) + 1 by omega, Nat.mul_add]; omega
  split <;> omega

theorem shares_set (n many k : Nat) (h : k < many) : (ints (shares n many k ++ List.replicate (many - k) 0)).set k (.int .i64 (shr (n / many) (n % many) k)) = ints (shares n many (k + 1) ++ List.replicate (many - (k + 1)) 0) := by
  rw [shares_succ, show many - k = (many - (k + 1)) + 1 by omega, List.replicate_succ]
  simp [ints, shares_len]
def InShares (n many : Int) : Prop := 0 ≤ n ∧ n ≤ 1073741824 ∧ 1 ≤ many ∧ many ≤ 100
theorem ishares_no (n many : Int) (w : World) (hs : ¬ InShares n many) :
    Calls Try.prog 35 #[.int .i64 n, .int .i64 many] w fun e w' => ∃ v, e = .returned v ∧ Row w' w.heap.size v [] ∧ Below w.heap.size w w' := by
  unfold InShares at hs
  by_cases h1 : n < 0 ∨ 1073741824 < n
  · clear hs
    go_enter Try.func35, Try.ntmps35
    go_wp2_with (go_at_call 51; refine (within_no n _ _ _ h1).mono ?_; rintro e w' ⟨rfl, rfl⟩)
    go_ret
    exact ⟨_, rfl, World.ownsRow_nil _ _ _ _, Below.refl _ _⟩
  · have ha1 : 0 ≤ n := by omega
    have ha2 : n ≤ 1073741824 := by omega
    have h2 : many < 1 ∨ 100 < many := by omega
    clear hs h1
    go_enter Try.func35, Try.ntmps35
    go_wp2_with (first | (go_at_call 51; (with_reducible refine (within_yes n _ _ _ ha1 ha2).mono ?_); rintro e w' ⟨rfl, rfl⟩) | (go_at_call 51; (with_reducible refine (within_no many _ _ _ h2).mono ?_); rintro e w' ⟨rfl, rfl⟩))
    go_ret
    exact ⟨_, rfl, World.ownsRow_nil _ _ _ _, Below.refl _ _⟩
theorem ishares_yes (n many : Nat) (w : World) (hs : InShares n many) :
    Calls Try.prog 35 #[.int .i64 n, .int .i64 many] w fun e w' => ∃ v, e = .returned v ∧ Row w' w.heap.size v (shares n many many) ∧ Below w.heap.size w w' := by
  obtain ⟨h1, h2, h3, h4⟩ := hs
  obtain ⟨i0, hi, hz0, hz1, hz2⟩ := info_parts info
  go_enter Try.func35, Try.ntmps35
  go_wp2_with (first | (go_at_call 51; (with_reducible refine (within_yes _ _ _ _ (by omega) (by omega)).mono ?_); rintro e w' ⟨rfl, hw⟩; subst hw) | (refine wpList_make_full _ rfl _ _ 32 rfl w.heap.size 3 i0 (.int .i64 0) 1 Try.underlying32 hi hz0 hz1 .i64 .i64 _ _ many rfl rfl rfl rfl (by rw [hz2]; omega) (by unfold maxLen; omega) (Nat.le_refl _) ?_; intro w1 hown hgrow))
  have hb1 : Below w.heap.size w w1 := ⟨hgrow.os, hgrow.tape, hgrow.output, hgrow.size, fun k hk => hgrow.block k hk (by simp)⟩
  have hq : madeCells (Value.int .i64 0).cells (many * 1) = madeCells #[Value.int .i64 0] (many * 1) := rfl
  rw [hq, Nat.mul_one, toList_madeCells_one] at hown
  go_loopw [6, 19] (fun _ i wr => ∃ k : Nat, k ≤ many ∧ i = .int .i64 k ∧ Row wr w.heap.size (.slice (some ⟨w.heap.size, 0, none⟩) many many) (shares n many k ++ List.replicate (many - k) 0) ∧ Below w.heap.size w wr) (fun _ i _ => many - (intOf i).toNat)
  case atStart => exact ⟨0, by omega, rfl, row_of (n := many) (by simp [shares]) (by simpa [shares, ints] using hown), hb1⟩
  case round =>
    obtain ⟨k, hk, rfl, hr, hb⟩ := hrel
    have hlen : (shares n many k ++ List.replicate (many - k) 0).length = many := by simp [shares_len]; omega
    by_cases hc : k < many
    · have hcell := row_cell hr hlen.symm k 0 (by rw [List.getElem?_append_right (by rw [shares_len]; omega), shares_len, Nat.sub_self, List.getElem?_replicate, if_pos (by omega)])
      have hfz := row_frozen hr hlen.symm k
      have hst := World.ownsRow.stored (show _ from by have := hr; unfold Row at this; rw [hlen] at this; exact this) k (.int .i64 (shr (n / many) (n % many) k))
      have hd := div_at n many k (n / many) hc rfl
      have Hst := Lib.hid hst
      have Hd := Lib.hid hd
      have hs0 : (0 : Int) ≤ (n : Int) - k + many - 1 := by omega
      clear hst hd
      go_wp2
      rw [Hd.out]
      go_roundw
      case rel => exact ⟨k + 1, by omega, by go_num, row_of (n := many) (by simp [shares_len]; omega) (shares_set n many k hc ▸ Hst.out.1), hb.setCell (Nat.le_refl _) _⟩
      case measure => simp [intOf]; omega
    · obtain rfl : k = many := by omega
      rw [Nat.sub_self, List.replicate_zero, List.append_nil] at hr
      go_wp2
      go_ret
      exact ⟨_, rfl, hr, hb⟩
/- the reference -/
theorem sshares_no (n many : Int) (w : World) (hs : ¬ InShares n many) :
    Calls Try.prog 37 #[.int .i64 n, .int .i64 many] w fun e w' => ∃ v, e = .returned v ∧ Row w' w.heap.size v [] ∧ Below w.heap.size w w' := by
  unfold InShares at hs
  go_enter Try.func37, Try.ntmps37
  go_wp2
  refine wp_loop_rounds 1 ?_
  rw [rounds_succ]
  by_cases h1 : 0 < many
  · by_cases h2 : n < 0 ∨ 1073741824 < n
    · clear hs
      go_wp2_with (go_at_call 53; refine (l1In_no n _ _ _ h2).mono ?_; rintro e w' ⟨rfl, rfl⟩)
      go_ret
      exact ⟨_, rfl, World.ownsRow_lit w #[] 0 (Nat.le_refl _) (by decide) rfl, (Below.refl _ _).alloc (Nat.le_refl _) _⟩
    · have h3 : 0 ≤ n := by omega
      have h4 : n ≤ 1073741824 := by omega
      have h5 : ¬ many ≤ 100 := by omega
      clear hs h2
      go_wp2_with (go_at_call 53; refine (l1In_yes n _ _ _ h3 h4).mono ?_; rintro e w' ⟨rfl, rfl⟩)
      go_ret
      exact ⟨_, rfl, World.ownsRow_lit w #[] 0 (Nat.le_refl _) (by decide) rfl, (Below.refl _ _).alloc (Nat.le_refl _) _⟩
  · clear hs
    go_wp2
    go_ret
    exact ⟨_, rfl, World.ownsRow_lit w #[] 0 (Nat.le_refl _) (by decide) rfl, (Below.refl _ _).alloc (Nat.le_refl _) _⟩
theorem sshares_yes (n many : Nat) (w : World) (hs : InShares n many) :
    Calls Try.prog 37 #[.int .i64 n, .int .i64 many] w fun e w' => ∃ v, e = .returned v ∧ Row w' w.heap.size v (shares n many many) ∧ Below w.heap.size w w' := by
  obtain ⟨h1, h2, h3, h4⟩ := hs
  obtain ⟨i0, hi, hz0, hz1, hz2⟩ := info_parts info
  have hsm : n % many < many := Nat.mod_lt _ (by omega)
  have hl0 : left (n / many) (n % many) many 0 = n := by
    have := Nat.div_add_mod n many
    unfold left; rw [Nat.mul_comm]; simpa using this
  have hle : ∀ k, left (n / many) (n % many) many k ≤ n := fun k => by
    conv => rhs; rw [← hl0]
    unfold left
    exact Nat.add_le_add (Nat.mul_le_mul_left _ (by omega)) (by omega)
  have Hle := Lib.hid hle
  have Hl0 := Lib.hid hl0
  clear hle hl0
  go_enter Try.func37, Try.ntmps37
  go_wp2
  go_loopw [0, 5, 6, 7] (fun r v i _ wr => ∃ k : Nat, k ≤ many ∧ i = .int .i64 k ∧ r = .int .i64 (left (n / many) (n % many) many k) ∧ Row wr w.heap.size v (shares n many k) ∧ Below w.heap.size w wr) (fun _ _ i _ _ => many - (intOf i).toNat)
  case atStart => exact ⟨0, by omega, rfl, by rw [Hl0.out], World.ownsRow_lit w #[] 0 (Nat.le_refl _) (by decide) rfl, (Below.refl _ _).alloc (Nat.le_refl _) _⟩
  case round =>
    obtain ⟨k, hk, rfl, rfl, hr, hb⟩ := hrel
    by_cases hc : k < many
    · have hL := Hle.out k
      have ⟨hd1, hd2⟩ := left_div (n / many) (n % many) many k hc hsm
      have hn := left_next (n / many) (n % many) many k hc
      have hQ : (left (n / many) (n % many) many k : Int) / ((many : Int) - k) = (n / many : Nat) := by
        rw [show (many : Int) - k = (many - k : Nat) by omega]; exact_mod_cast hd1
      have hR : (left (n / many) (n % many) many k : Int) % ((many : Int) - k) = (n % many - k : Nat) := by
        rw [show (many : Int) - k = (many - k : Nat) by omega]; exact_mod_cast hd2
      have hq1 : (0 : Int) ≤ (left (n / many) (n % many) many k : Int) / ((many : Int) - k) := by rw [hQ]; exact Int.natCast_nonneg _
      have hq3 := Nat.div_le_self n many
      have hq2 : (left (n / many) (n % many) many k : Int) / ((many : Int) - k) ≤ 1073741824 := by
        rw [hQ]
        exact Int.le_trans (by exact_mod_cast hq3) h2
      have HQ := Lib.hid hQ
      have Hn := Lib.hid hn
      have h31 : (1 : Int) ≤ (many : Int) - k := by omega
      have hsl : (shares n many k).length = k := shares_len n many k
      have Hsl := Lib.hid hsl
      have hrow : ∀ (v' : Value) (w' : World), Row w' w.heap.size v' (shares n many k ++ [shr (n / many) (n % many) k]) → Row w' w.heap.size v' (shares n many (k + 1)) := fun v' w' h => by rw [shares_succ]; exact h
      have Hrow := Lib.hid hrow
      have hsh : 0 ≤ shr (n / many) (n % many) k ∧ shr (n / many) (n % many) k ≤ 1073741825 := by unfold shr; split <;> omega
      obtain ⟨hsh1, hsh2⟩ := hsh
      clear hrow
      by_cases hm : k < n % many
      · have hR2 : 0 < (left (n / many) (n % many) many k : Int) % ((many : Int) - k) := by rw [hR]; omega
        have hv : ((n / many : Nat) : Int) + 1 = shr (n / many) (n % many) k := by unfold shr; rw [if_pos hm]; omega
        have Hv := Lib.hid hv
        clear hQ hn hR hv hd1 hd2 hsl
        go_wp2_with (first | (go_at_call 53; (with_reducible refine (l1In_yes _ _ _ _ (by omega) (by omega)).mono ?_); rintro e w' ⟨rfl, hw⟩; subst hw) | (at_builtin; (rw [HQ.out, Hv.out]; refine append_int wr rfl _ _ rfl w.heap.size _ _ _ hr rfl rfl (by rw [Hsl.out]; omega) hb.size ?_; intro v' w1 hr1 hg1)))
        rw [Hn.out]
        go_roundw
        case rel => exact ⟨k + 1, by omega, by go_num, rfl, Hrow.out _ _ hr1, hb.grown hg1 hb.size (fun g hg => (World.ownsRow.lt hr g hg).1)⟩
        case measure => simp [intOf]; omega
      · have hR2 : ¬ 0 < (left (n / many) (n % many) many k : Int) % ((many : Int) - k) := by rw [hR]; omega
        have hv : ((n / many : Nat) : Int) = shr (n / many) (n % many) k := by unfold shr; rw [if_neg hm]; rfl
        have Hv := Lib.hid hv
        clear hQ hn hR hv hd1 hd2 hsl
        go_wp2_with (first | (go_at_call 53; (with_reducible refine (l1In_yes _ _ _ _ (by omega) (by omega)).mono ?_); rintro e w' ⟨rfl, hw⟩; subst hw) | (at_builtin; (rw [HQ.out, Hv.out]; refine append_int wr rfl _ _ rfl w.heap.size _ _ _ hr rfl rfl (by rw [Hsl.out]; omega) hb.size ?_; intro v' w1 hr1 hg1)))
        rw [Hn.out]
        go_roundw
        case rel => exact ⟨k + 1, by omega, by go_num, rfl, Hrow.out _ _ hr1, hb.grown hg1 hb.size (fun g hg => (World.ownsRow.lt hr g hg).1)⟩
        case measure => simp [intOf]; omega
    · obtain rfl : k = many := by omega
      go_wp2
      go_ret
      exact ⟨_, rfl, hr, hb⟩
end Go.Proofs.Ytpagepicgmaioaa
