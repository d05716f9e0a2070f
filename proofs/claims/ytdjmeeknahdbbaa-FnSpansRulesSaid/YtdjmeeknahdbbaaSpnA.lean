
import Derived.Test.YtdjmeeknahdbbaaSpnO
namespace Go.Proofs.Ytdjmeeknahdbbaa
open Go.ChangeShapes Go.WideShapes Go.ChangeAt Go.RowKit
set_option maxHeartbeats 1000000
set_option linter.unusedSimpArgs false
attribute [local go_sem] VGo_value VGo_skip VGo_enter

theorem retN {a b : Int} (h : a = b) : Ending.returned (.int .i64 b) = .returned (.int .i64 a) := by rw [h]
theorem hit_false {s : Sp} {t : Int} (h : ¬ (s.f ≤ t ∧ t < s.t)) : spHit s t = false := by
  simp only [spHit, Bool.and_eq_false_iff, decide_eq_false_iff_not]; omega
theorem hit_true {s : Sp} {t : Int} (h : s.f ≤ t ∧ t < s.t) : spHit s t = true := by
  simp only [spHit, Bool.and_eq_true, decide_eq_true_eq]; exact h
/- none of the first spans has t -/
def NoHit (l : List Sp) (t : Int) (n : Nat) : Prop := ∀ k (h : k < l.length), k < n → spHit l[k] t = false
theorem noHit_succ {l : List Sp} {t : Int} {n : Nat} (h : NoHit l t n) (hn : n < l.length) (hh : ¬ (l[n].f ≤ t ∧ t < l[n].t)) : NoHit l t (n + 1) := fun k hk hlt => by
  rcases Nat.lt_or_ge k n with h1 | h1
  · exact h k hk h1
  · have e : k = n := by omega
    subst e; exact hit_false hh
theorem noHit_at {l : List Sp} {t : Int} {n : Nat} (h : NoHit l t n) (hn : n < l.length) (hh : l[n].f ≤ t ∧ t < l[n].t) : spAt l t = n := spAt_hit hn (hit_true hh) fun j hj => h j _ hj
theorem noHit_none {l : List Sp} {t : Int} (h : NoHit l t l.length) : spAt l t = -1 := spAt_none fun j hj => h j hj hj
theorem l5At_any (l : List Sp) (v : Value) (t : Int) (w : World) (h : SIn w v l) (hl : l.length ≤ 9223372036854775807) :
    Calls Try.prog 94 #[v, .int .i64 t] w fun e w' => e = .returned (.int .i64 (spAt l t)) ∧ w = w' := by
  obtain ⟨A, c, rfl, hA⟩ := h
  have HA := Lib.hid hA
  clear hA
  go_enter Try.func94, Try.ntmps94
  go_wp2
  go_loop [5] (fun i => ∃ j : Nat, j ≤ l.length ∧ i = .int .i64 j ∧ NoHit l t j) (fun i => l.length - (intOf i).toNat)
  case atStart => exact ⟨0, by omega, rfl, fun k _ h => by omega⟩
  case round =>
    obtain ⟨j, hj, rfl, hp⟩ := hrel
    have HP := Lib.hid hp
    clear hp
    by_cases hc : j < l.length
    · obtain ⟨b, off, rfl, hf⟩ := HA.out (by omega)
      obtain ⟨c0, c1, c2, c3⟩ := hf j hc
      clear hf
      by_cases hh : l[j].f ≤ t ∧ t < l[j].t
      · have H := Lib.hid (noHit_at HP.out hc hh)
        obtain ⟨h1, h2⟩ := hh
        go_wp2
        go_ret
        exact ⟨retN H.out, rfl⟩
      · have H := Lib.hid (noHit_succ HP.out hc hh)
        by_cases h1 : l[j].f ≤ t
        · have h2 : decide (t < l[j].t) = false := by simpa [h1] using hh
          clear hh
          go_wp2
          go_round
          case rel => exact ⟨j + 1, by omega, by go_num, H.out⟩
          case measure => simp [intOf]; omega
        · have h2 : decide (l[j].f ≤ t) = false := by simpa using h1
          clear hh h1
          go_wp2
          go_round
          case rel => exact ⟨j + 1, by omega, by go_num, H.out⟩
          case measure => simp [intOf]; omega
    · obtain rfl : j = l.length := by omega
      have H := Lib.hid (noHit_none HP.out)
      go_wp2
      go_ret
      exact ⟨retN H.out, rfl⟩
/- which span a part is in, if the spans are ones -/
def spAtOk (l : List Sp) (t : Int) : Int := if sOk l then spAt l t else -1
theorem sspansAt_any (l : List Sp) (v : Value) (t : Int) (w : World) (h : SIn w v l) (hl : l.length ≤ 9223372036854775807) :
    Calls Try.prog 50 #[v, .int .i64 t] w fun e w' => e = .returned (.int .i64 (spAtOk l t)) ∧ Below w.heap.size w w' := by
  have H := Lib.hid h
  unfold spAtOk
  cases hk : sOk l
  · go_enter Try.func50, Try.ntmps50
    go_wp2_with (go_at_call 43; refine (sspansOk_any l _ _ H.out hl).mono ?_; rintro e w' ⟨rfl, hbq⟩; rw [hk])
    go_ret
    exact ⟨rfl, hbq⟩
  · go_enter Try.func50, Try.ntmps50
    go_wp2_with (first | (go_at_call 43; refine (sspansOk_any l _ _ H.out hl).mono ?_; rintro e w' ⟨rfl, hbq⟩; rw [hk]; have H2 := Lib.hid (H.out.below hbq)) | (go_at_call 94; ((with_reducible refine (l5At_any l _ t _ H2.out hl).mono ?_); rintro e w' ⟨rfl, rfl⟩)))
    go_ret
    exact ⟨rfl, hbq⟩
theorem ispansAt_any (l : List Sp) (v : Value) (t : Int) (w : World) (h : SIn w v l) (hl : l.length ≤ 9223372036854775807) :
    Calls Try.prog 44 #[v, .int .i64 t] w fun e w' => e = .returned (.int .i64 (spAtOk l t)) ∧ Below w.heap.size w w' := by
  have H := Lib.hid h
  unfold spAtOk
  cases hk : sOk l
  · go_enter Try.func44, Try.ntmps44
    go_wp2_with (go_at_call 42; refine (ispansOk_any l _ _ H.out hl).mono ?_; rintro e w' ⟨rfl, hbq⟩; rw [hk])
    go_ret
    exact ⟨rfl, hbq⟩
  · obtain ⟨A, c, rfl, hA⟩ := h
    have HA := Lib.hid hA
    clear hA
    go_enter Try.func44, Try.ntmps44
    go_wp2_with (go_at_call 42; refine (ispansOk_any l _ _ H.out hl).mono ?_; rintro e w1 ⟨rfl, hb1⟩; rw [hk])
    go_loopw [12] (fun i wr => ∃ j : Nat, j ≤ l.length ∧ i = .int .i64 j ∧ NoHit l t j ∧ Below w.heap.size w wr) (fun i _ => l.length - (intOf i).toNat)
    case atStart => exact ⟨0, by omega, rfl, fun k _ h => by omega, hb1⟩
    case round =>
      obtain ⟨j, hj, rfl, hp, hb⟩ := hrel
      have HP := Lib.hid hp
      clear hp
      by_cases hc : j < l.length
      · obtain ⟨b, off, rfl, hf⟩ := HA.out (by omega)
        obtain ⟨c0, c1, c2, c3⟩ := (hf j hc).below hb
        clear hf
        go_upto_region 6 with fail
        refine (fun (k : ∀ wm, Has wm wr.heap.size #[.int .i64 l[j].f, .int .i64 l[j].t, .int .i64 l[j].i, .int .i64 l[j].o] 60 → Below w.heap.size w wm → Code.wp _ _ _ _ wm) => k _ ?_ ?_) ?_
        · (refine Has.as (by repeat' (first | with_reducible assumption | with_reducible apply Has.new | with_reducible apply Has.new1 | with_reducible apply Has.new2 | with_reducible apply Has.new3 | with_reducible apply Has.new4 | with_reducible apply Has.drew | with_reducible apply Has.drewN | with_reducible apply Has.alloc | with_reducible apply Has.same | with_reducible apply Has.other | (with_reducible show _ ≠ _; first | omega | (simp; done)))) ?_; first | (with_reducible rfl) | (simp only [List.setIfInBounds_toArray, List.set_cons_zero, List.set_cons_succ]; done) | (simp only [List.setIfInBounds_toArray, List.set_cons_zero, List.set_cons_succ]; rfl) | rfl | (simp; done))
        · repeat' (first | with_reducible exact lowRefl _ | with_reducible apply lowSet | with_reducible apply lowDrew | with_reducible apply lowDrewN | with_reducible apply lowAlloc | (with_reducible refine lowCall ?_ (by assumption)) | (show (_ : Nat) ≤ _; first | (simp; done) | (simp; omega) | omega))
        generalize wr.heap.size = bX
        clear hb c0 c1 c2 c3 wr
        intro wr BX hb
        have CX := Has.cell BX
        by_cases hh : l[j].f ≤ t ∧ t < l[j].t
        · have H := Lib.hid (noHit_at HP.out hc hh)
          obtain ⟨h1, h2⟩ := hh
          go_wp2
          go_ret
          exact ⟨retN H.out, hb⟩
        · have H := Lib.hid (noHit_succ HP.out hc hh)
          by_cases h1 : l[j].f ≤ t
          · have h2 : decide (t < l[j].t) = false := by simpa [h1] using hh
            clear hh
            go_wp2
            go_roundw
            case rel => exact ⟨j + 1, by omega, by go_num, H.out, hb⟩
            case measure => simp [intOf]; omega
          · have h2 : decide (l[j].f ≤ t) = false := by simpa using h1
            clear hh h1
            go_wp2
            go_roundw
            case rel => exact ⟨j + 1, by omega, by go_num, H.out, hb⟩
            case measure => simp [intOf]; omega
      · obtain rfl : j = l.length := by omega
        have H := Lib.hid (noHit_none HP.out)
        go_wp2
        go_ret
        exact ⟨retN H.out, hb⟩
/- how much there is -/
theorem sspansLong_any (l : List Sp) (v : Value) (w : World) (h : SIn w v l) (hl : l.length ≤ 9223372036854775807) :
    Calls Try.prog 51 #[v] w fun e w' => e = .returned (.int .i64 (spLong l)) ∧ Below w.heap.size w w' := by
  have H := Lib.hid h
  unfold spLong
  cases hk : sOk l
  · go_enter Try.func51, Try.ntmps51
    go_wp2_with (go_at_call 43; refine (sspansOk_any l _ _ H.out hl).mono ?_; rintro e w' ⟨rfl, hbq⟩; rw [hk])
    go_ret
    exact ⟨rfl, hbq⟩
  · obtain ⟨hlen, hgood⟩ := (sOk_iff l).1 hk
    have HG := Lib.hid hgood
    have SB := Lib.hid (spSum_bd hgood)
    clear hgood
    obtain ⟨A, c, rfl, hA⟩ := h
    have HA := Lib.hid hA
    clear hA
    go_enter Try.func51, Try.ntmps51
    go_wp2_with (go_at_call 43; refine (sspansOk_any l _ _ H.out hl).mono ?_; rintro e w1 ⟨rfl, hb1⟩; rw [hk])
    go_loopw [3, 4] (fun n i wr => ∃ j : Nat, j ≤ l.length ∧ i = .int .i64 j ∧ n = .int .i64 (spSum (l.take j)) ∧ Below w.heap.size w wr) (fun _ i _ => l.length - (intOf i).toNat)
    case atStart => exact ⟨0, by omega, rfl, rfl, hb1⟩
    case round =>
      obtain ⟨j, hj, rfl, rfl, hb⟩ := hrel
      by_cases hc : j < l.length
      · obtain ⟨b, off, rfl, hf⟩ := HA.out (by omega)
        have NL : ∀ w', Below wr.drew.heap.size wr.drew w' → Four w' b (off + j * 4) l[j] := fun w' h => ((hf j hc).below hb).below (undrew h)
        clear hf
        have hg := (HG.out j hc).1
        unfold SpGood at hg
        obtain ⟨h1, h2, h3, h4, h5, _⟩ := hg
        have hs := SB.out j (by omega)
        have ES := Lib.hid (spSum_succ hc)
        generalize spSum (l.take j) = S at *
        obtain ⟨hs1, hs2⟩ := hs
        go_wp2
        (refine wp_region_held1 13 (by kernel_rfl) (by kernel_rfl) rfl (fun _ _ _ d _ h => by cases d <;> exact h) ?_; intro Fq hFq; simp only [List.take_succ_cons, List.take_zero])
        repeat (first | (refine wpHeld_skip (by rfl) ?_; ((try simp only [Act.put, List.setIfInBounds_toArray, List.set_cons_zero, List.set_cons_succ]))) | (refine wpHeld_run ?_ rfl ?_ ?_; rotate_left; (focus (intro w' hbq Kq hKq; go_simp; (try (rw [IntWalk.i64_in]; rotate_left; focus (constructor <;> omega))); first | exact hKq _ (Below.refl _ _) | (obtain ⟨a0, a1, a2, a3⟩ := NL _ hbq; go_simp; exact hKq _ (Below.refl _ _)))); ((try simp only [Act.put, List.setIfInBounds_toArray, List.set_cons_zero, List.set_cons_succ]))))
        (refine wpHeld_nil (hFq _ ?_); clear hFq; intro w' hbq; ((try (have B0 := Has.below (b := w.heap.size) (by repeat' (first | with_reducible assumption | with_reducible apply Has.new | with_reducible apply Has.new1 | with_reducible apply Has.new2 | with_reducible apply Has.new3 | with_reducible apply Has.new4 | with_reducible apply Has.drew | with_reducible apply Has.drewN | with_reducible apply Has.alloc | with_reducible apply Has.same | with_reducible apply Has.other | (with_reducible show _ ≠ _; first | omega | (simp; done)))) hbq; have C0 := Has.cell B0; have F0 := Has.frozen B0)); (try (have B1 := Has.below (b := w.heap.size + 1) (by repeat' (first | with_reducible assumption | with_reducible apply Has.new | with_reducible apply Has.new1 | with_reducible apply Has.new2 | with_reducible apply Has.new3 | with_reducible apply Has.new4 | with_reducible apply Has.drew | with_reducible apply Has.drewN | with_reducible apply Has.alloc | with_reducible apply Has.same | with_reducible apply Has.other | (with_reducible show _ ≠ _; first | omega | (simp; done)))) hbq; have C1 := Has.cell B1; have F1 := Has.frozen B1)); (try (have B2 := Has.below (b := w.heap.size + 1 + 1) (by repeat' (first | with_reducible assumption | with_reducible apply Has.new | with_reducible apply Has.new1 | with_reducible apply Has.new2 | with_reducible apply Has.new3 | with_reducible apply Has.new4 | with_reducible apply Has.drew | with_reducible apply Has.drewN | with_reducible apply Has.alloc | with_reducible apply Has.same | with_reducible apply Has.other | (with_reducible show _ ≠ _; first | omega | (simp; done)))) hbq; have C2 := Has.cell B2; have F2 := Has.frozen B2)); (try (have B3 := Has.below (b := w.heap.size + 1 + 1 + 1) (by repeat' (first | with_reducible assumption | with_reducible apply Has.new | with_reducible apply Has.new1 | with_reducible apply Has.new2 | with_reducible apply Has.new3 | with_reducible apply Has.new4 | with_reducible apply Has.drew | with_reducible apply Has.drewN | with_reducible apply Has.alloc | with_reducible apply Has.same | with_reducible apply Has.other | (with_reducible show _ ≠ _; first | omega | (simp; done)))) hbq; have C3 := Has.cell B3; have F3 := Has.frozen B3)); (try (have BX := Has.below (b := bX) (by repeat' (first | with_reducible assumption | with_reducible apply Has.new | with_reducible apply Has.new1 | with_reducible apply Has.new2 | with_reducible apply Has.new3 | with_reducible apply Has.new4 | with_reducible apply Has.drew | with_reducible apply Has.drewN | with_reducible apply Has.alloc | with_reducible apply Has.same | with_reducible apply Has.other | (with_reducible show _ ≠ _; first | omega | (simp; done)))) hbq; have CX := Has.cell BX; have FX := Has.frozen BX)); (try (have BY := Has.below (b := bY) (by repeat' (first | with_reducible assumption | with_reducible apply Has.new | with_reducible apply Has.new1 | with_reducible apply Has.new2 | with_reducible apply Has.new3 | with_reducible apply Has.new4 | with_reducible apply Has.drew | with_reducible apply Has.drewN | with_reducible apply Has.alloc | with_reducible apply Has.same | with_reducible apply Has.other | (with_reducible show _ ≠ _; first | omega | (simp; done)))) hbq; have CY := Has.cell BY; have FY := Has.frozen BY))))
        go_wp2
        go_roundw
        case rel => exact ⟨j + 1, by omega, by go_num, congrArg (Value.int .i64) (by rw [ES.out]; omega), lowCall hb (undrew hbq)⟩
        case measure => simp [intOf]; omega
      · obtain rfl : j = l.length := by omega
        rw [List.take_length]
        go_wp2
        go_ret
        exact ⟨rfl, hb⟩
theorem ispansLong_any (l : List Sp) (v : Value) (w : World) (h : SIn w v l) (hl : l.length ≤ 9223372036854775807) :
    Calls Try.prog 45 #[v] w fun e w' => e = .returned (.int .i64 (spLong l)) ∧ Below w.heap.size w w' := by
  have H := Lib.hid h
  unfold spLong
  cases hk : sOk l
  · go_enter Try.func45, Try.ntmps45
    go_wp2_with (go_at_call 42; refine (ispansOk_any l _ _ H.out hl).mono ?_; rintro e w' ⟨rfl, hbq⟩; rw [hk])
    go_ret
    exact ⟨rfl, hbq⟩
  · obtain ⟨hlen, hgood⟩ := (sOk_iff l).1 hk
    have HG := Lib.hid hgood
    have SB := Lib.hid (spSum_bd hgood)
    clear hgood
    obtain ⟨A, c, rfl, hA⟩ := h
    have HA := Lib.hid hA
    clear hA
    go_enter Try.func45, Try.ntmps45
    go_wp2_with (go_at_call 42; refine (ispansOk_any l _ _ H.out hl).mono ?_; rintro e w1 ⟨rfl, hb1⟩; rw [hk])
    go_loopw [3, 11] (fun n i wr => ∃ j : Nat, j ≤ l.length ∧ i = .int .i64 j ∧ n = .int .i64 (spSum (l.take j)) ∧ Below w.heap.size w wr) (fun _ i _ => l.length - (intOf i).toNat)
    case atStart => exact ⟨0, by omega, rfl, rfl, hb1⟩
    case round =>
      obtain ⟨j, hj, rfl, rfl, hb⟩ := hrel
      by_cases hc : j < l.length
      · obtain ⟨b, off, rfl, hf⟩ := HA.out (by omega)
        obtain ⟨c0, c1, c2, c3⟩ := (hf j hc).below hb
        clear hf
        have hg := (HG.out j hc).1
        unfold SpGood at hg
        obtain ⟨h1, h2, h3, h4, h5, _⟩ := hg
        have hs := SB.out j (by omega)
        have ES := Lib.hid (spSum_succ hc)
        generalize spSum (l.take j) = S at *
        obtain ⟨hs1, hs2⟩ := hs
        go_wp2
        go_roundw
        case rel => exact ⟨j + 1, by omega, by go_num, congrArg (Value.int .i64) (by rw [ES.out]), by repeat' (first | with_reducible exact lowRefl _ | with_reducible apply lowSet | with_reducible apply lowDrew | with_reducible apply lowDrewN | with_reducible apply lowAlloc | (with_reducible refine lowCall ?_ (by assumption)) | (show (_ : Nat) ≤ _; first | (simp; done) | (simp; omega) | omega))⟩
        case measure => simp [intOf]; omega
      · obtain rfl : j = l.length := by omega
        rw [List.take_length]
        go_wp2
        go_ret
        exact ⟨rfl, hb⟩
end Go.Proofs.Ytdjmeeknahdbbaa
