import Derived.Test.YtckenfomnenknaaGreatSpnSc
namespace Go.Proofs.YtckenfomnenknaaGreat
open Has renaming new → J0, new1 → J1, new2 → J2, new3 → J3, new4 → J4, drew → J5, drewN → J6, alloc → J7, same → J8, other → J9, cell → Jc, frozen → Jf, below → Jb
open Go.ChangeShapes Go.WideShapes Go.ChangeAt Go.RowKit
set_option maxHeartbeats 1000000
set_option linter.unusedSimpArgs false
attribute [local go_sem] VGo_value VGo_skip VGo_enter

/- whether one span is one -/
theorem isSpan_yes (s : Sp) (w : World) (h : SpGood s) : Calls Tryz.prog 70 #[s.val] w fun e w' => e = .returned (.bool true) ∧ Below w.heap.size w w' := by
  obtain ⟨h1, h2, h3, h4, h5, h6, h7, h8, h9⟩ := h
  go_enter Tryz.func70, Tryz.ntmps70
  go_wp2_with (go_at_call 82; ((with_reducible refine (within_yes _ _ _ _ (by omega) (by omega)).mono ?_); rintro e w' ⟨rfl, rfl⟩))
  go_ret; refine ⟨rfl, ?_⟩; (repeat' (first | with_reducible (first | exact lowRefl _ | apply lowSet | apply lowDrew | apply lowDrewN | apply lowAlloc) | (with_reducible refine lowCall ?_ (by assumption)) | (show (_ : Nat) ≤ _; first | (simp; done) | (simp; omega) | omega)))
theorem isSpan_no (s : Sp) (w : World) (h : ¬ SpGood s) : Calls Tryz.prog 70 #[s.val] w fun e w' => e = .returned (.bool false) ∧ Below w.heap.size w w' := by
  unfold SpGood at h
  by_cases a1 : -1073741824 ≤ s.f ∧ s.f ≤ 1073741824
  · by_cases a2 : -1073741824 ≤ s.t ∧ s.t ≤ 1073741824
    · by_cases a3 : s.f < s.t
      · by_cases a4 : -1000 ≤ s.i ∧ s.i ≤ 1000
        · have a5 : s.o < -1000 ∨ 1000 < s.o := by omega
          clear h
          go_enter Tryz.func70, Tryz.ntmps70
          go_wp2_with (first | (go_at_call 82; ((with_reducible refine (within_yes s.f _ _ _ (by omega) (by omega)).mono ?_); rintro e w' ⟨rfl, rfl⟩)) | (go_at_call 82; ((with_reducible refine (within_yes s.t _ _ _ (by omega) (by omega)).mono ?_); rintro e w' ⟨rfl, rfl⟩)) | (go_at_call 82; ((with_reducible refine (within_yes s.i _ _ _ (by omega) (by omega)).mono ?_); rintro e w' ⟨rfl, rfl⟩)) | (go_at_call 82; ((with_reducible refine (within_no s.o _ _ _ a5).mono ?_); rintro e w' ⟨rfl, rfl⟩)))
          go_ret; refine ⟨rfl, ?_⟩; (repeat' (first | with_reducible (first | exact lowRefl _ | apply lowSet | apply lowDrew | apply lowDrewN | apply lowAlloc) | (with_reducible refine lowCall ?_ (by assumption)) | (show (_ : Nat) ≤ _; first | (simp; done) | (simp; omega) | omega)))
        · have a5 : s.i < -1000 ∨ 1000 < s.i := by omega
          clear h
          go_enter Tryz.func70, Tryz.ntmps70
          go_wp2_with (first | (go_at_call 82; ((with_reducible refine (within_yes s.f _ _ _ (by omega) (by omega)).mono ?_); rintro e w' ⟨rfl, rfl⟩)) | (go_at_call 82; ((with_reducible refine (within_yes s.t _ _ _ (by omega) (by omega)).mono ?_); rintro e w' ⟨rfl, rfl⟩)) | (go_at_call 82; ((with_reducible refine (within_no s.i _ _ _ a5).mono ?_); rintro e w' ⟨rfl, rfl⟩)))
          go_ret; refine ⟨rfl, ?_⟩; (repeat' (first | with_reducible (first | exact lowRefl _ | apply lowSet | apply lowDrew | apply lowDrewN | apply lowAlloc) | (with_reducible refine lowCall ?_ (by assumption)) | (show (_ : Nat) ≤ _; first | (simp; done) | (simp; omega) | omega)))
      · have a5 : decide (s.f < s.t) = false := by simpa using a3
        clear h
        go_enter Tryz.func70, Tryz.ntmps70
        go_wp2_with (first | (go_at_call 82; ((with_reducible refine (within_yes s.f _ _ _ (by omega) (by omega)).mono ?_); rintro e w' ⟨rfl, rfl⟩)) | (go_at_call 82; ((with_reducible refine (within_yes s.t _ _ _ (by omega) (by omega)).mono ?_); rintro e w' ⟨rfl, rfl⟩)))
        go_ret; refine ⟨rfl, ?_⟩; (repeat' (first | with_reducible (first | exact lowRefl _ | apply lowSet | apply lowDrew | apply lowDrewN | apply lowAlloc) | (with_reducible refine lowCall ?_ (by assumption)) | (show (_ : Nat) ≤ _; first | (simp; done) | (simp; omega) | omega)))
    · have a5 : s.t < -1073741824 ∨ 1073741824 < s.t := by omega
      clear h
      go_enter Tryz.func70, Tryz.ntmps70
      go_wp2_with (first | (go_at_call 82; ((with_reducible refine (within_yes s.f _ _ _ (by omega) (by omega)).mono ?_); rintro e w' ⟨rfl, rfl⟩)) | (go_at_call 82; ((with_reducible refine (within_no s.t _ _ _ a5).mono ?_); rintro e w' ⟨rfl, rfl⟩)))
      go_ret; refine ⟨rfl, ?_⟩; (repeat' (first | with_reducible (first | exact lowRefl _ | apply lowSet | apply lowDrew | apply lowDrewN | apply lowAlloc) | (with_reducible refine lowCall ?_ (by assumption)) | (show (_ : Nat) ≤ _; first | (simp; done) | (simp; omega) | omega)))
  · have a5 : s.f < -1073741824 ∨ 1073741824 < s.f := by omega
    clear h
    go_enter Tryz.func70, Tryz.ntmps70
    go_wp2_with (go_at_call 82; ((with_reducible refine (within_no s.f _ _ _ a5).mono ?_); rintro e w' ⟨rfl, rfl⟩))
    go_ret; refine ⟨rfl, ?_⟩; (repeat' (first | with_reducible (first | exact lowRefl _ | apply lowSet | apply lowDrew | apply lowDrewN | apply lowAlloc) | (with_reducible refine lowCall ?_ (by assumption)) | (show (_ : Nat) ≤ _; first | (simp; done) | (simp; omega) | omega)))
/- the first spans are ones -/
def PreGood (l : List Sp) (n : Nat) : Prop := ∀ k, (h : k < l.length) → k < n → SpGood l[k] ∧ ∀ j, (hj : j + 1 = k) → (l[j]'(by omega)).t < l[k].f
theorem preGood_all {l : List Sp} : PreGood l l.length ↔ SpsGood l := ⟨fun h k hk => h k hk hk, fun h k hk _ => h k hk⟩
theorem preGood_zero (l : List Sp) : PreGood l 0 := fun k _ h => by omega
theorem preGood_succ {l : List Sp} {n : Nat} (h : PreGood l n) (hn : n < l.length) (hg : SpGood l[n]) (hs : ∀ j, (hj : j + 1 = n) → (l[j]'(by omega)).t < l[n].f) : PreGood l (n + 1) := fun k hk hlt => by
  rcases Nat.lt_or_ge k n with h1 | h1
  · exact h k hk h1
  · obtain rfl : k = n := by omega
    exact ⟨hg, hs⟩
theorem preGood_gap {l : List Sp} {i : Nat} (h : PreGood l (i + 1)) (hn : i + 1 < l.length) (hg : SpGood l[i + 1]) (hs : l[i].t < l[i + 1].f) : PreGood l (i + 1 + 1) :=
  preGood_succ h hn hg fun j hj => by
    have e : j = i := by omega
    subst e; exact hs
theorem sok_gap {l : List Sp} {i : Nat} (hc : i + 1 < l.length) (h : l[i + 1].f ≤ l[i].t) : sOk l = false := sOk_false fun hk => by have := (hk.2 (i + 1) hc).2 i rfl; omega
theorem sok_bad {l : List Sp} {j : Nat} (hc : j < l.length) (h : ¬ SpGood l[j]) : sOk l = false := sOk_false fun hk => h (hk.2 j hc).1
theorem retB {b c : Bool} (h : b = c) : Ending.returned (.bool c) = .returned (.bool b) := by rw [h]
theorem ispansOk_any (l : List Sp) (v : Value) (w : World) (h : SIn w v l) (hl : l.length ≤ 9223372036854775807) :
    Calls Tryz.prog 20 #[v] w fun e w' => e = .returned (.bool (sOk l)) ∧ Below w.heap.size w w' := by
  obtain ⟨A, c, rfl, hA⟩ := h
  have HA := Lib.hid hA
  clear hA
  by_cases hlen : 200 < l.length
  · go_enter Tryz.func20, Tryz.ntmps20
    go_wp2
    go_ret
    exact ⟨retB (sOk_false fun h => by have := h.1; omega), lowRefl w⟩
  · go_enter Tryz.func20, Tryz.ntmps20
    go_wp2
    go_loopw [10] (fun i wr => ∃ j : Nat, j ≤ l.length ∧ i = .int .i64 j ∧ PreGood l j ∧ Below w.heap.size w wr) (fun i _ => l.length - (intOf i).toNat)
    case atStart => exact ⟨0, by omega, rfl, preGood_zero l, lowRefl w⟩
    case round =>
      obtain ⟨j, hj, rfl, hp, hb⟩ := hrel
      have HP := Lib.hid hp
      clear hp
      by_cases hc : j < l.length
      · obtain ⟨b, off, rfl, hf⟩ := HA.out (by omega)
        obtain ⟨c0, c1, c2, c3⟩ := (hf j hc).below hb
        have HF := Lib.hid hf
        clear hf
        go_upto_region 6 with fail
        refine (fun (k : ∀ wm, Has wm wr.heap.size #[.int .i64 l[j].f, .int .i64 l[j].t, .int .i64 l[j].i, .int .i64 l[j].o] 42 → Below w.heap.size w wm → Code.wp _ _ _ _ wm) => k _ ?_ ?_) ?_
        · (refine Has.as (by repeat' (first | with_reducible (first | assumption | apply J0 | apply J1 | apply J2 | apply J3 | apply J4 | apply J5 | apply J6 | apply J7 | apply J8 | apply J9) | (with_reducible show _ ≠ _; first | omega | (simp; done)))) ?_; first | (with_reducible rfl) | (simp only [List.setIfInBounds_toArray, List.set_cons_zero, List.set_cons_succ]; first | done | rfl) | rfl | (simp; done))
        · repeat' (first | with_reducible (first | exact lowRefl _ | apply lowSet | apply lowDrew | apply lowDrewN | apply lowAlloc) | (with_reducible refine lowCall ?_ (by assumption)) | (show (_ : Nat) ≤ _; first | (simp; done) | (simp; omega) | omega))
        generalize wr.heap.size = bX
        clear hb c0 c1 c2 c3 wr
        intro wr BX hb
        by_cases hg : SpGood l[j]
        · cases j with
          | zero =>
            (refine wp_region_held0 (by kernel_rfl) (by kernel_rfl) (fun _ _ _ d _ h => by cases d <;> exact h) ?_; intro Fq hFq)
            have e1 : decide ((0 : Int) < ((0 : Nat) : Int)) = false := by simp
            repeat (first | (refine wpHeld_skip (by rfl) ?_; ((try simp only [Act.put, List.setIfInBounds_toArray, List.set_cons_zero, List.set_cons_succ]))) | (refine wpHeld_run ?_ rfl ?_ ?_; rotate_left; (focus (intro w' hbq Kq hKq; go_simp; (try simp only [e1]); (try (rw [IntWalk.i64_in]; rotate_left; focus (constructor <;> omega))); first | exact hKq _ (Below.refl _ _) | first | (go_at_call 70; ((with_reducible refine (isSpan_yes l[0] _ hg).mono ?_); rintro e w2 ⟨rfl, hbr⟩; refine back ?_; exact hKq _ hbr)) | ((first | have CX := Jc (BX.below hbq) | have CX := Jc (BX.below (undrew hbq))); go_simp; exact hKq _ (Below.refl _ _)))); ((try simp only [Act.put, List.setIfInBounds_toArray, List.set_cons_zero, List.set_cons_succ]))))
            (refine wpHeld_nil (hFq _ ?_); clear hFq; intro w' hbq; ((try (have B0 := Jb (b := w.heap.size) (by repeat' (first | with_reducible (first | assumption | apply J0 | apply J1 | apply J2 | apply J3 | apply J4 | apply J5 | apply J6 | apply J7 | apply J8 | apply J9) | (with_reducible show _ ≠ _; first | omega | (simp; done)))) hbq; have C0 := Jc B0; have F0 := Jf B0)); (try (have B1 := Jb (b := w.heap.size + 1) (by repeat' (first | with_reducible (first | assumption | apply J0 | apply J1 | apply J2 | apply J3 | apply J4 | apply J5 | apply J6 | apply J7 | apply J8 | apply J9) | (with_reducible show _ ≠ _; first | omega | (simp; done)))) hbq; have C1 := Jc B1; have F1 := Jf B1)); (try (have B2 := Jb (b := w.heap.size + 1 + 1) (by repeat' (first | with_reducible (first | assumption | apply J0 | apply J1 | apply J2 | apply J3 | apply J4 | apply J5 | apply J6 | apply J7 | apply J8 | apply J9) | (with_reducible show _ ≠ _; first | omega | (simp; done)))) hbq; have C2 := Jc B2; have F2 := Jf B2)); (try (have BX := Jb (b := bX) (by repeat' (first | with_reducible (first | assumption | apply J0 | apply J1 | apply J2 | apply J3 | apply J4 | apply J5 | apply J6 | apply J7 | apply J8 | apply J9) | (with_reducible show _ ≠ _; first | omega | (simp; done)))) hbq; have CX := Jc BX; have FX := Jf BX))))
            go_wp2
            go_roundw
            case rel => exact ⟨1, by omega, by go_num, preGood_succ HP.out hc hg (fun j hj => by omega), lowCall hb (undrew hbq)⟩
            case measure => simp [intOf]; omega
          | succ i =>
            have NL : ∀ w', Below wr.drew.heap.size wr.drew w' → Four w' b (off + i * 4) l[i] := fun w' h => ((HF.out i (by omega)).below hb).below (undrew h)
            have e1 : decide ((0 : Int) < ((i + 1 : Nat) : Int)) = true := decide_eq_true (by omega)
            have e2 : decide ((0 : Int) < (i : Int) + 1) = true := decide_eq_true (by omega)
            have hi : i < l.length := by omega
            have e4 : ((i + 1 : Nat) : Int) - 1 = i := by omega
            by_cases hgap : l[i].t < l[i + 1].f
            · have e3 : decide (l[i + 1].f ≤ l[i].t) = false := by simpa using hgap
              (refine wp_region_held0 (by kernel_rfl) (by kernel_rfl) (fun _ _ _ d _ h => by cases d <;> exact h) ?_; intro Fq hFq)
              repeat (first | (refine wpHeld_skip (by rfl) ?_; ((try simp only [Act.put, List.setIfInBounds_toArray, List.set_cons_zero, List.set_cons_succ]))) | (refine wpHeld_run ?_ rfl ?_ ?_; rotate_left; (focus (intro w' hbq Kq hKq; go_simp; (try simp only [e1, e2, e3, e4]); (try (rw [IntWalk.i64_in]; rotate_left; focus (constructor <;> omega))); first | exact hKq _ (Below.refl _ _) | first | (go_at_call 70; ((with_reducible refine (isSpan_yes l[i + 1] _ hg).mono ?_); rintro e w2 ⟨rfl, hbr⟩; refine back ?_; exact hKq _ hbr)) | ((first | have CX := Jc (BX.below hbq) | have CX := Jc (BX.below (undrew hbq))); go_simp; exact hKq _ (Below.refl _ _)) | (obtain ⟨a0, a1, a2, a3⟩ := NL _ hbq; go_simp; exact hKq _ (Below.refl _ _)))); ((try simp only [Act.put, List.setIfInBounds_toArray, List.set_cons_zero, List.set_cons_succ]))))
              (refine wpHeld_nil (hFq _ ?_); clear hFq; intro w' hbq; ((try (have B0 := Jb (b := w.heap.size) (by repeat' (first | with_reducible (first | assumption | apply J0 | apply J1 | apply J2 | apply J3 | apply J4 | apply J5 | apply J6 | apply J7 | apply J8 | apply J9) | (with_reducible show _ ≠ _; first | omega | (simp; done)))) hbq; have C0 := Jc B0; have F0 := Jf B0)); (try (have B1 := Jb (b := w.heap.size + 1) (by repeat' (first | with_reducible (first | assumption | apply J0 | apply J1 | apply J2 | apply J3 | apply J4 | apply J5 | apply J6 | apply J7 | apply J8 | apply J9) | (with_reducible show _ ≠ _; first | omega | (simp; done)))) hbq; have C1 := Jc B1; have F1 := Jf B1)); (try (have B2 := Jb (b := w.heap.size + 1 + 1) (by repeat' (first | with_reducible (first | assumption | apply J0 | apply J1 | apply J2 | apply J3 | apply J4 | apply J5 | apply J6 | apply J7 | apply J8 | apply J9) | (with_reducible show _ ≠ _; first | omega | (simp; done)))) hbq; have C2 := Jc B2; have F2 := Jf B2)); (try (have BX := Jb (b := bX) (by repeat' (first | with_reducible (first | assumption | apply J0 | apply J1 | apply J2 | apply J3 | apply J4 | apply J5 | apply J6 | apply J7 | apply J8 | apply J9) | (with_reducible show _ ≠ _; first | omega | (simp; done)))) hbq; have CX := Jc BX; have FX := Jf BX))))
              go_wp2
              go_roundw
              case rel => exact ⟨i + 1 + 1, by omega, by go_num, preGood_gap HP.out hc hg hgap, lowCall hb (undrew hbq)⟩
              case measure => simp [intOf]; omega
            · have e3 : decide (l[i + 1].f ≤ l[i].t) = true := by simpa using hgap
              (refine wp_region_held0 (by kernel_rfl) (by kernel_rfl) (fun _ _ _ d _ h => by cases d <;> exact h) ?_; intro Fq hFq)
              repeat (first | (refine wpHeld_skip (by rfl) ?_; ((try simp only [Act.put, List.setIfInBounds_toArray, List.set_cons_zero, List.set_cons_succ]))) | (refine wpHeld_run ?_ rfl ?_ ?_; rotate_left; (focus (intro w' hbq Kq hKq; go_simp; (try simp only [e1, e2, e3, e4]); (try (rw [IntWalk.i64_in]; rotate_left; focus (constructor <;> omega))); first | exact hKq _ (Below.refl _ _) | first | (go_at_call 70; ((with_reducible refine (isSpan_yes l[i + 1] _ hg).mono ?_); rintro e w2 ⟨rfl, hbr⟩; refine back ?_; exact hKq _ hbr)) | ((first | have CX := Jc (BX.below hbq) | have CX := Jc (BX.below (undrew hbq))); go_simp; exact hKq _ (Below.refl _ _)) | (obtain ⟨a0, a1, a2, a3⟩ := NL _ hbq; go_simp; exact hKq _ (Below.refl _ _)))); ((try simp only [Act.put, List.setIfInBounds_toArray, List.set_cons_zero, List.set_cons_succ]))))
              (refine wpHeld_nil (hFq _ ?_); clear hFq; intro w' hbq; ((try (have B0 := Jb (b := w.heap.size) (by repeat' (first | with_reducible (first | assumption | apply J0 | apply J1 | apply J2 | apply J3 | apply J4 | apply J5 | apply J6 | apply J7 | apply J8 | apply J9) | (with_reducible show _ ≠ _; first | omega | (simp; done)))) hbq; have C0 := Jc B0; have F0 := Jf B0)); (try (have B1 := Jb (b := w.heap.size + 1) (by repeat' (first | with_reducible (first | assumption | apply J0 | apply J1 | apply J2 | apply J3 | apply J4 | apply J5 | apply J6 | apply J7 | apply J8 | apply J9) | (with_reducible show _ ≠ _; first | omega | (simp; done)))) hbq; have C1 := Jc B1; have F1 := Jf B1)); (try (have B2 := Jb (b := w.heap.size + 1 + 1) (by repeat' (first | with_reducible (first | assumption | apply J0 | apply J1 | apply J2 | apply J3 | apply J4 | apply J5 | apply J6 | apply J7 | apply J8 | apply J9) | (with_reducible show _ ≠ _; first | omega | (simp; done)))) hbq; have C2 := Jc B2; have F2 := Jf B2)); (try (have BX := Jb (b := bX) (by repeat' (first | with_reducible (first | assumption | apply J0 | apply J1 | apply J2 | apply J3 | apply J4 | apply J5 | apply J6 | apply J7 | apply J8 | apply J9) | (with_reducible show _ ≠ _; first | omega | (simp; done)))) hbq; have CX := Jc BX; have FX := Jf BX))))
              go_wp2
              go_ret
              exact ⟨retB (sok_gap hc hgap), lowCall hb (undrew hbq)⟩
        · (refine wp_region_held0 (by kernel_rfl) (by kernel_rfl) (fun _ _ _ d _ h => by cases d <;> exact h) ?_; intro Fq hFq)
          repeat (first | (refine wpHeld_skip (by rfl) ?_; ((try simp only [Act.put, List.setIfInBounds_toArray, List.set_cons_zero, List.set_cons_succ]))) | (refine wpHeld_run ?_ rfl ?_ ?_; rotate_left; (focus (intro w' hbq Kq hKq; go_simp; (try (rw [IntWalk.i64_in]; rotate_left; focus (constructor <;> omega))); first | exact hKq _ (Below.refl _ _) | first | (go_at_call 70; ((with_reducible refine (isSpan_no l[j] _ hg).mono ?_); rintro e w2 ⟨rfl, hbr⟩; refine back ?_; exact hKq _ hbr)) | ((first | have CX := Jc (BX.below hbq) | have CX := Jc (BX.below (undrew hbq))); go_simp; exact hKq _ (Below.refl _ _)))); ((try simp only [Act.put, List.setIfInBounds_toArray, List.set_cons_zero, List.set_cons_succ]))))
          (refine wpHeld_nil (hFq _ ?_); clear hFq; intro w' hbq; ((try (have B0 := Jb (b := w.heap.size) (by repeat' (first | with_reducible (first | assumption | apply J0 | apply J1 | apply J2 | apply J3 | apply J4 | apply J5 | apply J6 | apply J7 | apply J8 | apply J9) | (with_reducible show _ ≠ _; first | omega | (simp; done)))) hbq; have C0 := Jc B0; have F0 := Jf B0)); (try (have B1 := Jb (b := w.heap.size + 1) (by repeat' (first | with_reducible (first | assumption | apply J0 | apply J1 | apply J2 | apply J3 | apply J4 | apply J5 | apply J6 | apply J7 | apply J8 | apply J9) | (with_reducible show _ ≠ _; first | omega | (simp; done)))) hbq; have C1 := Jc B1; have F1 := Jf B1)); (try (have B2 := Jb (b := w.heap.size + 1 + 1) (by repeat' (first | with_reducible (first | assumption | apply J0 | apply J1 | apply J2 | apply J3 | apply J4 | apply J5 | apply J6 | apply J7 | apply J8 | apply J9) | (with_reducible show _ ≠ _; first | omega | (simp; done)))) hbq; have C2 := Jc B2; have F2 := Jf B2)); (try (have BX := Jb (b := bX) (by repeat' (first | with_reducible (first | assumption | apply J0 | apply J1 | apply J2 | apply J3 | apply J4 | apply J5 | apply J6 | apply J7 | apply J8 | apply J9) | (with_reducible show _ ≠ _; first | omega | (simp; done)))) hbq; have CX := Jc BX; have FX := Jf BX))))
          go_wp2
          go_ret
          exact ⟨retB (sok_bad hc hg), lowCall hb (undrew hbq)⟩
      · obtain rfl : j = l.length := by omega
        go_wp2
        go_ret
        exact ⟨retB (sOk_true ⟨by omega, preGood_all.1 HP.out⟩), hb⟩
end Go.Proofs.YtckenfomnenknaaGreat
