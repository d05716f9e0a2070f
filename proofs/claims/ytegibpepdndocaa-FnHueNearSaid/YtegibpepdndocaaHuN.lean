
import Derived.Test.YtegibpepdndocaaHuS
import Derived.Test.YtegibpepdndocaaHueB
import Derived.Outline
namespace Go.Proofs.Ytegibpepdndocaa
open Go.ChangeShapes Go.WideShapes Go.ChangeAt Go.RowKit
set_option maxHeartbeats 1000000
set_option linter.unusedSimpArgs false
set_option linter.unusedVariables false

/- the first of the least numbers F 0 .. F (n-1), and which it is -/
def nrUp (F : Nat → Int) : Nat → Int × Int
  | 0 => (-1, 0)
  | n + 1 => if (nrUp F n).1 < 0 ∨ F n < (nrUp F n).2 then ((n : Int), F n) else nrUp F n
theorem nrUp_take {F : Nat → Int} {n : Nat} (h : (nrUp F n).1 < 0 ∨ F n < (nrUp F n).2) : nrUp F (n + 1) = ((n : Int), F n) := if_pos h
theorem nrUp_keep {F : Nat → Int} {n : Nat} (h : ¬ ((nrUp F n).1 < 0 ∨ F n < (nrUp F n).2)) : nrUp F (n + 1) = nrUp F n := if_neg h
theorem nrUp_facts (F : Nat → Int) : ∀ n, (n = 0 ∧ nrUp F n = (-1, 0)) ∨ (∃ k : Nat, k < n ∧ nrUp F n = ((k : Int), F k))
  | 0 => .inl ⟨rfl, rfl⟩
  | n + 1 => .inr (by
    by_cases h : (nrUp F n).1 < 0 ∨ F n < (nrUp F n).2
    · exact ⟨n, by omega, nrUp_take h⟩
    · rcases nrUp_facts F n with ⟨rfl, e⟩ | ⟨k, hk, e⟩
      · rw [e] at h
        exact absurd (.inl (by decide)) h
      · exact ⟨k, by omega, by rw [nrUp_keep h, e]⟩)
/- how far the colours of a list are from one -/
def hF (l : List Hu) (h : Hu) (i : Nat) : Int := hfar (l.getD i Hu.z).r (l.getD i Hu.z).g (l.getD i Hu.z).b h.r h.g h.b
theorem hF_at {l : List Hu} {h : Hu} {i : Nat} (hi : i < l.length) : hF l h i = hfar l[i].r l[i].g l[i].b h.r h.g h.b := by
  unfold hF
  rw [show l.getD i Hu.z = l[i] by simp [List.getD_eq_getElem?_getD, hi]]
abbrev Hu.ok (s : Hu) : Prop := Hok s.r s.g s.b
abbrev AllHu (l : List Hu) (n : Nat) : Prop := ∀ k, (h : k < l.length) → k < n → l[k].ok
theorem allHu_zero (l : List Hu) : AllHu l 0 := fun k _ h => by omega
theorem allHu_succ {l : List Hu} {n : Nat} (h : AllHu l n) (hn : n < l.length) (hg : l[n].ok) : AllHu l (n + 1) := fun k hk hlt => by
  rcases Nat.lt_or_ge k n with h1 | h1
  · exact h k hk h1
  · obtain rfl : k = n := by omega
    exact hg
def NrP (l : List Hu) (h : Hu) : Prop := l.length ≤ 16 ∧ AllHu l l.length ∧ h.ok
open Classical in
noncomputable def hnr (l : List Hu) (h : Hu) : Int := if NrP l h then (nrUp (hF l h) l.length).1 else -1
theorem hnr_yes {l : List Hu} {h : Hu} (k : NrP l h) : hnr l h = (nrUp (hF l h) l.length).1 := if_pos k
theorem hnr_no {l : List Hu} {h : Hu} (k : ¬ NrP l h) : hnr l h = -1 := if_neg k
theorem hnr_nil {h : Hu} : hnr [] h = -1 := by
  by_cases k : NrP [] h
  · rw [hnr_yes k]; rfl
  · exact hnr_no k

attribute [local go_sem] VGo_value VGo_skip VGo_enter
theorem iHueNear_any (l : List Hu) (v : Value) (h : Hu) (w : World) (hl : HuIn w v l) (hn : l.length ≤ 9223372036854775807) :
    Calls Try.prog 33 #[v, h.val] w fun e w' => e = .returned (.int .i64 (hnr l h)) ∧ Below w.heap.size w w' := by
  obtain ⟨A, c, rfl, hA⟩ := hl
  have HA := Lib.hid hA
  clear hA
  by_cases hlen : 16 < l.length
  · rw [hnr_no (fun k => by have := k.1; omega)]
    go_enter Try.func33, Try.ntmps33
    go_wp2
    go_ret; refine ⟨rfl, ?_⟩; (repeat' (first | with_reducible exact lowRefl _ | with_reducible apply lowSet | with_reducible apply lowDrew | with_reducible apply lowDrewN | with_reducible apply lowAlloc | (with_reducible refine lowCall ?_ (by assumption)) | (show (_ : Nat) ≤ _; first | (simp; done) | (simp; omega) | omega)))
  · have hle : l.length ≤ 16 := by omega
    clear hlen
    go_enter Try.func33, Try.ntmps33
    go_wp2
    go_loopw [5, 6, 15] (fun n d i wr => ∃ j : Nat, j ≤ l.length ∧ i = .int .i64 j ∧ n = .int .i64 (nrUp (hF l h) j).1 ∧ d = .int .i64 (nrUp (hF l h) j).2 ∧ AllHu l j ∧ (0 < j → h.ok) ∧ Has wr w.heap.size #[.int .i64 (h.r), .int .i64 (h.g), .int .i64 (h.b)] 25 ∧ Below w.heap.size w wr) (fun _ _ i _ => l.length - (intOf i).toNat)
    case atStart => exact ⟨0, by omega, rfl, rfl, rfl, allHu_zero l, fun h => by omega, by repeat' (first | with_reducible assumption | with_reducible apply Has.new | with_reducible apply Has.new1 | with_reducible apply Has.new2 | with_reducible apply Has.new3 | with_reducible apply Has.new4 | with_reducible apply Has.drew | with_reducible apply Has.drewN | with_reducible apply Has.alloc | with_reducible apply Has.same | with_reducible apply Has.other | (with_reducible show _ ≠ _; first | omega | (simp; done))), by repeat' (first | with_reducible exact lowRefl _ | with_reducible apply lowSet | with_reducible apply lowDrew | with_reducible apply lowDrewN | with_reducible apply lowAlloc | (with_reducible refine lowCall ?_ (by assumption)) | (show (_ : Nat) ≤ _; first | (simp; done) | (simp; omega) | omega))⟩
    case round =>
      obtain ⟨j, hj, rfl, rfl, rfl, ha, hh, B0, hb⟩ := hrel
      have HL := Lib.hid ha
      clear ha
      by_cases hc : j < l.length
      · obtain ⟨b, off, rfl, hf⟩ := HA.out (by omega)
        obtain ⟨c0, c1, c2⟩ := (hf j hc).below hb
        clear hf
        have C0 := Has.cell B0
        have hE := Lib.hid (hF_at (h := h) hc)
        go_upto_region 7 with fail
        refine (fun (k : ∀ wm, Has wm wr.heap.size #[.int .i64 (l[j].r), .int .i64 (l[j].g), .int .i64 (l[j].b)] 25 → Has wm w.heap.size #[.int .i64 (h.r), .int .i64 (h.g), .int .i64 (h.b)] 25 → Below w.heap.size w wm → Code.wp _ _ _ _ wm) => k _ ?_ ?_ ?_) ?_
        · (refine Has.as (by repeat' (first | with_reducible assumption | with_reducible apply Has.new | with_reducible apply Has.new1 | with_reducible apply Has.new2 | with_reducible apply Has.new3 | with_reducible apply Has.new4 | with_reducible apply Has.drew | with_reducible apply Has.drewN | with_reducible apply Has.alloc | with_reducible apply Has.same | with_reducible apply Has.other | (with_reducible show _ ≠ _; first | omega | (simp; done)))) ?_; first | (with_reducible rfl) | (simp only [List.setIfInBounds_toArray, List.set_cons_zero, List.set_cons_succ]; done) | (simp only [List.setIfInBounds_toArray, List.set_cons_zero, List.set_cons_succ]; rfl) | rfl | (simp; done))
        · (refine Has.as (by repeat' (first | with_reducible assumption | with_reducible apply Has.new | with_reducible apply Has.new1 | with_reducible apply Has.new2 | with_reducible apply Has.new3 | with_reducible apply Has.new4 | with_reducible apply Has.drew | with_reducible apply Has.drewN | with_reducible apply Has.alloc | with_reducible apply Has.same | with_reducible apply Has.other | (with_reducible show _ ≠ _; first | omega | (simp; done)))) ?_; first | (with_reducible rfl) | (simp only [List.setIfInBounds_toArray, List.set_cons_zero, List.set_cons_succ]; done) | (simp only [List.setIfInBounds_toArray, List.set_cons_zero, List.set_cons_succ]; rfl) | rfl | (simp; done))
        · repeat' (first | with_reducible exact lowRefl _ | with_reducible apply lowSet | with_reducible apply lowDrew | with_reducible apply lowDrewN | with_reducible apply lowAlloc | (with_reducible refine lowCall ?_ (by assumption)) | (show (_ : Nat) ≤ _; first | (simp; done) | (simp; omega) | omega))
        generalize wr.heap.size = bX
        clear hb B0 C0 c0 c1 c2 wr
        intro wr BX B0 hb
        have CX := Has.cell BX
        have C0 := Has.cell B0
        by_cases hg : l[j].ok ∧ h.ok
        · have G1 := Lib.hid hg.1
          have G2 := Lib.hid hg.2
          have ⟨q1, q2⟩ := hfar_bd _ _ _ _ _ _ hg.1 hg.2
          rw [← hE.out] at q1 q2
          clear hg
          go_upto_region 10 with (go_at_call 29; (with_reducible refine (iHueFar_yes l[j].r l[j].g l[j].b h.r h.g h.b _ G1.out G2.out).mono ?_); rintro e w' ⟨rfl, hbq⟩; rw [← hE.out])
          have hb2 := lowCall hb hbq
          have B02 := B0.below hbq
          clear hb hbq B0 BX C0 CX
          by_cases h1 : (nrUp (hF l h) j).1 < 0
          · have E := Lib.hid (nrUp_take (F := hF l h) (n := j) (.inl h1))
            go_wp2
            go_roundw
            case rel => exact ⟨j + 1, by omega, by go_num, by rw [E.out], by rw [E.out], allHu_succ HL.out hc G1.out, fun _ => G2.out, B02, hb2⟩
            case measure => simp [intOf]; omega
          · by_cases h2 : hF l h j < (nrUp (hF l h) j).2
            · have E := Lib.hid (nrUp_take (F := hF l h) (n := j) (.inr h2))
              have h1' : decide ((nrUp (hF l h) j).1 < 0) = false := decide_eq_false h1
              clear h1
              go_wp2
              go_roundw
              case rel => exact ⟨j + 1, by omega, by go_num, by rw [E.out], by rw [E.out], allHu_succ HL.out hc G1.out, fun _ => G2.out, B02, hb2⟩
              case measure => simp [intOf]; omega
            · have E := Lib.hid (nrUp_keep (F := hF l h) (n := j) (by omega))
              have h1' : decide ((nrUp (hF l h) j).1 < 0) = false := decide_eq_false h1
              have h2' : decide (hF l h j < (nrUp (hF l h) j).2) = false := decide_eq_false h2
              clear h1 h2
              go_wp2
              go_roundw
              case rel => exact ⟨j + 1, by omega, by go_num, by rw [E.out], by rw [E.out], allHu_succ HL.out hc G1.out, fun _ => G2.out, B02, hb2⟩
              case measure => simp [intOf]; omega
        · have HG := Lib.hid hg
          clear hE
          go_wp2_with (go_at_call 29; (with_reducible refine (iHueFar_no l[j].r l[j].g l[j].b h.r h.g h.b _ HG.out).mono ?_); rintro e w' ⟨rfl, hbq⟩)
          go_ret
          exact ⟨by rw [hnr_no (fun k => HG.out ⟨k.2.1 j hc hc, k.2.2⟩)]; rfl, lowCall hb hbq⟩
      · obtain rfl : j = l.length := by omega
        clear B0
        go_wp2
        go_ret
        refine ⟨ret_int ?_, hb⟩
        by_cases k : NrP l h
        · rw [hnr_yes k]
        · have h0 : l.length = 0 := Classical.byContradiction fun hne => k ⟨hle, HL.out, hh (by omega)⟩
          rw [hnr_no k, h0]; rfl
/- the model -/
theorem l9Hues_any (l : List Hu) (v : Value) (w : World) (hl : HuIn w v l) (hn : l.length ≤ 9223372036854775807) (b : Bool) (hb : b = true ↔ l.length ≤ 16 ∧ AllHu l l.length) :
    Calls Try.prog 55 #[v] w fun e w' => e = .returned (.bool b) ∧ Below w.heap.size w w' := by
  obtain ⟨A, c, rfl, hA⟩ := hl
  have HA := Lib.hid hA
  have HB := Lib.hid hb
  clear hA hb
  go_enter Try.func55, Try.ntmps55
  go_wp2
  go_loopw [3] (fun i wr => ∃ j : Nat, j ≤ l.length ∧ i = .int .i64 j ∧ AllHu l j ∧ Below w.heap.size w wr) (fun i _ => l.length - (intOf i).toNat)
  case atStart => exact ⟨0, by omega, rfl, allHu_zero l, lowRefl w⟩
  case round =>
    obtain ⟨j, hj, rfl, ha, hb⟩ := hrel
    have HL := Lib.hid ha
    clear ha
    by_cases hc : j < l.length
    · obtain ⟨b0, off, rfl, hf⟩ := HA.out (by omega)
      obtain ⟨c0, c1, c2⟩ := (hf j hc).below hb
      clear hf
      by_cases hg : l[j].ok
      · have G := Lib.hid hg
        clear hg
        go_wp2_with (go_at_call 16; (with_reducible refine (shueOk_yes l[j].r l[j].g l[j].b _ G.out).mono ?_); rintro e w' ⟨rfl, hbq⟩)
        go_roundw
        case rel => exact ⟨j + 1, by omega, by go_num, allHu_succ HL.out hc G.out, lowCall hb hbq⟩
        case measure => simp [intOf]; omega
      · have G := Lib.hid hg
        have E : b = false := by
          cases b with
          | false => rfl
          | true => exact absurd ((HB.out.1 rfl).2 j hc hc) hg
        subst E
        clear hg
        go_wp2_with (go_at_call 16; (with_reducible refine (shueOk_no l[j].r l[j].g l[j].b _ G.out).mono ?_); rintro e w' ⟨rfl, hbq⟩)
        go_ret
        exact ⟨rfl, lowCall hb hbq⟩
    · obtain rfl : j = l.length := by omega
      have E : b = decide ((l.length : Int) ≤ 16) := by
        cases b with
        | true => exact (decide_eq_true (by have := (HB.out.1 rfl).1; omega)).symm
        | false => exact (decide_eq_false (fun h => by have := HB.out.2 ⟨by omega, HL.out⟩; simp at this)).symm
      subst E
      clear HB
      go_wp2
      go_ret
      exact ⟨rfl, hb⟩
theorem l9Near_any (l : List Hu) (v : Value) (h : Hu) (w : World) (hl : HuIn w v l) (hn : l.length ≤ 16) (hk : AllHu l l.length) (hh : h.ok) :
    Calls Try.prog 56 #[v, h.val] w fun e w' => e = .returned (.int .i64 ((nrUp (hF l h) l.length).1)) ∧ Below w.heap.size w w' := by
  obtain ⟨A, c, rfl, hA⟩ := hl
  have HA := Lib.hid hA
  have HK := Lib.hid hk
  have HH := Lib.hid hh
  clear hA hk hh
  go_enter Try.func56, Try.ntmps56
  go_wp2
  go_loopw [5, 6] (fun n i wr => ∃ j : Nat, j ≤ l.length ∧ i = .int .i64 j ∧ n = .int .i64 (nrUp (hF l h) j).1 ∧ Has wr w.heap.size #[.int .i64 (h.r), .int .i64 (h.g), .int .i64 (h.b)] 25 ∧ Below w.heap.size w wr) (fun _ i _ => l.length - (intOf i).toNat)
  case atStart => exact ⟨0, by omega, rfl, rfl, by repeat' (first | with_reducible assumption | with_reducible apply Has.new | with_reducible apply Has.new1 | with_reducible apply Has.new2 | with_reducible apply Has.new3 | with_reducible apply Has.new4 | with_reducible apply Has.drew | with_reducible apply Has.drewN | with_reducible apply Has.alloc | with_reducible apply Has.same | with_reducible apply Has.other | (with_reducible show _ ≠ _; first | omega | (simp; done))), by repeat' (first | with_reducible exact lowRefl _ | with_reducible apply lowSet | with_reducible apply lowDrew | with_reducible apply lowDrewN | with_reducible apply lowAlloc | (with_reducible refine lowCall ?_ (by assumption)) | (show (_ : Nat) ≤ _; first | (simp; done) | (simp; omega) | omega))⟩
  case round =>
    obtain ⟨j, hj, rfl, rfl, B0, hb⟩ := hrel
    by_cases hc : j < l.length
    · obtain ⟨b, off, rfl, hf⟩ := HA.out (by omega)
      rcases nrUp_facts (hF l h) j with ⟨h0, e0⟩ | ⟨k, hkj, e0⟩
      · have E := Lib.hid (nrUp_take (F := hF l h) (n := j) (.inl (by rw [e0]; decide)))
        have h1 : decide ((nrUp (hF l h) j).1 < 0) = true := decide_eq_true (by rw [e0]; decide)
        clear e0 hf
        go_upto_region 5 with fail
        (refine wp_region_held0 (by kernel_rfl) (by kernel_rfl) (fun _ _ _ d _ h => by cases d <;> exact h) ?_; intro Fq hFq)
        repeat (first | (refine wpHeld_skip (by rfl) ?_; ((try simp only [Act.put, List.setIfInBounds_toArray, List.set_cons_zero, List.set_cons_succ]))) | (refine wpHeld_run ?_ rfl ?_ ?_; rotate_left; (focus (intro w' hbq Kq hKq; go_simp; (try simp only [h1]); (try (rw [IntWalk.i64_in]; rotate_left; focus (constructor <;> omega))); first | exact hKq _ (Below.refl _ _) | fail)); ((try simp only [Act.put, List.setIfInBounds_toArray, List.set_cons_zero, List.set_cons_succ]))))
        (refine wpHeld_nil (hFq _ ?_); clear hFq; intro w' hbq; ((try (have B0 := Has.below (b := w.heap.size) (by repeat' (first | with_reducible assumption | with_reducible apply Has.new | with_reducible apply Has.new1 | with_reducible apply Has.new2 | with_reducible apply Has.new3 | with_reducible apply Has.new4 | with_reducible apply Has.drew | with_reducible apply Has.drewN | with_reducible apply Has.alloc | with_reducible apply Has.same | with_reducible apply Has.other | (with_reducible show _ ≠ _; first | omega | (simp; done)))) hbq; have C0 := Has.cell B0; have F0 := Has.frozen B0)); (try (have B1 := Has.below (b := w.heap.size + 1) (by repeat' (first | with_reducible assumption | with_reducible apply Has.new | with_reducible apply Has.new1 | with_reducible apply Has.new2 | with_reducible apply Has.new3 | with_reducible apply Has.new4 | with_reducible apply Has.drew | with_reducible apply Has.drewN | with_reducible apply Has.alloc | with_reducible apply Has.same | with_reducible apply Has.other | (with_reducible show _ ≠ _; first | omega | (simp; done)))) hbq; have C1 := Has.cell B1; have F1 := Has.frozen B1)); (try (have B2 := Has.below (b := w.heap.size + 1 + 1) (by repeat' (first | with_reducible assumption | with_reducible apply Has.new | with_reducible apply Has.new1 | with_reducible apply Has.new2 | with_reducible apply Has.new3 | with_reducible apply Has.new4 | with_reducible apply Has.drew | with_reducible apply Has.drewN | with_reducible apply Has.alloc | with_reducible apply Has.same | with_reducible apply Has.other | (with_reducible show _ ≠ _; first | omega | (simp; done)))) hbq; have C2 := Has.cell B2; have F2 := Has.frozen B2)); (try (have B3 := Has.below (b := w.heap.size + 1 + 1 + 1) (by repeat' (first | with_reducible assumption | with_reducible apply Has.new | with_reducible apply Has.new1 | with_reducible apply Has.new2 | with_reducible apply Has.new3 | with_reducible apply Has.new4 | with_reducible apply Has.drew | with_reducible apply Has.drewN | with_reducible apply Has.alloc | with_reducible apply Has.same | with_reducible apply Has.other | (with_reducible show _ ≠ _; first | omega | (simp; done)))) hbq; have C3 := Has.cell B3; have F3 := Has.frozen B3)); (try (have BX := Has.below (b := bX) (by repeat' (first | with_reducible assumption | with_reducible apply Has.new | with_reducible apply Has.new1 | with_reducible apply Has.new2 | with_reducible apply Has.new3 | with_reducible apply Has.new4 | with_reducible apply Has.drew | with_reducible apply Has.drewN | with_reducible apply Has.alloc | with_reducible apply Has.same | with_reducible apply Has.other | (with_reducible show _ ≠ _; first | omega | (simp; done)))) hbq; have CX := Has.cell BX; have FX := Has.frozen BX)); (try (have BY := Has.below (b := bY) (by repeat' (first | with_reducible assumption | with_reducible apply Has.new | with_reducible apply Has.new1 | with_reducible apply Has.new2 | with_reducible apply Has.new3 | with_reducible apply Has.new4 | with_reducible apply Has.drew | with_reducible apply Has.drewN | with_reducible apply Has.alloc | with_reducible apply Has.same | with_reducible apply Has.other | (with_reducible show _ ≠ _; first | omega | (simp; done)))) hbq; have CY := Has.cell BY; have FY := Has.frozen BY))))
        go_wp2
        go_roundw
        case rel => exact ⟨j + 1, by omega, by go_num, by rw [E.out], (by first | exact B0 | exact B0.below (undrew hbq)), lowCall hb (undrew hbq)⟩
        case measure => simp [intOf]; omega
      · have hkl : k < l.length := by omega
        have NJ : ∀ w', Below wr.drew.heap.size wr.drew w' → Tri w' b (off + j * 3) l[j] := fun w' h => ((hf j hc).below hb).below (undrew h)
        have NK : ∀ w', Below wr.drew.heap.size wr.drew w' → Tri w' b (off + k * 3) l[k] := fun w' h => ((hf k hkl).below hb).below (undrew h)
        have hEj := Lib.hid (hF_at (h := h) hc)
        have hEk := Lib.hid (hF_at (h := h) hkl)
        have E0 := Lib.hid e0
        have h1 : decide ((k : Int) < 0) = false := decide_eq_false (by omega)
        rw [e0]
        clear hf e0
        by_cases h2 : hF l h j < hF l h k
        · have E := Lib.hid (nrUp_take (F := hF l h) (n := j) (.inr (by rw [E0.out]; exact h2)))
          have h2' : decide (hfar l[j].r l[j].g l[j].b h.r h.g h.b < hfar l[k].r l[k].g l[k].b h.r h.g h.b) = true := by rw [← hEj.out, ← hEk.out]; exact decide_eq_true h2
          clear h2
          go_upto_region 5 with fail
          (refine wp_region_held0 (by kernel_rfl) (by kernel_rfl) (fun _ _ _ d _ h => by cases d <;> exact h) ?_; intro Fq hFq)
          repeat (first | (refine wpHeld_skip (by rfl) ?_; ((try simp only [Act.put, List.setIfInBounds_toArray, List.set_cons_zero, List.set_cons_succ]))) | (refine wpHeld_run ?_ rfl ?_ ?_; rotate_left; (focus (intro w' hbq Kq hKq; go_simp; (try simp only [h1, h2']); (try (rw [IntWalk.i64_in]; rotate_left; focus (constructor <;> omega))); first | exact hKq _ (Below.refl _ _) | first | (go_at_call 54; ((with_reducible refine (l9Far_any l[j].r l[j].g l[j].b h.r h.g h.b _ (HK.out j hc hc) HH.out).mono ?_); rintro e w2 ⟨rfl, hbr⟩; refine back ?_; exact hKq _ hbr)) | (go_at_call 54; ((with_reducible refine (l9Far_any l[k].r l[k].g l[k].b h.r h.g h.b _ (HK.out k hkl hkl) HH.out).mono ?_); rintro e w2 ⟨rfl, hbr⟩; refine back ?_; exact hKq _ hbr)) | (have C0 := Has.cell (B0.below (undrew hbq)); go_simp; exact hKq _ (Below.refl _ _)) | (obtain ⟨a0, a1, a2⟩ := NJ _ hbq; go_simp; exact hKq _ (Below.refl _ _)) | (obtain ⟨a0, a1, a2⟩ := NK _ hbq; go_simp; exact hKq _ (Below.refl _ _)))); ((try simp only [Act.put, List.setIfInBounds_toArray, List.set_cons_zero, List.set_cons_succ]))))
          (refine wpHeld_nil (hFq _ ?_); clear hFq; intro w' hbq; ((try (have B0 := Has.below (b := w.heap.size) (by repeat' (first | with_reducible assumption | with_reducible apply Has.new | with_reducible apply Has.new1 | with_reducible apply Has.new2 | with_reducible apply Has.new3 | with_reducible apply Has.new4 | with_reducible apply Has.drew | with_reducible apply Has.drewN | with_reducible apply Has.alloc | with_reducible apply Has.same | with_reducible apply Has.other | (with_reducible show _ ≠ _; first | omega | (simp; done)))) hbq; have C0 := Has.cell B0; have F0 := Has.frozen B0)); (try (have B1 := Has.below (b := w.heap.size + 1) (by repeat' (first | with_reducible assumption | with_reducible apply Has.new | with_reducible apply Has.new1 | with_reducible apply Has.new2 | with_reducible apply Has.new3 | with_reducible apply Has.new4 | with_reducible apply Has.drew | with_reducible apply Has.drewN | with_reducible apply Has.alloc | with_reducible apply Has.same | with_reducible apply Has.other | (with_reducible show _ ≠ _; first | omega | (simp; done)))) hbq; have C1 := Has.cell B1; have F1 := Has.frozen B1)); (try (have B2 := Has.below (b := w.heap.size + 1 + 1) (by repeat' (first | with_reducible assumption | with_reducible apply Has.new | with_reducible apply Has.new1 | with_reducible apply Has.new2 | with_reducible apply Has.new3 | with_reducible apply Has.new4 | with_reducible apply Has.drew | with_reducible apply Has.drewN | with_reducible apply Has.alloc | with_reducible apply Has.same | with_reducible apply Has.other | (with_reducible show _ ≠ _; first | omega | (simp; done)))) hbq; have C2 := Has.cell B2; have F2 := Has.frozen B2)); (try (have B3 := Has.below (b := w.heap.size + 1 + 1 + 1) (by repeat' (first | with_reducible assumption | with_reducible apply Has.new | with_reducible apply Has.new1 | with_reducible apply Has.new2 | with_reducible apply Has.new3 | with_reducible apply Has.new4 | with_reducible apply Has.drew | with_reducible apply Has.drewN | with_reducible apply Has.alloc | with_reducible apply Has.same | with_reducible apply Has.other | (with_reducible show _ ≠ _; first | omega | (simp; done)))) hbq; have C3 := Has.cell B3; have F3 := Has.frozen B3)); (try (have BX := Has.below (b := bX) (by repeat' (first | with_reducible assumption | with_reducible apply Has.new | with_reducible apply Has.new1 | with_reducible apply Has.new2 | with_reducible apply Has.new3 | with_reducible apply Has.new4 | with_reducible apply Has.drew | with_reducible apply Has.drewN | with_reducible apply Has.alloc | with_reducible apply Has.same | with_reducible apply Has.other | (with_reducible show _ ≠ _; first | omega | (simp; done)))) hbq; have CX := Has.cell BX; have FX := Has.frozen BX)); (try (have BY := Has.below (b := bY) (by repeat' (first | with_reducible assumption | with_reducible apply Has.new | with_reducible apply Has.new1 | with_reducible apply Has.new2 | with_reducible apply Has.new3 | with_reducible apply Has.new4 | with_reducible apply Has.drew | with_reducible apply Has.drewN | with_reducible apply Has.alloc | with_reducible apply Has.same | with_reducible apply Has.other | (with_reducible show _ ≠ _; first | omega | (simp; done)))) hbq; have CY := Has.cell BY; have FY := Has.frozen BY))))
          go_wp2
          go_roundw
          case rel => exact ⟨j + 1, by omega, by go_num, by rw [E.out], (by first | exact B0 | exact B0.below (undrew hbq)), lowCall hb (undrew hbq)⟩
          case measure => simp [intOf]; omega
        · have E := Lib.hid (nrUp_keep (F := hF l h) (n := j) (by rw [E0.out]; show ¬ ((k : Int) < 0 ∨ _ < _); omega))
          have h2' : decide (hfar l[j].r l[j].g l[j].b h.r h.g h.b < hfar l[k].r l[k].g l[k].b h.r h.g h.b) = false := by rw [← hEj.out, ← hEk.out]; exact decide_eq_false h2
          clear h2
          go_upto_region 5 with fail
          (refine wp_region_held0 (by kernel_rfl) (by kernel_rfl) (fun _ _ _ d _ h => by cases d <;> exact h) ?_; intro Fq hFq)
          repeat (first | (refine wpHeld_skip (by rfl) ?_; ((try simp only [Act.put, List.setIfInBounds_toArray, List.set_cons_zero, List.set_cons_succ]))) | (refine wpHeld_run ?_ rfl ?_ ?_; rotate_left; (focus (intro w' hbq Kq hKq; go_simp; (try simp only [h1, h2']); (try (rw [IntWalk.i64_in]; rotate_left; focus (constructor <;> omega))); first | exact hKq _ (Below.refl _ _) | first | (go_at_call 54; ((with_reducible refine (l9Far_any l[j].r l[j].g l[j].b h.r h.g h.b _ (HK.out j hc hc) HH.out).mono ?_); rintro e w2 ⟨rfl, hbr⟩; refine back ?_; exact hKq _ hbr)) | (go_at_call 54; ((with_reducible refine (l9Far_any l[k].r l[k].g l[k].b h.r h.g h.b _ (HK.out k hkl hkl) HH.out).mono ?_); rintro e w2 ⟨rfl, hbr⟩; refine back ?_; exact hKq _ hbr)) | (have C0 := Has.cell (B0.below (undrew hbq)); go_simp; exact hKq _ (Below.refl _ _)) | (obtain ⟨a0, a1, a2⟩ := NJ _ hbq; go_simp; exact hKq _ (Below.refl _ _)) | (obtain ⟨a0, a1, a2⟩ := NK _ hbq; go_simp; exact hKq _ (Below.refl _ _)))); ((try simp only [Act.put, List.setIfInBounds_toArray, List.set_cons_zero, List.set_cons_succ]))))
          (refine wpHeld_nil (hFq _ ?_); clear hFq; intro w' hbq; ((try (have B0 := Has.below (b := w.heap.size) (by repeat' (first | with_reducible assumption | with_reducible apply Has.new | with_reducible apply Has.new1 | with_reducible apply Has.new2 | with_reducible apply Has.new3 | with_reducible apply Has.new4 | with_reducible apply Has.drew | with_reducible apply Has.drewN | with_reducible apply Has.alloc | with_reducible apply Has.same | with_reducible apply Has.other | (with_reducible show _ ≠ _; first | omega | (simp; done)))) hbq; have C0 := Has.cell B0; have F0 := Has.frozen B0)); (try (have B1 := Has.below (b := w.heap.size + 1) (by repeat' (first | with_reducible assumption | with_reducible apply Has.new | with_reducible apply Has.new1 | with_reducible apply Has.new2 | with_reducible apply Has.new3 | with_reducible apply Has.new4 | with_reducible apply Has.drew | with_reducible apply Has.drewN | with_reducible apply Has.alloc | with_reducible apply Has.same | with_reducible apply Has.other | (with_reducible show _ ≠ _; first | omega | (simp; done)))) hbq; have C1 := Has.cell B1; have F1 := Has.frozen B1)); (try (have B2 := Has.below (b := w.heap.size + 1 + 1) (by repeat' (first | with_reducible assumption | with_reducible apply Has.new | with_reducible apply Has.new1 | with_reducible apply Has.new2 | with_reducible apply Has.new3 | with_reducible apply Has.new4 | with_reducible apply Has.drew | with_reducible apply Has.drewN | with_reducible apply Has.alloc | with_reducible apply Has.same | with_reducible apply Has.other | (with_reducible show _ ≠ _; first | omega | (simp; done)))) hbq; have C2 := Has.cell B2; have F2 := Has.frozen B2)); (try (have B3 := Has.below (b := w.heap.size + 1 + 1 + 1) (by repeat' (first | with_reducible assumption | with_reducible apply Has.new | with_reducible apply Has.new1 | with_reducible apply Has.new2 | with_reducible apply Has.new3 | with_reducible apply Has.new4 | with_reducible apply Has.drew | with_reducible apply Has.drewN | with_reducible apply Has.alloc | with_reducible apply Has.same | with_reducible apply Has.other | (with_reducible show _ ≠ _; first | omega | (simp; done)))) hbq; have C3 := Has.cell B3; have F3 := Has.frozen B3)); (try (have BX := Has.below (b := bX) (by repeat' (first | with_reducible assumption | with_reducible apply Has.new | with_reducible apply Has.new1 | with_reducible apply Has.new2 | with_reducible apply Has.new3 | with_reducible apply Has.new4 | with_reducible apply Has.drew | with_reducible apply Has.drewN | with_reducible apply Has.alloc | with_reducible apply Has.same | with_reducible apply Has.other | (with_reducible show _ ≠ _; first | omega | (simp; done)))) hbq; have CX := Has.cell BX; have FX := Has.frozen BX)); (try (have BY := Has.below (b := bY) (by repeat' (first | with_reducible assumption | with_reducible apply Has.new | with_reducible apply Has.new1 | with_reducible apply Has.new2 | with_reducible apply Has.new3 | with_reducible apply Has.new4 | with_reducible apply Has.drew | with_reducible apply Has.drewN | with_reducible apply Has.alloc | with_reducible apply Has.same | with_reducible apply Has.other | (with_reducible show _ ≠ _; first | omega | (simp; done)))) hbq; have CY := Has.cell BY; have FY := Has.frozen BY))))
          go_wp2
          go_roundw
          case rel => exact ⟨j + 1, by omega, by go_num, by rw [E.out, E0.out], (by first | exact B0 | exact B0.below (undrew hbq)), lowCall hb (undrew hbq)⟩
          case measure => simp [intOf]; omega
    · obtain rfl : j = l.length := by omega
      clear B0
      go_wp2
      go_ret
      exact ⟨rfl, hb⟩
theorem sHueNear_any (l : List Hu) (v : Value) (h : Hu) (w : World) (hl : HuIn w v l) (hn : l.length ≤ 9223372036854775807) :
    Calls Try.prog 31 #[v, h.val] w fun e w' => e = .returned (.int .i64 (hnr l h)) ∧ Below w.heap.size w w' := by
  obtain ⟨A, c, rfl, -⟩ := id hl
  have HL := Lib.hid hl
  clear hl
  by_cases hg : l.length ≤ 16 ∧ AllHu l l.length
  · have HC : Hid (∀ w, HuIn w (.slice A l.length c) l → Calls Try.prog 55 #[.slice A l.length c] w fun e w' => e = .returned (.bool true) ∧ Below w.heap.size w w') := Lib.hid fun w k => l9Hues_any l _ w k hn true ⟨fun _ => hg, fun _ => rfl⟩
    by_cases hh : h.ok
    · rw [hnr_yes ⟨hg.1, hg.2, hh⟩]
      have G := Lib.hid hg
      have HH := Lib.hid hh
      clear hg hh
      go_enter Try.func31, Try.ntmps31
      go_wp2_with (first | (go_at_call 55; (with_reducible refine (HC.out _ (HL.out.below (lowAlloc (lowRefl w) _))).mono ?_); rintro e w' ⟨rfl, hbq⟩; (try (have B0 := Has.below (b := w.heap.size) (by repeat' (first | with_reducible assumption | with_reducible apply Has.new | with_reducible apply Has.new1 | with_reducible apply Has.new2 | with_reducible apply Has.new3 | with_reducible apply Has.new4 | with_reducible apply Has.drew | with_reducible apply Has.drewN | with_reducible apply Has.alloc | with_reducible apply Has.same | with_reducible apply Has.other | (with_reducible show _ ≠ _; first | omega | (simp; done)))) hbq; have C0 := Has.cell B0; have F0 := Has.frozen B0)); (try (have B1 := Has.below (b := w.heap.size + 1) (by repeat' (first | with_reducible assumption | with_reducible apply Has.new | with_reducible apply Has.new1 | with_reducible apply Has.new2 | with_reducible apply Has.new3 | with_reducible apply Has.new4 | with_reducible apply Has.drew | with_reducible apply Has.drewN | with_reducible apply Has.alloc | with_reducible apply Has.same | with_reducible apply Has.other | (with_reducible show _ ≠ _; first | omega | (simp; done)))) hbq; have C1 := Has.cell B1; have F1 := Has.frozen B1)); (try (have B2 := Has.below (b := w.heap.size + 1 + 1) (by repeat' (first | with_reducible assumption | with_reducible apply Has.new | with_reducible apply Has.new1 | with_reducible apply Has.new2 | with_reducible apply Has.new3 | with_reducible apply Has.new4 | with_reducible apply Has.drew | with_reducible apply Has.drewN | with_reducible apply Has.alloc | with_reducible apply Has.same | with_reducible apply Has.other | (with_reducible show _ ≠ _; first | omega | (simp; done)))) hbq; have C2 := Has.cell B2; have F2 := Has.frozen B2)); (try (have B3 := Has.below (b := w.heap.size + 1 + 1 + 1) (by repeat' (first | with_reducible assumption | with_reducible apply Has.new | with_reducible apply Has.new1 | with_reducible apply Has.new2 | with_reducible apply Has.new3 | with_reducible apply Has.new4 | with_reducible apply Has.drew | with_reducible apply Has.drewN | with_reducible apply Has.alloc | with_reducible apply Has.same | with_reducible apply Has.other | (with_reducible show _ ≠ _; first | omega | (simp; done)))) hbq; have C3 := Has.cell B3; have F3 := Has.frozen B3)); (try (have BX := Has.below (b := bX) (by repeat' (first | with_reducible assumption | with_reducible apply Has.new | with_reducible apply Has.new1 | with_reducible apply Has.new2 | with_reducible apply Has.new3 | with_reducible apply Has.new4 | with_reducible apply Has.drew | with_reducible apply Has.drewN | with_reducible apply Has.alloc | with_reducible apply Has.same | with_reducible apply Has.other | (with_reducible show _ ≠ _; first | omega | (simp; done)))) hbq; have CX := Has.cell BX; have FX := Has.frozen BX)); (try (have BY := Has.below (b := bY) (by repeat' (first | with_reducible assumption | with_reducible apply Has.new | with_reducible apply Has.new1 | with_reducible apply Has.new2 | with_reducible apply Has.new3 | with_reducible apply Has.new4 | with_reducible apply Has.drew | with_reducible apply Has.drewN | with_reducible apply Has.alloc | with_reducible apply Has.same | with_reducible apply Has.other | (with_reducible show _ ≠ _; first | omega | (simp; done)))) hbq; have CY := Has.cell BY; have FY := Has.frozen BY)); have HL2 := Lib.hid ((HL.out.below (lowAlloc (lowRefl w) _)).below hbq)) | (go_at_call 16; (with_reducible refine (shueOk_yes h.r h.g h.b _ HH.out).mono ?_); rintro e w2 ⟨rfl, hb2⟩; have HL3 := Lib.hid (HL2.out.below hb2); have B02 := B0.below hb2; have C02 := Has.cell B02) | (go_at_call 56; (with_reducible refine (l9Near_any l _ h _ HL3.out G.out.1 G.out.2 HH.out).mono ?_); rintro e w3 ⟨rfl, hb3⟩))
      have hL : Below w.heap.size w w3 := lowCall (lowCall (lowCall (lowAlloc (lowRefl w) _) hbq) hb2) hb3
      go_ret
      exact ⟨rfl, hL⟩
    · rw [hnr_no (fun k => hh k.2.2)]
      have HH := Lib.hid hh
      clear hg hh
      go_enter Try.func31, Try.ntmps31
      go_wp2_with (first | (go_at_call 55; (with_reducible refine (HC.out _ (HL.out.below (lowAlloc (lowRefl w) _))).mono ?_); rintro e w' ⟨rfl, hbq⟩; (try (have B0 := Has.below (b := w.heap.size) (by repeat' (first | with_reducible assumption | with_reducible apply Has.new | with_reducible apply Has.new1 | with_reducible apply Has.new2 | with_reducible apply Has.new3 | with_reducible apply Has.new4 | with_reducible apply Has.drew | with_reducible apply Has.drewN | with_reducible apply Has.alloc | with_reducible apply Has.same | with_reducible apply Has.other | (with_reducible show _ ≠ _; first | omega | (simp; done)))) hbq; have C0 := Has.cell B0; have F0 := Has.frozen B0)); (try (have B1 := Has.below (b := w.heap.size + 1) (by repeat' (first | with_reducible assumption | with_reducible apply Has.new | with_reducible apply Has.new1 | with_reducible apply Has.new2 | with_reducible apply Has.new3 | with_reducible apply Has.new4 | with_reducible apply Has.drew | with_reducible apply Has.drewN | with_reducible apply Has.alloc | with_reducible apply Has.same | with_reducible apply Has.other | (with_reducible show _ ≠ _; first | omega | (simp; done)))) hbq; have C1 := Has.cell B1; have F1 := Has.frozen B1)); (try (have B2 := Has.below (b := w.heap.size + 1 + 1) (by repeat' (first | with_reducible assumption | with_reducible apply Has.new | with_reducible apply Has.new1 | with_reducible apply Has.new2 | with_reducible apply Has.new3 | with_reducible apply Has.new4 | with_reducible apply Has.drew | with_reducible apply Has.drewN | with_reducible apply Has.alloc | with_reducible apply Has.same | with_reducible apply Has.other | (with_reducible show _ ≠ _; first | omega | (simp; done)))) hbq; have C2 := Has.cell B2; have F2 := Has.frozen B2)); (try (have B3 := Has.below (b := w.heap.size + 1 + 1 + 1) (by repeat' (first | with_reducible assumption | with_reducible apply Has.new | with_reducible apply Has.new1 | with_reducible apply Has.new2 | with_reducible apply Has.new3 | with_reducible apply Has.new4 | with_reducible apply Has.drew | with_reducible apply Has.drewN | with_reducible apply Has.alloc | with_reducible apply Has.same | with_reducible apply Has.other | (with_reducible show _ ≠ _; first | omega | (simp; done)))) hbq; have C3 := Has.cell B3; have F3 := Has.frozen B3)); (try (have BX := Has.below (b := bX) (by repeat' (first | with_reducible assumption | with_reducible apply Has.new | with_reducible apply Has.new1 | with_reducible apply Has.new2 | with_reducible apply Has.new3 | with_reducible apply Has.new4 | with_reducible apply Has.drew | with_reducible apply Has.drewN | with_reducible apply Has.alloc | with_reducible apply Has.same | with_reducible apply Has.other | (with_reducible show _ ≠ _; first | omega | (simp; done)))) hbq; have CX := Has.cell BX; have FX := Has.frozen BX)); (try (have BY := Has.below (b := bY) (by repeat' (first | with_reducible assumption | with_reducible apply Has.new | with_reducible apply Has.new1 | with_reducible apply Has.new2 | with_reducible apply Has.new3 | with_reducible apply Has.new4 | with_reducible apply Has.drew | with_reducible apply Has.drewN | with_reducible apply Has.alloc | with_reducible apply Has.same | with_reducible apply Has.other | (with_reducible show _ ≠ _; first | omega | (simp; done)))) hbq; have CY := Has.cell BY; have FY := Has.frozen BY))) | (go_at_call 16; (with_reducible refine (shueOk_no h.r h.g h.b _ HH.out).mono ?_); rintro e w2 ⟨rfl, hb2⟩))
      have hL : Below w.heap.size w w2 := lowCall (lowCall (lowAlloc (lowRefl w) _) hbq) hb2
      go_ret
      exact ⟨rfl, hL⟩
  · rw [hnr_no (fun k => hg ⟨k.1, k.2.1⟩)]
    have HC : Hid (∀ w, HuIn w (.slice A l.length c) l → Calls Try.prog 55 #[.slice A l.length c] w fun e w' => e = .returned (.bool false) ∧ Below w.heap.size w w') := Lib.hid fun w k => l9Hues_any l _ w k hn false ⟨fun h => by simp at h, fun h => absurd h hg⟩
    clear hg
    go_enter Try.func31, Try.ntmps31
    go_wp2_with (go_at_call 55; (with_reducible refine (HC.out _ (HL.out.below (lowAlloc (lowRefl w) _))).mono ?_); rintro e w' ⟨rfl, hbq⟩; (try (have B0 := Has.below (b := w.heap.size) (by repeat' (first | with_reducible assumption | with_reducible apply Has.new | with_reducible apply Has.new1 | with_reducible apply Has.new2 | with_reducible apply Has.new3 | with_reducible apply Has.new4 | with_reducible apply Has.drew | with_reducible apply Has.drewN | with_reducible apply Has.alloc | with_reducible apply Has.same | with_reducible apply Has.other | (with_reducible show _ ≠ _; first | omega | (simp; done)))) hbq; have C0 := Has.cell B0; have F0 := Has.frozen B0)); (try (have B1 := Has.below (b := w.heap.size + 1) (by repeat' (first | with_reducible assumption | with_reducible apply Has.new | with_reducible apply Has.new1 | with_reducible apply Has.new2 | with_reducible apply Has.new3 | with_reducible apply Has.new4 | with_reducible apply Has.drew | with_reducible apply Has.drewN | with_reducible apply Has.alloc | with_reducible apply Has.same | with_reducible apply Has.other | (with_reducible show _ ≠ _; first | omega | (simp; done)))) hbq; have C1 := Has.cell B1; have F1 := Has.frozen B1)); (try (have B2 := Has.below (b := w.heap.size + 1 + 1) (by repeat' (first | with_reducible assumption | with_reducible apply Has.new | with_reducible apply Has.new1 | with_reducible apply Has.new2 | with_reducible apply Has.new3 | with_reducible apply Has.new4 | with_reducible apply Has.drew | with_reducible apply Has.drewN | with_reducible apply Has.alloc | with_reducible apply Has.same | with_reducible apply Has.other | (with_reducible show _ ≠ _; first | omega | (simp; done)))) hbq; have C2 := Has.cell B2; have F2 := Has.frozen B2)); (try (have B3 := Has.below (b := w.heap.size + 1 + 1 + 1) (by repeat' (first | with_reducible assumption | with_reducible apply Has.new | with_reducible apply Has.new1 | with_reducible apply Has.new2 | with_reducible apply Has.new3 | with_reducible apply Has.new4 | with_reducible apply Has.drew | with_reducible apply Has.drewN | with_reducible apply Has.alloc | with_reducible apply Has.same | with_reducible apply Has.other | (with_reducible show _ ≠ _; first | omega | (simp; done)))) hbq; have C3 := Has.cell B3; have F3 := Has.frozen B3)); (try (have BX := Has.below (b := bX) (by repeat' (first | with_reducible assumption | with_reducible apply Has.new | with_reducible apply Has.new1 | with_reducible apply Has.new2 | with_reducible apply Has.new3 | with_reducible apply Has.new4 | with_reducible apply Has.drew | with_reducible apply Has.drewN | with_reducible apply Has.alloc | with_reducible apply Has.same | with_reducible apply Has.other | (with_reducible show _ ≠ _; first | omega | (simp; done)))) hbq; have CX := Has.cell BX; have FX := Has.frozen BX)); (try (have BY := Has.below (b := bY) (by repeat' (first | with_reducible assumption | with_reducible apply Has.new | with_reducible apply Has.new1 | with_reducible apply Has.new2 | with_reducible apply Has.new3 | with_reducible apply Has.new4 | with_reducible apply Has.drew | with_reducible apply Has.drewN | with_reducible apply Has.alloc | with_reducible apply Has.same | with_reducible apply Has.other | (with_reducible show _ ≠ _; first | omega | (simp; done)))) hbq; have CY := Has.cell BY; have FY := Has.frozen BY)))
    have hL : Below w.heap.size w w' := lowCall (lowAlloc (lowRefl w) _) hbq
    go_ret
    exact ⟨rfl, hL⟩
end Go.Proofs.Ytegibpepdndocaa
