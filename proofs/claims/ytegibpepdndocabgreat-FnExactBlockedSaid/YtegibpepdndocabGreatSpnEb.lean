import Derived.Test.YtegibpepdndocabGreatSpLb
import Derived.Test.YtegibpepdndocabGreatSpnOb
section
namespace Go.Proofs.YtegibpepdndocabGreat
open Go.ChangeShapes Go.WideShapes Go.ChangeAt Go.RowKit
set_option maxHeartbeats 1000000
set_option linter.unusedSimpArgs false
attribute [local go_sem] VGo_value VGo_skip VGo_enter

theorem retN {a b : Int} (h : a = b) : Ending.returned (.int .i64 b) = .returned (.int .i64 a) := by rw [h]
theorem hit_false {s : Sp} {t : Int} (h : ¬ (s.f ≤ t ∧ t < s.t)) : spHit s t = false := by
  simp only [spHit, Bool.and_eq_false_iff, decide_eq_false_iff_not]; omega
theorem hit_true {s : Sp} {t : Int} (h : s.f ≤ t ∧ t < s.t) : spHit s t = true := by
  simp only [spHit, Bool.and_eq_true, decide_eq_true_eq]; exact h
/- none of the first spans has t -/
def NoHit (l : List Sp) (t : Int) (n : Nat) : Prop := ∀ k (h : k < l.length), k < n → spHit l[k] t = false
theorem noHit_succ {l : List Sp} {t : Int} {n : Nat} (h : NoHit l t n) (hn : n < l.length) (hh : ¬ (l[n].f ≤ t ∧ t < l[n].t)) : NoHit l t (n + 1) := fun k hk hlt => by
  rcases Nat.lt_or_ge k n with h1 | h1
  · exact h k hk h1
  · have e : k = n := by omega
    subst e; exact hit_false hh
theorem noHit_at {l : List Sp} {t : Int} {n : Nat} (h : NoHit l t n) (hn : n < l.length) (hh : l[n].f ≤ t ∧ t < l[n].t) : spAt l t = n := spAt_hit hn (hit_true hh) fun j hj => h j _ hj
theorem noHit_none {l : List Sp} {t : Int} (h : NoHit l t l.length) : spAt l t = -1 := spAt_none fun j hj => h j hj hj
theorem l5At_any (l : List Sp) (v : Value) (t : Int) (w : World) (h : SIn w v l) (hl : l.length ≤ 9223372036854775807) :
    Calls Tryz.prog 234 #[v, .int .i64 t] w fun e w' => e = .returned (.int .i64 (spAt l t)) ∧ w = w' := by
  obtain ⟨A, c, rfl, hA⟩ := h
  have HA := Lib.hid hA
  clear hA
  go_enter Tryz.func234, Tryz.ntmps234
  go_wp2
  go_loop [5] (fun i => ∃ j : Nat, j ≤ l.length ∧ i = .int .i64 j ∧ NoHit l t j) (fun i => l.length - (intOf i).toNat)
  case atStart => exact ⟨0, by omega, rfl, fun k _ h => by omega⟩
  case round =>
    obtain ⟨j, hj, rfl, hp⟩ := hrel
    have HP := Lib.hid hp
    clear hp
    by_cases hc : j < l.length
    · obtain ⟨b, off, rfl, hf⟩ := HA.out (by omega)
      obtain ⟨c0, c1, c2, c3⟩ := hf j hc
      clear hf
      by_cases hh : l[j].f ≤ t ∧ t < l[j].t
      · have H := Lib.hid (noHit_at HP.out hc hh)
        obtain ⟨h1, h2⟩ := hh
        go_wp2
        go_ret
        exact ⟨retN H.out, rfl⟩
      · have H := Lib.hid (noHit_succ HP.out hc hh)
        by_cases h1 : l[j].f ≤ t
        · have h2 : decide (t < l[j].t) = false := by simpa [h1] using hh
          clear hh
          go_wp2
          go_round
          case rel => exact ⟨j + 1, by omega, by go_num, H.out⟩
          case measure => simp [intOf]; omega
        · have h2 : decide (l[j].f ≤ t) = false := by simpa using h1
          clear hh h1
          go_wp2
          go_round
          case rel => exact ⟨j + 1, by omega, by go_num, H.out⟩
          case measure => simp [intOf]; omega
    · obtain rfl : j = l.length := by omega
      have H := Lib.hid (noHit_none HP.out)
      go_wp2
      go_ret
      exact ⟨retN H.out, rfl⟩
end Go.Proofs.YtegibpepdndocabGreat
end
section
namespace Go.Proofs.YtegibpepdndocabGreat
open Go.ChangeShapes Go.WideShapes Go.ChangeAt Go.RowKit
set_option maxHeartbeats 1000000
set_option linter.unusedSimpArgs false

abbrev optV (o : Option Int) : Value := .tuple #[.int .i64 (o.getD 0), .bool o.isSome]
theorem optV_some {o : Option Int} {n : Int} (h : o = some n) : Ending.returned (.tuple #[.int .i64 n, .bool true]) = .returned (optV o) := by rw [h]; rfl
theorem optV_none {o : Option Int} (h : o = none) : Ending.returned (.tuple #[.int .i64 0, .bool false]) = .returned (optV o) := by rw [h]; rfl
theorem l5In_any (l : List Sp) (v : Value) (t : Int) (w : World) (h : SIn w v l) (hl : l.length ≤ 9223372036854775807) :
    Calls Tryz.prog 235 #[v, .int .i64 t] w fun e w' => e = .returned (optV (spIn l t)) ∧ w = w' := by
  have H := Lib.hid h
  have hbd := spAt_bd l t
  by_cases h0 : 0 ≤ spAt l t
  · obtain ⟨k, hk⟩ := Int.eq_ofNat_of_zero_le h0
    have hkl : k < l.length := by omega
    have hin := spIn_at (l := l) (t := t)
    rw [hk] at hin hbd
    simp only [Int.toNat_natCast, List.getD, List.getElem?_eq_getElem hkl, Option.getD_some] at hin
    obtain ⟨A, c, rfl, hA⟩ := h
    obtain ⟨b, off, rfl, hf⟩ := hA (by omega)
    obtain ⟨c0, c1, c2, c3⟩ := hf k hkl
    clear hf hA
    have hneg : decide ((k : Int) < 0) = false := decide_eq_false (by omega)
    by_cases he : l[k].f = t
    · rw [if_pos ⟨by omega, he⟩] at hin
      have HI := Lib.hid hin
      have he' : (l[k].f != t) = false := by simpa using he
      have he2 : (l[k].f == t) = true := by simpa using he
      clear hin he hbd h0
      go_enter Tryz.func235, Tryz.ntmps235
      go_wp2_with (go_at_call 234; refine (l5At_any l _ t _ H.out hl).mono ?_; rintro e w' ⟨rfl, rfl⟩; rw [hk])
      refine bodyPost_ret ?hres rfl ⟨optV_some HI.out, rfl⟩
      case hres => (first | (simp [results, Tryz.results235, go_sem]; done) | (simp [results, Tryz.results235, go_sem, *]; done))
    · rw [if_neg (fun hh => he hh.2)] at hin
      have HI := Lib.hid hin
      have he' : (l[k].f != t) = true := by simpa using he
      have he2 : (l[k].f == t) = false := by simpa using he
      clear hin he hbd h0
      go_enter Tryz.func235, Tryz.ntmps235
      go_wp2_with (go_at_call 234; refine (l5At_any l _ t _ H.out hl).mono ?_; rintro e w' ⟨rfl, rfl⟩; rw [hk])
      refine bodyPost_ret ?hres rfl ⟨optV_none HI.out, rfl⟩
      case hres => (first | (simp [results, Tryz.results235, go_sem]; done) | (simp [results, Tryz.results235, go_sem, *]; done))
  · have hk : spAt l t = -1 := by omega
    have hin := spIn_at (l := l) (t := t)
    rw [if_neg (fun hh => h0 hh.1)] at hin
    have HI := Lib.hid hin
    clear hin h0 hbd
    obtain ⟨A, c, rfl, hA⟩ := h
    go_enter Tryz.func235, Tryz.ntmps235
    go_wp2_with (go_at_call 234; refine (l5At_any l _ t _ H.out hl).mono ?_; rintro e w' ⟨rfl, rfl⟩; rw [hk])
    refine bodyPost_ret ?hres rfl ⟨optV_none HI.out, rfl⟩
    case hres => (first | (simp [results, Tryz.results235, go_sem]; done) | (simp [results, Tryz.results235, go_sem, *]; done))
def NoEnd (l : List Sp) (t : Int) (n : Nat) : Prop := ∀ k (h : k < l.length), k < n → l[k].t ≠ t
theorem noEnd_succ {l : List Sp} {t : Int} {n : Nat} (h : NoEnd l t n) (hn : n < l.length) (hh : l[n].t ≠ t) : NoEnd l t (n + 1) := fun k hk hlt => by
  rcases Nat.lt_or_ge k n with h1 | h1
  · exact h k hk h1
  · have e : k = n := by omega
    subst e; exact hh
theorem spOut_hit {l : List Sp} {t : Int} {n : Nat} (h : NoEnd l t n) (hn : n < l.length) (hh : l[n].t = t) : spOut l t = some l[n].o := by
  have : l.find? (fun s => s.t == t) = some l[n] := by
    rw [List.find?_eq_some_iff_getElem]
    exact ⟨by simpa using hh, n, hn, rfl, fun j hj => by simpa using h j (by omega) hj⟩
  unfold spOut; rw [this]; rfl
theorem spOut_none {l : List Sp} {t : Int} (h : NoEnd l t l.length) : spOut l t = none := by
  have : l.find? (fun s => s.t == t) = none := by
    rw [List.find?_eq_none]
    intro x hx
    obtain ⟨j, hj, rfl⟩ := List.getElem_of_mem hx
    simpa using h j hj hj
  unfold spOut; rw [this]; rfl
theorem l5Out_any (l : List Sp) (v : Value) (t : Int) (w : World) (h : SIn w v l) (hl : l.length ≤ 9223372036854775807) :
    Calls Tryz.prog 236 #[v, .int .i64 t] w fun e w' => e = .returned (optV (spOut l t)) ∧ w = w' := by
  obtain ⟨A, c, rfl, hA⟩ := h
  have HA := Lib.hid hA
  clear hA
  go_enter Tryz.func236, Tryz.ntmps236
  go_wp2
  go_loop [6] (fun i => ∃ j : Nat, j ≤ l.length ∧ i = .int .i64 j ∧ NoEnd l t j) (fun i => l.length - (intOf i).toNat)
  case atStart => exact ⟨0, by omega, rfl, fun k _ h => by omega⟩
  case round =>
    obtain ⟨j, hj, rfl, hp⟩ := hrel
    have HP := Lib.hid hp
    clear hp
    by_cases hc : j < l.length
    · obtain ⟨b, off, rfl, hf⟩ := HA.out (by omega)
      obtain ⟨c0, c1, c2, c3⟩ := hf j hc
      clear hf
      by_cases hh : l[j].t = t
      · have H := Lib.hid (spOut_hit HP.out hc hh)
        have h2 : (l[j].t == t) = true := by simpa using hh
        clear hh
        go_wp2
        refine bodyPost_ret ?hres rfl ⟨optV_some H.out, rfl⟩
        case hres => (first | (simp [results, Tryz.results236, go_sem]; done) | (simp [results, Tryz.results236, go_sem, *]; done))
      · have H := Lib.hid (noEnd_succ HP.out hc hh)
        have h2 : (l[j].t == t) = false := by simpa using hh
        clear hh
        go_wp2
        go_round
        case rel => exact ⟨j + 1, by omega, by go_num, H.out⟩
        case measure => simp [intOf]; omega
    · obtain rfl : j = l.length := by omega
      have H := Lib.hid (spOut_none HP.out)
      go_wp2
      refine bodyPost_ret ?hres rfl ⟨optV_none H.out, rfl⟩
      case hres => (first | (simp [results, Tryz.results236, go_sem]; done) | (simp [results, Tryz.results236, go_sem, *]; done))
theorem l5Has_any (op : Nat) (hop : op ≤ 2) (a b : List Sp) (va vb : Value) (t : Int) (w : World) (ha : SIn w va a) (hb : SIn w vb b) (hla : a.length ≤ 9223372036854775807) (hlb : b.length ≤ 9223372036854775807) :
    Calls Tryz.prog 205 #[.int .i64 op, va, vb, .int .i64 t] w fun e w' => e = .returned (.bool (hasAt op a b t)) ∧ w = w' := by
  have HA := Lib.hid ha
  have HB := Lib.hid hb
  clear ha hb
  unfold hasAt
  obtain ⟨x, hx⟩ : ∃ x, spAt a t = x := ⟨_, rfl⟩
  obtain ⟨y, hy⟩ : ∃ y, spAt b t = y := ⟨_, rfl⟩
  rw [hx, hy]
  have hop' : op = 0 ∨ op = 1 ∨ op = 2 := by omega
  by_cases h1 : 0 ≤ x
  · by_cases h2 : 0 ≤ y
    · have e1 : decide (0 ≤ x) = true := decide_eq_true h1
      have e2 : decide (0 ≤ y) = true := decide_eq_true h2
      rw [e1, e2]
      have hx := hx
      rcases hop' with rfl | rfl | rfl
      · go_enter Tryz.func205, Tryz.ntmps205
        go_wp2_with (first | (go_at_call 234; (with_reducible refine (l5At_any a va t _ HA.out hla).mono ?_); rintro e w' ⟨rfl, rfl⟩; rw [hx]) | (go_at_call 234; (with_reducible refine (l5At_any b vb t _ HB.out hlb).mono ?_); rintro e w' ⟨rfl, rfl⟩; rw [hy]))
        go_ret
        exact ⟨by first | rfl | simp [spHas], rfl⟩
      · go_enter Tryz.func205, Tryz.ntmps205
        go_wp2_with (first | (go_at_call 234; (with_reducible refine (l5At_any a va t _ HA.out hla).mono ?_); rintro e w' ⟨rfl, rfl⟩; rw [hx]) | (go_at_call 234; (with_reducible refine (l5At_any b vb t _ HB.out hlb).mono ?_); rintro e w' ⟨rfl, rfl⟩; rw [hy]))
        go_ret
        exact ⟨by first | rfl | simp [spHas], rfl⟩
      · go_enter Tryz.func205, Tryz.ntmps205
        go_wp2_with (first | (go_at_call 234; (with_reducible refine (l5At_any a va t _ HA.out hla).mono ?_); rintro e w' ⟨rfl, rfl⟩; rw [hx]) | (go_at_call 234; (with_reducible refine (l5At_any b vb t _ HB.out hlb).mono ?_); rintro e w' ⟨rfl, rfl⟩; rw [hy]))
        go_ret
        exact ⟨by first | rfl | simp [spHas], rfl⟩
    · have e1 : decide (0 ≤ x) = true := decide_eq_true h1
      have e2 : decide (0 ≤ y) = false := decide_eq_false h2
      rw [e1, e2]
      have hx := hx
      rcases hop' with rfl | rfl | rfl
      · go_enter Tryz.func205, Tryz.ntmps205
        go_wp2_with (first | (go_at_call 234; (with_reducible refine (l5At_any a va t _ HA.out hla).mono ?_); rintro e w' ⟨rfl, rfl⟩; rw [hx]) | (go_at_call 234; (with_reducible refine (l5At_any b vb t _ HB.out hlb).mono ?_); rintro e w' ⟨rfl, rfl⟩; rw [hy]))
        go_ret
        exact ⟨by first | rfl | simp [spHas], rfl⟩
      · go_enter Tryz.func205, Tryz.ntmps205
        go_wp2_with (first | (go_at_call 234; (with_reducible refine (l5At_any a va t _ HA.out hla).mono ?_); rintro e w' ⟨rfl, rfl⟩; rw [hx]) | (go_at_call 234; (with_reducible refine (l5At_any b vb t _ HB.out hlb).mono ?_); rintro e w' ⟨rfl, rfl⟩; rw [hy]))
        go_ret
        exact ⟨by first | rfl | simp [spHas], rfl⟩
      · go_enter Tryz.func205, Tryz.ntmps205
        go_wp2_with (first | (go_at_call 234; (with_reducible refine (l5At_any a va t _ HA.out hla).mono ?_); rintro e w' ⟨rfl, rfl⟩; rw [hx]) | (go_at_call 234; (with_reducible refine (l5At_any b vb t _ HB.out hlb).mono ?_); rintro e w' ⟨rfl, rfl⟩; rw [hy]))
        go_ret
        exact ⟨by first | rfl | simp [spHas], rfl⟩
  · by_cases h2 : 0 ≤ y
    · have e1 : decide (0 ≤ x) = false := decide_eq_false h1
      have e2 : decide (0 ≤ y) = true := decide_eq_true h2
      rw [e1, e2]
      have hx := hx
      rcases hop' with rfl | rfl | rfl
      · go_enter Tryz.func205, Tryz.ntmps205
        go_wp2_with (first | (go_at_call 234; (with_reducible refine (l5At_any a va t _ HA.out hla).mono ?_); rintro e w' ⟨rfl, rfl⟩; rw [hx]) | (go_at_call 234; (with_reducible refine (l5At_any b vb t _ HB.out hlb).mono ?_); rintro e w' ⟨rfl, rfl⟩; rw [hy]))
        go_ret
        exact ⟨by first | rfl | simp [spHas], rfl⟩
      · go_enter Tryz.func205, Tryz.ntmps205
        go_wp2_with (first | (go_at_call 234; (with_reducible refine (l5At_any a va t _ HA.out hla).mono ?_); rintro e w' ⟨rfl, rfl⟩; rw [hx]) | (go_at_call 234; (with_reducible refine (l5At_any b vb t _ HB.out hlb).mono ?_); rintro e w' ⟨rfl, rfl⟩; rw [hy]))
        go_ret
        exact ⟨by first | rfl | simp [spHas], rfl⟩
      · go_enter Tryz.func205, Tryz.ntmps205
        go_wp2_with (first | (go_at_call 234; (with_reducible refine (l5At_any a va t _ HA.out hla).mono ?_); rintro e w' ⟨rfl, rfl⟩; rw [hx]) | (go_at_call 234; (with_reducible refine (l5At_any b vb t _ HB.out hlb).mono ?_); rintro e w' ⟨rfl, rfl⟩; rw [hy]))
        go_ret
        exact ⟨by first | rfl | simp [spHas], rfl⟩
    · have e1 : decide (0 ≤ x) = false := decide_eq_false h1
      have e2 : decide (0 ≤ y) = false := decide_eq_false h2
      rw [e1, e2]
      have hx := hx
      rcases hop' with rfl | rfl | rfl
      · go_enter Tryz.func205, Tryz.ntmps205
        go_wp2_with (first | (go_at_call 234; (with_reducible refine (l5At_any a va t _ HA.out hla).mono ?_); rintro e w' ⟨rfl, rfl⟩; rw [hx]) | (go_at_call 234; (with_reducible refine (l5At_any b vb t _ HB.out hlb).mono ?_); rintro e w' ⟨rfl, rfl⟩; rw [hy]))
        go_ret
        exact ⟨by first | rfl | simp [spHas], rfl⟩
      · go_enter Tryz.func205, Tryz.ntmps205
        go_wp2_with (first | (go_at_call 234; (with_reducible refine (l5At_any a va t _ HA.out hla).mono ?_); rintro e w' ⟨rfl, rfl⟩; rw [hx]) | (go_at_call 234; (with_reducible refine (l5At_any b vb t _ HB.out hlb).mono ?_); rintro e w' ⟨rfl, rfl⟩; rw [hy]))
        go_ret
        exact ⟨by first | rfl | simp [spHas], rfl⟩
      · go_enter Tryz.func205, Tryz.ntmps205
        go_wp2_with (first | (go_at_call 234; (with_reducible refine (l5At_any a va t _ HA.out hla).mono ?_); rintro e w' ⟨rfl, rfl⟩; rw [hx]) | (go_at_call 234; (with_reducible refine (l5At_any b vb t _ HB.out hlb).mono ?_); rintro e w' ⟨rfl, rfl⟩; rw [hy]))
        go_ret
        exact ⟨by first | rfl | simp [spHas], rfl⟩
theorem suOut_bd {l : List Sp} (h : SpsGood l) {t n : Int} (he : spOut l t = some n) : -1000 ≤ n ∧ n ≤ 1000 := by
  unfold spOut at he
  obtain ⟨s, hs, rfl⟩ := Option.map_eq_some_iff.1 he
  obtain ⟨j, hj, rfl⟩ := List.getElem_of_mem (List.mem_of_find?_eq_some hs)
  have := (h j hj).1
  unfold SpGood at this; omega
theorem suIn_bd {l : List Sp} (h : SpsGood l) {t n : Int} (he : spIn l t = some n) : -1000 ≤ n ∧ n ≤ 1000 := by
  unfold spIn at he
  split at he
  · rename_i k hk
    rw [List.findIdx?_eq_some_iff_getElem] at hk
    obtain ⟨hk, _⟩ := hk
    split at he
    · rw [getD_lt hk] at he
      injection he with he
      have := (h k hk).1
      unfold SpGood at this; omega
    · cases he
  · cases he
theorem getD_bd {o : Option Int} (h : ∀ n, o = some n → -1000 ≤ n ∧ n ≤ 1000) : -1000 ≤ o.getD 0 ∧ o.getD 0 ≤ 1000 := by
  cases o with
  | none => simp
  | some n => exact h n rfl
theorem l5Begin_any (op : Nat) (hop : op ≤ 2) (a b : List Sp) (va vb : Value) (t : Int) (w : World) (ha : SIn w va a) (hb : SIn w vb b) (hla : a.length ≤ 9223372036854775807) (hlb : b.length ≤ 9223372036854775807) (hgb : SpsGood b) :
    Calls Tryz.prog 206 #[.int .i64 op, va, vb, .int .i64 t] w fun e w' => e = .returned (.int .i64 (beginAt op a b t)) ∧ w = w' := by
  have HA := Lib.hid ha
  have HB := Lib.hid hb
  have D1 := getD_bd fun n => suOut_bd hgb (t := t) (n := n)
  clear ha hb hgb
  obtain ⟨d1, d2⟩ := D1
  unfold beginAt
  cases hi : spIn a t with
  | some n =>
    go_enter Tryz.func206, Tryz.ntmps206
    go_wp2_with (go_at_call 235; refine (l5In_any a va t _ HA.out hla).mono ?_; rintro e w' ⟨rfl, rfl⟩; rw [hi])
    go_ret
    exact ⟨rfl, rfl⟩
  | none =>
    have hop' : op = 0 ∨ op = 1 ∨ op = 2 := by omega
    rcases hop' with rfl | rfl | rfl
    · go_enter Tryz.func206, Tryz.ntmps206
      go_wp2_with (first | (go_at_call 235; (with_reducible refine (l5In_any a va t _ HA.out hla).mono ?_); rintro e w' ⟨rfl, rfl⟩; rw [hi]) | ((go_at_call 235; ((with_reducible refine (l5In_any b vb t _ HB.out hlb).mono ?_); rintro e w' ⟨rfl, rfl⟩))))
      go_ret
      exact ⟨rfl, rfl⟩
    · go_enter Tryz.func206, Tryz.ntmps206
      go_wp2_with (first | (go_at_call 235; (with_reducible refine (l5In_any a va t _ HA.out hla).mono ?_); rintro e w' ⟨rfl, rfl⟩; rw [hi]) | ((go_at_call 235; ((with_reducible refine (l5In_any b vb t _ HB.out hlb).mono ?_); rintro e w' ⟨rfl, rfl⟩))))
      go_ret
      exact ⟨rfl, rfl⟩
    · go_enter Tryz.func206, Tryz.ntmps206
      go_wp2_with (first | (go_at_call 235; (with_reducible refine (l5In_any a va t _ HA.out hla).mono ?_); rintro e w' ⟨rfl, rfl⟩; rw [hi]) | ((go_at_call 236; ((with_reducible refine (l5Out_any b vb t _ HB.out hlb).mono ?_); rintro e w' ⟨rfl, rfl⟩))))
      go_ret
      exact ⟨rfl, rfl⟩
theorem l5End_any (op : Nat) (hop : op ≤ 2) (a b : List Sp) (va vb : Value) (t : Int) (w : World) (ha : SIn w va a) (hb : SIn w vb b) (hla : a.length ≤ 9223372036854775807) (hlb : b.length ≤ 9223372036854775807) (hgb : SpsGood b) :
    Calls Tryz.prog 207 #[.int .i64 op, va, vb, .int .i64 t] w fun e w' => e = .returned (.int .i64 (endAt op a b t)) ∧ w = w' := by
  have HA := Lib.hid ha
  have HB := Lib.hid hb
  have D1 := getD_bd fun n => suIn_bd hgb (t := t) (n := n)
  clear ha hb hgb
  obtain ⟨d1, d2⟩ := D1
  unfold endAt
  cases hi : spOut a t with
  | some n =>
    go_enter Tryz.func207, Tryz.ntmps207
    go_wp2_with (go_at_call 236; refine (l5Out_any a va t _ HA.out hla).mono ?_; rintro e w' ⟨rfl, rfl⟩; rw [hi])
    go_ret
    exact ⟨rfl, rfl⟩
  | none =>
    have hop' : op = 0 ∨ op = 1 ∨ op = 2 := by omega
    rcases hop' with rfl | rfl | rfl
    · go_enter Tryz.func207, Tryz.ntmps207
      go_wp2_with (first | (go_at_call 236; (with_reducible refine (l5Out_any a va t _ HA.out hla).mono ?_); rintro e w' ⟨rfl, rfl⟩; rw [hi]) | ((go_at_call 236; ((with_reducible refine (l5Out_any b vb t _ HB.out hlb).mono ?_); rintro e w' ⟨rfl, rfl⟩))))
      go_ret
      exact ⟨rfl, rfl⟩
    · go_enter Tryz.func207, Tryz.ntmps207
      go_wp2_with (first | (go_at_call 236; (with_reducible refine (l5Out_any a va t _ HA.out hla).mono ?_); rintro e w' ⟨rfl, rfl⟩; rw [hi]) | ((go_at_call 236; ((with_reducible refine (l5Out_any b vb t _ HB.out hlb).mono ?_); rintro e w' ⟨rfl, rfl⟩))))
      go_ret
      exact ⟨rfl, rfl⟩
    · go_enter Tryz.func207, Tryz.ntmps207
      go_wp2_with (first | (go_at_call 236; (with_reducible refine (l5Out_any a va t _ HA.out hla).mono ?_); rintro e w' ⟨rfl, rfl⟩; rw [hi]) | ((go_at_call 235; ((with_reducible refine (l5In_any b vb t _ HB.out hlb).mono ?_); rintro e w' ⟨rfl, rfl⟩))))
      go_ret
      exact ⟨rfl, rfl⟩
end Go.Proofs.YtegibpepdndocabGreat
end
section
namespace Go.Proofs.YtegibpepdndocabGreat
open Go.ChangeShapes Go.WideShapes Go.ChangeAt Go.RowKit
set_option maxHeartbeats 1000000
set_option maxRecDepth 8000
set_option linter.unusedSimpArgs false
attribute [local go_sem] VGo_value VGo_skip VGo_enter

/- rows of integers as rows of elements of one cell -/
abbrev zcells (zs : List Int) : List (List Value) := zs.map fun z => [.int .i64 z]
abbrev ZRow (w : World) (B : Nat) (v : Value) (zs : List Int) : Prop := RowK w B 3 1 v (zcells zs)
theorem zcells_flat (zs : List Int) : (zcells zs).flatten = ints zs := by
  induction zs with
  | nil => rfl
  | cons z zs ih => simp only [zcells, ints, List.map_cons, List.flatten_cons] at ih ⊢; rw [ih]; rfl
theorem ZRow.row {w : World} {B : Nat} {v : Value} {zs : List Int} (h : ZRow w B v zs) : Row w B v zs := by
  have := h.own
  rw [zcells_flat, List.length_map] at this
  exact this
theorem ZRow.app {w : World} {B : Nat} {v : Value} {xs ys : List Int} (h : RowK w B 3 1 v (zcells xs ++ zcells ys)) : ZRow w B v (xs ++ ys) := by
  unfold ZRow zcells
  rw [List.map_append]
  exact h
theorem one_int {zs : List Int} : ∀ u ∈ (zcells zs).flatten, u.oneCell' = true := by
  intro u hu
  rw [zcells_flat] at hu
  obtain ⟨z, _, rfl⟩ := List.mem_map.1 hu
  rfl
theorem zcells_each {zs : List Int} : ∀ y ∈ zcells zs, y.length = 1 := by
  intro y hy
  obtain ⟨z, _, rfl⟩ := List.mem_map.1 hy
  rfl
def spEnds (l : List Sp) : List Int := l.flatMap fun s => [s.f, s.t]
theorem spEnds_len (l : List Sp) : (spEnds l).length = 2 * l.length := by
  induction l with
  | nil => rfl
  | cons s l ih => simp only [spEnds, List.flatMap_cons, List.length_append, List.length_cons, List.length_nil] at ih ⊢; omega
theorem spEnds_get : ∀ (l : List Sp) (k : Nat), k < 2 * l.length → (spEnds l)[k]? = some (spEn l k)
  | s :: l, 0, _ => by simp [spEnds, spEn]
  | s :: l, 1, _ => by simp [spEnds, spEn]
  | s :: l, k + 2, h => by
    have ih := spEnds_get l k (by simp only [List.length_cons] at h; omega)
    have e : spEn (s :: l) (k + 2) = spEn l k := by
      unfold spEn
      have h1 : (k + 2) % 2 = k % 2 := by omega
      have h2 : (k + 2) / 2 = k / 2 + 1 := by omega
      rw [h1, h2]; rfl
    rw [e, ← ih]; rfl
theorem spEnds_succ {l : List Sp} {j : Nat} (hj : j < l.length) : spEnds (l.take (j + 1)) = spEnds (l.take j) ++ [l[j].f, l[j].t] := by
  unfold spEnds
  rw [List.take_succ_eq_append_getElem hj, List.flatMap_append]
  simp
theorem l5Ends_any (l : List Sp) (v : Value) (w : World) (h : SIn w v l) (hl : l.length ≤ 100000) :
    Calls Tryz.prog 204 #[v] w fun e w' => ∃ v', e = .returned v' ∧ ZRow w' w.heap.size v' (spEnds l) ∧ Below w.heap.size w w' := by
  obtain ⟨A, c, rfl, hA⟩ := h
  have HA := Lib.hid hA
  clear hA
  go_enter Tryz.func204, Tryz.ntmps204
  go_upto_region 2 with fail
  have hr0 : ZRow (w.alloc (.cells #[] 3)) w.heap.size (.slice (some ⟨w.heap.size, 0, none⟩) 0 0) [] := RowK.empty w _ _ _ (Nat.le_refl _)
  have hb0 : Below w.heap.size w (w.alloc (.cells #[] 3)) := by repeat' (first|with_reducible (first|exact lowRefl _|apply lowSet|apply lowDrew|apply lowDrewN|apply lowAlloc)|(with_reducible refine lowCall ?_ (by assumption))|(show (_ : Nat) ≤ _;first|(simp;done)|(simp;omega)|omega))
  generalize w.alloc (.cells #[] 3) = w1 at *
  go_wp2
  go_loopw [3, 4] (fun o i wr => ∃ (j : Nat) (vo : Value), j ≤ l.length ∧ i = .int .i64 j ∧ vo = o ∧ ZRow wr w.heap.size vo (spEnds (l.take j)) ∧ Below w.heap.size w wr) (fun _ i _ => l.length - (intOf i).toNat)
  case atStart => exact ⟨0, _, by omega, rfl, rfl, by simpa [spEnds] using hr0, hb0⟩
  case round =>
    clear hr0 hb0
    obtain ⟨j, vo, hj, rfl, rfl, hr, hb⟩ := hrel
    by_cases hc : j < l.length
    · obtain ⟨b0, off, rfl, hf⟩ := HA.out (by omega)
      have f4 := hf j hc
      clear hf
      have hlt := f4.lt
      have NA : ∀ w', wr.drew.grownBy w' vo.ownBlock → Four w' b0 (off + j * 4) l[j] := fun w' hg =>
        (f4.below hb).lift (hg.block b0 (Nat.lt_of_lt_of_le hlt hb.size) (fun e => by have := (hr.own.lt b0 e.symm).1; omega))
      have hes := spEnds_succ hc
      have hlen : (spEnds (l.take j)).length ≤ 200000 := by rw [spEnds_len]; simp; omega
      generalize spEnds (l.take j) = zs at *
      go_upto_region 5 with fail
      refine wp_region_heldA 11 (by kernel_rfl) (by kernel_rfl) rfl rfl rfl (fun _ _ _ d _ h => by cases d <;> exact h) (fun w' => wr.drew.grownBy w' vo.ownBlock) (fun w' => ZRow w' w.heap.size vo zs) wr.heap.size grown_stab (fun w' h => h.size) (fun w1 w2 h k => h.below k) (World.grownBy.refl _ _) hr.drew ?_
      intro Fq hFq
      simp only [List.take_succ_cons, List.take_zero]
      repeat (first | (refine wpHeld_skip (by rfl) ?_; ((try simp only [Act.put, List.setIfInBounds_toArray, List.set_cons_zero, List.set_cons_succ]))) | (refine wpHeld_run ?_ rfl ?_ ?_; rotate_left; (focus (intro w' hbq Kq hKq; go_simp; (try (rw [IntWalk.i64_in]; rotate_left; focus (constructor <;> omega))); first | exact hKq _ (Below.refl _ _) | (obtain ⟨a0, a1, a2, a3⟩ := NA _ hbq; go_simp; exact hKq _ (Below.refl _ _)))); ((try simp only [Act.put, List.setIfInBounds_toArray, List.set_cons_zero, List.set_cons_succ]))))
      refine wpHeld_nil (hFq _ ⟨2, .cells #[.int .i64 l[j].f, .int .i64 l[j].t] 3, fun v' w' => ZRow w' w.heap.size v' (zs ++ [l[j].f, l[j].t]), fun v' w1 w2 h k => h.below k, rfl, ?_, fun _ => rfl, ?_, ?_⟩)
      · intro w' _ _ K hK
        go_simp
        exact hK
      · intro b w1 hS1 hF1 hN hB K hK
        refine append_wp w1 _ _ 159 3 1 8 _ rfl Tryz.underlying159 info rfl (by omega) w.heap.size vo _ (zcells [l[j].f, l[j].t]) hF1 rfl b 2 rfl _ _ hB rfl rfl zcells_each one_int (by rw [List.length_map]; omega) (by omega) (by have := hb.size; have := hS1.size; simp at this; omega) ?_
        intro v' w' h1 h2
        exact hK _ _ (by_trans hS1 h2) (ZRow.app h1)
      · intro b v' w1 hS1 hN hG1
        have hb2 : Below w.heap.size w w1 := (lowDrew hb).grown hS1 (by simpa using hb.size) (fun g hg => (World.ownsRow.lt hr.own g hg).1)
        rw [← hes] at hG1
        clear NA hr hFq f4
        go_wp2
        go_roundw
        case rel => exact ⟨j + 1, _, by omega, by go_num, rfl, hG1, hb2⟩
        case measure => simp [intOf]; omega
    · obtain rfl : j = l.length := by omega
      rw [List.take_length] at hr
      go_wp2
      go_ret
      exact ⟨_, rfl, hr, hb⟩
end Go.Proofs.YtegibpepdndocabGreat
end
