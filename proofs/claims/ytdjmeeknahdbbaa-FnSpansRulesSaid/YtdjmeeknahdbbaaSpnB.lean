
import Derived.Test.YtdjmeeknahdbbaaSpnA
namespace Go.Proofs.Ytdjmeeknahdbbaa
open Go.ChangeShapes Go.WideShapes Go.ChangeAt Go.RowKit
set_option maxHeartbeats 1000000
set_option linter.unusedSimpArgs false

abbrev optV (o : Option Int) : Value := .tuple #[.int .i64 (o.getD 0), .bool o.isSome]
theorem optV_some {o : Option Int} {n : Int} (h : o = some n) : Ending.returned (.tuple #[.int .i64 n, .bool true]) = .returned (optV o) := by rw [h]; rfl
theorem optV_none {o : Option Int} (h : o = none) : Ending.returned (.tuple #[.int .i64 0, .bool false]) = .returned (optV o) := by rw [h]; rfl
theorem l5In_any (l : List Sp) (v : Value) (t : Int) (w : World) (h : SIn w v l) (hl : l.length ≤ 9223372036854775807) :
    Calls Try.prog 130 #[v, .int .i64 t] w fun e w' => e = .returned (optV (spIn l t)) ∧ w = w' := by
  have H := Lib.hid h
  have hbd := spAt_bd l t
  by_cases h0 : 0 ≤ spAt l t
  · obtain ⟨k, hk⟩ := Int.eq_ofNat_of_zero_le h0
    have hkl : k < l.length := by omega
    have hin := spIn_at (l := l) (t := t)
    rw [hk] at hin hbd
    simp only [Int.toNat_natCast, List.getD, List.getElem?_eq_getElem hkl, Option.getD_some] at hin
    obtain ⟨A, c, rfl, hA⟩ := h
    obtain ⟨b, off, rfl, hf⟩ := hA (by omega)
    obtain ⟨c0, c1, c2, c3⟩ := hf k hkl
    clear hf hA
    have hneg : decide ((k : Int) < 0) = false := decide_eq_false (by omega)
    by_cases he : l[k].f = t
    · rw [if_pos ⟨by omega, he⟩] at hin
      have HI := Lib.hid hin
      have he' : (l[k].f != t) = false := by simpa using he
      have he2 : (l[k].f == t) = true := by simpa using he
      clear hin he hbd h0
      go_enter Try.func130, Try.ntmps130
      go_wp2_with (go_at_call 94; refine (l5At_any l _ t _ H.out hl).mono ?_; rintro e w' ⟨rfl, rfl⟩; rw [hk])
      refine bodyPost_ret ?hres rfl ⟨optV_some HI.out, rfl⟩
      case hres => (first | (simp [results, Try.results130, go_sem]; done) | (simp [results, Try.results130, go_sem, *]; done))
    · rw [if_neg (fun hh => he hh.2)] at hin
      have HI := Lib.hid hin
      have he' : (l[k].f != t) = true := by simpa using he
      have he2 : (l[k].f == t) = false := by simpa using he
      clear hin he hbd h0
      go_enter Try.func130, Try.ntmps130
      go_wp2_with (go_at_call 94; refine (l5At_any l _ t _ H.out hl).mono ?_; rintro e w' ⟨rfl, rfl⟩; rw [hk])
      refine bodyPost_ret ?hres rfl ⟨optV_none HI.out, rfl⟩
      case hres => (first | (simp [results, Try.results130, go_sem]; done) | (simp [results, Try.results130, go_sem, *]; done))
  · have hk : spAt l t = -1 := by omega
    have hin := spIn_at (l := l) (t := t)
    rw [if_neg (fun hh => h0 hh.1)] at hin
    have HI := Lib.hid hin
    clear hin h0 hbd
    obtain ⟨A, c, rfl, hA⟩ := h
    go_enter Try.func130, Try.ntmps130
    go_wp2_with (go_at_call 94; refine (l5At_any l _ t _ H.out hl).mono ?_; rintro e w' ⟨rfl, rfl⟩; rw [hk])
    refine bodyPost_ret ?hres rfl ⟨optV_none HI.out, rfl⟩
    case hres => (first | (simp [results, Try.results130, go_sem]; done) | (simp [results, Try.results130, go_sem, *]; done))
def NoEnd (l : List Sp) (t : Int) (n : Nat) : Prop := ∀ k (h : k < l.length), k < n → l[k].t ≠ t
theorem noEnd_succ {l : List Sp} {t : Int} {n : Nat} (h : NoEnd l t n) (hn : n < l.length) (hh : l[n].t ≠ t) : NoEnd l t (n + 1) := fun k hk hlt => by
  rcases Nat.lt_or_ge k n with h1 | h1
  · exact h k hk h1
  · have e : k = n := by omega
    subst e; exact hh
theorem spOut_hit {l : List Sp} {t : Int} {n : Nat} (h : NoEnd l t n) (hn : n < l.length) (hh : l[n].t = t) : spOut l t = some l[n].o := by
  have : l.find? (fun s => s.t == t) = some l[n] := by
    rw [List.find?_eq_some_iff_getElem]
    exact ⟨by simpa using hh, n, hn, rfl, fun j hj => by simpa using h j (by omega) hj⟩
  unfold spOut; rw [this]; rfl
theorem spOut_none {l : List Sp} {t : Int} (h : NoEnd l t l.length) : spOut l t = none := by
  have : l.find? (fun s => s.t == t) = none := by
    rw [List.find?_eq_none]
    intro x hx
    obtain ⟨j, hj, rfl⟩ := List.getElem_of_mem hx
    simpa using h j hj hj
  unfold spOut; rw [this]; rfl
theorem l5Out_any (l : List Sp) (v : Value) (t : Int) (w : World) (h : SIn w v l) (hl : l.length ≤ 9223372036854775807) :
    Calls Try.prog 131 #[v, .int .i64 t] w fun e w' => e = .returned (optV (spOut l t)) ∧ w = w' := by
  obtain ⟨A, c, rfl, hA⟩ := h
  have HA := Lib.hid hA
  clear hA
  go_enter Try.func131, Try.ntmps131
  go_wp2
  go_loop [6] (fun i => ∃ j : Nat, j ≤ l.length ∧ i = .int .i64 j ∧ NoEnd l t j) (fun i => l.length - (intOf i).toNat)
  case atStart => exact ⟨0, by omega, rfl, fun k _ h => by omega⟩
  case round =>
    obtain ⟨j, hj, rfl, hp⟩ := hrel
    have HP := Lib.hid hp
    clear hp
    by_cases hc : j < l.length
    · obtain ⟨b, off, rfl, hf⟩ := HA.out (by omega)
      obtain ⟨c0, c1, c2, c3⟩ := hf j hc
      clear hf
      by_cases hh : l[j].t = t
      · have H := Lib.hid (spOut_hit HP.out hc hh)
        have h2 : (l[j].t == t) = true := by simpa using hh
        clear hh
        go_wp2
        refine bodyPost_ret ?hres rfl ⟨optV_some H.out, rfl⟩
        case hres => (first | (simp [results, Try.results131, go_sem]; done) | (simp [results, Try.results131, go_sem, *]; done))
      · have H := Lib.hid (noEnd_succ HP.out hc hh)
        have h2 : (l[j].t == t) = false := by simpa using hh
        clear hh
        go_wp2
        go_round
        case rel => exact ⟨j + 1, by omega, by go_num, H.out⟩
        case measure => simp [intOf]; omega
    · obtain rfl : j = l.length := by omega
      have H := Lib.hid (spOut_none HP.out)
      go_wp2
      refine bodyPost_ret ?hres rfl ⟨optV_none H.out, rfl⟩
      case hres => (first | (simp [results, Try.results131, go_sem]; done) | (simp [results, Try.results131, go_sem, *]; done))
theorem bneg {b : Bool} (h : b = true) : (!b) = false := by rw [h]; rfl
theorem l5Has_any (op : Nat) (hop : op ≤ 2) (a b : List Sp) (va vb : Value) (t : Int) (w : World) (ha : SIn w va a) (hb : SIn w vb b) (hla : a.length ≤ 9223372036854775807) (hlb : b.length ≤ 9223372036854775807) :
    Calls Try.prog 116 #[.int .i64 op, va, vb, .int .i64 t] w fun e w' => e = .returned (.bool (hasAt op a b t)) ∧ w = w' := by
  have HA := Lib.hid ha
  have HB := Lib.hid hb
  clear ha hb
  unfold hasAt
  obtain ⟨x, hx⟩ : ∃ x, spAt a t = x := ⟨_, rfl⟩
  obtain ⟨y, hy⟩ : ∃ y, spAt b t = y := ⟨_, rfl⟩
  rw [hx, hy]
  have hop' : op = 0 ∨ op = 1 ∨ op = 2 := by omega
  by_cases h1 : 0 ≤ x
  · by_cases h2 : 0 ≤ y
    · have e1 : decide (0 ≤ x) = true := decide_eq_true h1
      have e2 : decide (0 ≤ y) = true := decide_eq_true h2
      rw [e1, e2]
      have hx := hx
      rcases hop' with rfl | rfl | rfl
      · go_enter Try.func116, Try.ntmps116
        go_wp2_with (first | (go_at_call 94; (with_reducible refine (l5At_any a va t _ HA.out hla).mono ?_); rintro e w' ⟨rfl, rfl⟩; rw [hx]) | (go_at_call 94; (with_reducible refine (l5At_any b vb t _ HB.out hlb).mono ?_); rintro e w' ⟨rfl, rfl⟩; rw [hy]))
        go_ret
        exact ⟨by first | rfl | simp [spHas], rfl⟩
      · go_enter Try.func116, Try.ntmps116
        go_wp2_with (first | (go_at_call 94; (with_reducible refine (l5At_any a va t _ HA.out hla).mono ?_); rintro e w' ⟨rfl, rfl⟩; rw [hx]) | (go_at_call 94; (with_reducible refine (l5At_any b vb t _ HB.out hlb).mono ?_); rintro e w' ⟨rfl, rfl⟩; rw [hy]))
        go_ret
        exact ⟨by first | rfl | simp [spHas], rfl⟩
      · go_enter Try.func116, Try.ntmps116
        go_wp2_with (first | (go_at_call 94; (with_reducible refine (l5At_any a va t _ HA.out hla).mono ?_); rintro e w' ⟨rfl, rfl⟩; rw [hx]) | (go_at_call 94; (with_reducible refine (l5At_any b vb t _ HB.out hlb).mono ?_); rintro e w' ⟨rfl, rfl⟩; rw [hy]))
        go_ret
        exact ⟨by first | rfl | simp [spHas], rfl⟩
    · have e1 : decide (0 ≤ x) = true := decide_eq_true h1
      have e2 : decide (0 ≤ y) = false := decide_eq_false h2
      rw [e1, e2]
      have hx := hx
      rcases hop' with rfl | rfl | rfl
      · go_enter Try.func116, Try.ntmps116
        go_wp2_with (first | (go_at_call 94; (with_reducible refine (l5At_any a va t _ HA.out hla).mono ?_); rintro e w' ⟨rfl, rfl⟩; rw [hx]) | (go_at_call 94; (with_reducible refine (l5At_any b vb t _ HB.out hlb).mono ?_); rintro e w' ⟨rfl, rfl⟩; rw [hy]))
        go_ret
        exact ⟨by first | rfl | simp [spHas], rfl⟩
      · go_enter Try.func116, Try.ntmps116
        go_wp2_with (first | (go_at_call 94; (with_reducible refine (l5At_any a va t _ HA.out hla).mono ?_); rintro e w' ⟨rfl, rfl⟩; rw [hx]) | (go_at_call 94; (with_reducible refine (l5At_any b vb t _ HB.out hlb).mono ?_); rintro e w' ⟨rfl, rfl⟩; rw [hy]))
        go_ret
        exact ⟨by first | rfl | simp [spHas], rfl⟩
      · go_enter Try.func116, Try.ntmps116
        go_wp2_with (first | (go_at_call 94; (with_reducible refine (l5At_any a va t _ HA.out hla).mono ?_); rintro e w' ⟨rfl, rfl⟩; rw [hx]) | (go_at_call 94; (with_reducible refine (l5At_any b vb t _ HB.out hlb).mono ?_); rintro e w' ⟨rfl, rfl⟩; rw [hy]))
        go_ret
        exact ⟨by first | rfl | simp [spHas], rfl⟩
  · by_cases h2 : 0 ≤ y
    · have e1 : decide (0 ≤ x) = false := decide_eq_false h1
      have e2 : decide (0 ≤ y) = true := decide_eq_true h2
      rw [e1, e2]
      have hx := hx
      rcases hop' with rfl | rfl | rfl
      · go_enter Try.func116, Try.ntmps116
        go_wp2_with (first | (go_at_call 94; (with_reducible refine (l5At_any a va t _ HA.out hla).mono ?_); rintro e w' ⟨rfl, rfl⟩; rw [hx]) | (go_at_call 94; (with_reducible refine (l5At_any b vb t _ HB.out hlb).mono ?_); rintro e w' ⟨rfl, rfl⟩; rw [hy]))
        go_ret
        exact ⟨by first | rfl | simp [spHas], rfl⟩
      · go_enter Try.func116, Try.ntmps116
        go_wp2_with (first | (go_at_call 94; (with_reducible refine (l5At_any a va t _ HA.out hla).mono ?_); rintro e w' ⟨rfl, rfl⟩; rw [hx]) | (go_at_call 94; (with_reducible refine (l5At_any b vb t _ HB.out hlb).mono ?_); rintro e w' ⟨rfl, rfl⟩; rw [hy]))
        go_ret
        exact ⟨by first | rfl | simp [spHas], rfl⟩
      · go_enter Try.func116, Try.ntmps116
        go_wp2_with (first | (go_at_call 94; (with_reducible refine (l5At_any a va t _ HA.out hla).mono ?_); rintro e w' ⟨rfl, rfl⟩; rw [hx]) | (go_at_call 94; (with_reducible refine (l5At_any b vb t _ HB.out hlb).mono ?_); rintro e w' ⟨rfl, rfl⟩; rw [hy]))
        go_ret
        exact ⟨by first | rfl | simp [spHas], rfl⟩
    · have e1 : decide (0 ≤ x) = false := decide_eq_false h1
      have e2 : decide (0 ≤ y) = false := decide_eq_false h2
      rw [e1, e2]
      have hx := hx
      rcases hop' with rfl | rfl | rfl
      · go_enter Try.func116, Try.ntmps116
        go_wp2_with (first | (go_at_call 94; (with_reducible refine (l5At_any a va t _ HA.out hla).mono ?_); rintro e w' ⟨rfl, rfl⟩; rw [hx]) | (go_at_call 94; (with_reducible refine (l5At_any b vb t _ HB.out hlb).mono ?_); rintro e w' ⟨rfl, rfl⟩; rw [hy]))
        go_ret
        exact ⟨by first | rfl | simp [spHas], rfl⟩
      · go_enter Try.func116, Try.ntmps116
        go_wp2_with (first | (go_at_call 94; (with_reducible refine (l5At_any a va t _ HA.out hla).mono ?_); rintro e w' ⟨rfl, rfl⟩; rw [hx]) | (go_at_call 94; (with_reducible refine (l5At_any b vb t _ HB.out hlb).mono ?_); rintro e w' ⟨rfl, rfl⟩; rw [hy]))
        go_ret
        exact ⟨by first | rfl | simp [spHas], rfl⟩
      · go_enter Try.func116, Try.ntmps116
        go_wp2_with (first | (go_at_call 94; (with_reducible refine (l5At_any a va t _ HA.out hla).mono ?_); rintro e w' ⟨rfl, rfl⟩; rw [hx]) | (go_at_call 94; (with_reducible refine (l5At_any b vb t _ HB.out hlb).mono ?_); rintro e w' ⟨rfl, rfl⟩; rw [hy]))
        go_ret
        exact ⟨by first | rfl | simp [spHas], rfl⟩
theorem suOut_bd {l : List Sp} (h : SpsGood l) {t n : Int} (he : spOut l t = some n) : -1000 ≤ n ∧ n ≤ 1000 := by
  unfold spOut at he
  obtain ⟨s, hs, rfl⟩ := Option.map_eq_some_iff.1 he
  obtain ⟨j, hj, rfl⟩ := List.getElem_of_mem (List.mem_of_find?_eq_some hs)
  have := (h j hj).1
  unfold SpGood at this; omega
theorem suIn_bd {l : List Sp} (h : SpsGood l) {t n : Int} (he : spIn l t = some n) : -1000 ≤ n ∧ n ≤ 1000 := by
  unfold spIn at he
  split at he
  · rename_i k hk
    rw [List.findIdx?_eq_some_iff_getElem] at hk
    obtain ⟨hk, _⟩ := hk
    split at he
    · rw [getD_lt hk] at he
      injection he with he
      have := (h k hk).1
      unfold SpGood at this; omega
    · cases he
  · cases he
theorem getD_bd {o : Option Int} (h : ∀ n, o = some n → -1000 ≤ n ∧ n ≤ 1000) : -1000 ≤ o.getD 0 ∧ o.getD 0 ≤ 1000 := by
  cases o with
  | none => simp
  | some n => exact h n rfl
theorem l5Begin_any (op : Nat) (hop : op ≤ 2) (a b : List Sp) (va vb : Value) (t : Int) (w : World) (ha : SIn w va a) (hb : SIn w vb b) (hla : a.length ≤ 9223372036854775807) (hlb : b.length ≤ 9223372036854775807) (hgb : SpsGood b) :
    Calls Try.prog 117 #[.int .i64 op, va, vb, .int .i64 t] w fun e w' => e = .returned (.int .i64 (beginAt op a b t)) ∧ w = w' := by
  have HA := Lib.hid ha
  have HB := Lib.hid hb
  have D1 := getD_bd fun n => suOut_bd hgb (t := t) (n := n)
  clear ha hb hgb
  obtain ⟨d1, d2⟩ := D1
  unfold beginAt
  cases hi : spIn a t with
  | some n =>
    go_enter Try.func117, Try.ntmps117
    go_wp2_with (go_at_call 130; refine (l5In_any a va t _ HA.out hla).mono ?_; rintro e w' ⟨rfl, rfl⟩; rw [hi])
    go_ret
    exact ⟨rfl, rfl⟩
  | none =>
    have hop' : op = 0 ∨ op = 1 ∨ op = 2 := by omega
    rcases hop' with rfl | rfl | rfl
    · go_enter Try.func117, Try.ntmps117
      go_wp2_with (first | (go_at_call 130; (with_reducible refine (l5In_any a va t _ HA.out hla).mono ?_); rintro e w' ⟨rfl, rfl⟩; rw [hi]) | ((go_at_call 130; ((with_reducible refine (l5In_any b vb t _ HB.out hlb).mono ?_); rintro e w' ⟨rfl, rfl⟩))))
      go_ret
      exact ⟨rfl, rfl⟩
    · go_enter Try.func117, Try.ntmps117
      go_wp2_with (first | (go_at_call 130; (with_reducible refine (l5In_any a va t _ HA.out hla).mono ?_); rintro e w' ⟨rfl, rfl⟩; rw [hi]) | ((go_at_call 130; ((with_reducible refine (l5In_any b vb t _ HB.out hlb).mono ?_); rintro e w' ⟨rfl, rfl⟩))))
      go_ret
      exact ⟨rfl, rfl⟩
    · go_enter Try.func117, Try.ntmps117
      go_wp2_with (first | (go_at_call 130; (with_reducible refine (l5In_any a va t _ HA.out hla).mono ?_); rintro e w' ⟨rfl, rfl⟩; rw [hi]) | ((go_at_call 131; ((with_reducible refine (l5Out_any b vb t _ HB.out hlb).mono ?_); rintro e w' ⟨rfl, rfl⟩))))
      go_ret
      exact ⟨rfl, rfl⟩
theorem l5End_any (op : Nat) (hop : op ≤ 2) (a b : List Sp) (va vb : Value) (t : Int) (w : World) (ha : SIn w va a) (hb : SIn w vb b) (hla : a.length ≤ 9223372036854775807) (hlb : b.length ≤ 9223372036854775807) (hgb : SpsGood b) :
    Calls Try.prog 118 #[.int .i64 op, va, vb, .int .i64 t] w fun e w' => e = .returned (.int .i64 (endAt op a b t)) ∧ w = w' := by
  have HA := Lib.hid ha
  have HB := Lib.hid hb
  have D1 := getD_bd fun n => suIn_bd hgb (t := t) (n := n)
  clear ha hb hgb
  obtain ⟨d1, d2⟩ := D1
  unfold endAt
  cases hi : spOut a t with
  | some n =>
    go_enter Try.func118, Try.ntmps118
    go_wp2_with (go_at_call 131; refine (l5Out_any a va t _ HA.out hla).mono ?_; rintro e w' ⟨rfl, rfl⟩; rw [hi])
    go_ret
    exact ⟨rfl, rfl⟩
  | none =>
    have hop' : op = 0 ∨ op = 1 ∨ op = 2 := by omega
    rcases hop' with rfl | rfl | rfl
    · go_enter Try.func118, Try.ntmps118
      go_wp2_with (first | (go_at_call 131; (with_reducible refine (l5Out_any a va t _ HA.out hla).mono ?_); rintro e w' ⟨rfl, rfl⟩; rw [hi]) | ((go_at_call 131; ((with_reducible refine (l5Out_any b vb t _ HB.out hlb).mono ?_); rintro e w' ⟨rfl, rfl⟩))))
      go_ret
      exact ⟨rfl, rfl⟩
    · go_enter Try.func118, Try.ntmps118
      go_wp2_with (first | (go_at_call 131; (with_reducible refine (l5Out_any a va t _ HA.out hla).mono ?_); rintro e w' ⟨rfl, rfl⟩; rw [hi]) | ((go_at_call 131; ((with_reducible refine (l5Out_any b vb t _ HB.out hlb).mono ?_); rintro e w' ⟨rfl, rfl⟩))))
      go_ret
      exact ⟨rfl, rfl⟩
    · go_enter Try.func118, Try.ntmps118
      go_wp2_with (first | (go_at_call 131; (with_reducible refine (l5Out_any a va t _ HA.out hla).mono ?_); rintro e w' ⟨rfl, rfl⟩; rw [hi]) | ((go_at_call 130; ((with_reducible refine (l5In_any b vb t _ HB.out hlb).mono ?_); rintro e w' ⟨rfl, rfl⟩))))
      go_ret
      exact ⟨rfl, rfl⟩
end Go.Proofs.Ytdjmeeknahdbbaa
