import Derived.Test.YtegibpepdndocabGreatSpnEb
namespace Go.Proofs.YtegibpepdndocabGreat
open Has renaming new → J0, new1 → J1, new2 → J2, new3 → J3, new4 → J4, drew → J5, drewN → J6, alloc → J7, same → J8, other → J9, cell → Jc, frozen → Jf, below → Jb
open Go.ChangeShapes Go.WideShapes Go.ChangeAt Go.RowKit
set_option maxHeartbeats 1000000
set_option maxRecDepth 8000
set_option linter.unusedSimpArgs false
attribute [local go_sem] VGo_value VGo_skip VGo_enter

/- a walk over spans: the list, the ends passed, whether it goes inside out -/
abbrev walkV (v : Value) (p : Nat) (io : Bool) : Value := .agg #[v, .int .i64 p, .bool io]
abbrev walkC (v : Value) (p : Nat) (io : Bool) : Array Value := #[v, .int .i64 p, .bool io]
theorem inside_any (v : Value) (p : Nat) (io : Bool) (w : World) (hp : p ≤ 1000000) :
    Calls Tryz.prog 186 #[walkV v p io] w fun e w' => e = .returned (.bool (spOdd p != io)) ∧ Below w.heap.size w w' := by
  rcases Nat.mod_two_eq_zero_or_one p with h | h
  · have e1 : ((p : Int).tmod 2) = 0 := by rw [Int.tmod_eq_emod_of_nonneg (by omega)]; omega
    have e2 : spOdd p = false := by unfold spOdd; simp [h]
    rw [e2]
    have E := Lib.hid e1
    go_enter Tryz.func186, Tryz.ntmps186
    go_wp2
    go_ret
    exact ⟨by cases io <;> simp, by repeat' (first|with_reducible (first|exact lowRefl _|apply lowSet|apply lowDrew|apply lowDrewN|apply lowAlloc)|(with_reducible refine lowCall ?_ (by assumption))|(show (_ : Nat) ≤ _;first|(simp;done)|(simp;omega)|omega))⟩
  · have e1 : ((p : Int).tmod 2) = 1 := by rw [Int.tmod_eq_emod_of_nonneg (by omega)]; omega
    have e2 : spOdd p = true := by unfold spOdd; simp [h]
    rw [e2]
    have E := Lib.hid e1
    go_enter Tryz.func186, Tryz.ntmps186
    go_wp2
    go_ret
    exact ⟨by cases io <;> simp, by repeat' (first|with_reducible (first|exact lowRefl _|apply lowSet|apply lowDrew|apply lowDrewN|apply lowAlloc)|(with_reducible refine lowCall ?_ (by assumption))|(show (_ : Nat) ≤ _;first|(simp;done)|(simp;omega)|omega))⟩
theorem inBoth_any (x y : Bool) (w : World) : Calls Tryz.prog 123 #[.bool x, .bool y] w fun e w' => e = .returned (.bool (x && y)) ∧ w = w' := by
  cases x
  · go_enter Tryz.func123, Tryz.ntmps123
    go_wp2
    go_ret
    exact ⟨by simp, rfl⟩
  · go_enter Tryz.func123, Tryz.ntmps123
    go_wp2
    go_ret
    exact ⟨by simp, rfl⟩
theorem inEither_any (x y : Bool) (w : World) : Calls Tryz.prog 122 #[.bool x, .bool y] w fun e w' => e = .returned (.bool (x || y)) ∧ w = w' := by
  cases x
  · go_enter Tryz.func122, Tryz.ntmps122
    go_wp2
    go_ret
    exact ⟨by simp, rfl⟩
  · go_enter Tryz.func122, Tryz.ntmps122
    go_wp2
    go_ret
    exact ⟨by simp, rfl⟩
def sxIo (io : Bool) (l : List Sp) (p : Nat) : Int := if io then -(spSx l p) else spSx l p
theorem next_any (l : List Sp) (v : Value) (p : Nat) (io : Bool) (w : World) (h : SIn w v l) (hl : l.length ≤ 200) (hg : SpsGood l) (hp : p ≤ 2 * l.length) :
    Calls Tryz.prog 149 #[walkV v p io] w fun e w' => e = .returned (.tuple #[.int .i64 (spNx l p), .int .i64 (sxIo io l p)]) ∧ Below w.heap.size w w' := by
  obtain ⟨A, c, rfl, hA⟩ := h
  by_cases hd : p = 2 * l.length
  · have e1 : spNx l p = 1073741825 := by unfold spNx; rw [if_pos hd]
    have e2 : sxIo io l p = 0 := by unfold sxIo spSx; rw [if_pos hd]; cases io <;> rfl
    rw [e1, e2]
    have e3 : ((p : Int) == 2 * (l.length : Int)) = true := by simp; omega
    clear hA hd hg e1 e2
    go_enter Tryz.func149, Tryz.ntmps149
    go_wp2
    refine bodyPost_ret ?hres rfl ⟨rfl, ?hlow⟩; (case hres => (first | (simp [results, Tryz.results149, go_sem]; done) | (simp [results, Tryz.results149, go_sem, *]; done))); (case hlow => repeat' (first|with_reducible (first|exact lowRefl _|apply lowSet|apply lowDrew|apply lowDrewN|apply lowAlloc)|(with_reducible refine lowCall ?_ (by assumption))|(show (_ : Nat) ≤ _;first|(simp;done)|(simp;omega)|omega)))
  · have hbd := en_bd hg (show p < 2 * l.length by omega)
    have e1 : spNx l p = spEn l p := by unfold spNx; rw [if_neg hd]
    have e2 : sxIo io l p = if io then -(spSu l p) else spSu l p := by unfold sxIo spSx; rw [if_neg hd]
    rw [e1, e2]
    have e3 : ((p : Int) == 2 * (l.length : Int)) = false := by simp; omega
    obtain ⟨b0, off, rfl, hf⟩ := hA (by omega)
    obtain ⟨j, hpj, hj⟩ : ∃ j, p / 2 = j ∧ j < l.length := ⟨p / 2, rfl, by omega⟩
    have hq : (p : Int).tdiv 2 = (j : Int) := by rw [Int.tdiv_eq_ediv_of_nonneg (by omega)]; omega
    have f4 := hf j hj
    clear hf hA hg e1 e2
    rcases Nat.mod_two_eq_zero_or_one p with hm | hm
    · have h1 : ((p : Int).tmod 2) = 0 := by rw [Int.tmod_eq_emod_of_nonneg (by omega)]; omega
      have e1 : spEn l p = l[j].f := by have := en_even l j hj; rwa [show 2 * j = p by omega] at this
      have e2 : spSu l p = l[j].i := by have := su_even l j hj; rwa [show 2 * j = p by omega] at this
      rw [e1, e2] at hbd ⊢
      generalize hY : (if io = true then -l[j].i else l[j].i) = Y
      obtain ⟨d1, d2, d3, d4⟩ := hbd
      clear hm e1 e2
      go_enter Tryz.func149, Tryz.ntmps149
      go_upto_region 3 with fail
      refine (fun (k : ∀ wm, Has wm w.heap.size (walkC (.slice (some ⟨b0, off, none⟩) l.length c) p io) 165 → Four wm b0 (off + j * 4) l[j] → Below w.heap.size w wm → Code.wp _ _ _ _ wm) => k _ ?_ ?_ ?_) ?_
      · (refine Has.as (by repeat' (first|with_reducible (first|assumption|apply J0|apply J1|apply J2|apply J3|apply J4|apply J5|apply J6|apply J7|apply J8|apply J9)|(with_reducible show _ ≠ _;first|omega|(simp;done)))) ?_; first | (with_reducible rfl) | (simp only [List.setIfInBounds_toArray, List.set_cons_zero, List.set_cons_succ]; first | done | rfl) | rfl | (simp; done))
      · exact f4.below (by repeat' (first|with_reducible (first|exact lowRefl _|apply lowSet|apply lowDrew|apply lowDrewN|apply lowAlloc)|(with_reducible refine lowCall ?_ (by assumption))|(show (_ : Nat) ≤ _;first|(simp;done)|(simp;omega)|omega)))
      · repeat' (first|with_reducible (first|exact lowRefl _|apply lowSet|apply lowDrew|apply lowDrewN|apply lowAlloc)|(with_reducible refine lowCall ?_ (by assumption))|(show (_ : Nat) ≤ _;first|(simp;done)|(simp;omega)|omega))
      clear f4
      generalize hbY : w.heap.size = bY
      intro w1 BY f4 hL
      obtain ⟨c0, c1, c2, c3⟩ := f4
      have CY := Jc BY
      go_upto_region 4 with fail
      refine (fun (k : ∀ wm, Has wm bY (walkC (.slice (some ⟨b0, off, none⟩) l.length c) p io) 165 → Has wm w1.heap.size #[.int .i64 l[j].f, .int .i64 l[j].t, .int .i64 l[j].i, .int .i64 l[j].o] 87 → Below w.heap.size w wm → Code.wp _ _ _ _ wm) => k _ ?_ ?_ ?_) ?_
      · (refine Has.as (by repeat' (first|with_reducible (first|assumption|apply J0|apply J1|apply J2|apply J3|apply J4|apply J5|apply J6|apply J7|apply J8|apply J9)|(with_reducible show _ ≠ _;first|omega|(simp;done)))) ?_; first | (with_reducible rfl) | (simp only [List.setIfInBounds_toArray, List.set_cons_zero, List.set_cons_succ]; first | done | rfl) | rfl | (simp; done))
      · (refine Has.as (by repeat' (first|with_reducible (first|assumption|apply J0|apply J1|apply J2|apply J3|apply J4|apply J5|apply J6|apply J7|apply J8|apply J9)|(with_reducible show _ ≠ _;first|omega|(simp;done)))) ?_; first | (with_reducible rfl) | (simp only [List.setIfInBounds_toArray, List.set_cons_zero, List.set_cons_succ]; first | done | rfl) | rfl | (simp; done))
      · subst hbY; repeat' (first|with_reducible (first|exact lowRefl _|apply lowSet|apply lowDrew|apply lowDrewN|apply lowAlloc)|(with_reducible refine lowCall ?_ (by assumption))|(show (_ : Nat) ≤ _;first|(simp;done)|(simp;omega)|omega))
      clear c0 c1 c2 c3 BY CY hL
      generalize w1.heap.size = bX
      clear w1
      intro w1 BY BX hL
      have CX := Jc BX
      have CY := Jc BY
      go_quiet (fail)
      have BX2 := BX.drewN nq
      have BY2 := BY.drewN nq
      have hL2 := lowDrewN hL nq
      clear CX CY BX BY hL
      generalize w1.drewN nq = w2 at *
      clear w1
      have CX := Jc BX2
      have CY := Jc BY2
      cases io
      · go_wp2
        refine bodyPost_ret (v := .tuple #[.int .i64 (l[j].f), .int .i64 (l[j].i)]) (by first | (simp [results, Tryz.results149, go_sem]; done) | (simp [results, Tryz.results149, go_sem, *]; done)) rfl ⟨by rw [← hY]; first | rfl | simp, ?_⟩
        (try subst hbY)
        repeat' (first|with_reducible (first|exact lowRefl _|apply lowSet|apply lowDrew|apply lowDrewN|apply lowAlloc)|(with_reducible refine lowCall ?_ (by assumption))|(show (_ : Nat) ≤ _;first|(simp;done)|(simp;omega)|omega))
      · go_wp2
        refine bodyPost_ret (v := .tuple #[.int .i64 (l[j].f), .int .i64 (-l[j].i)]) (by first | (simp [results, Tryz.results149, go_sem]; done) | (simp [results, Tryz.results149, go_sem, *]; done)) rfl ⟨by rw [← hY]; first | rfl | simp, ?_⟩
        (try subst hbY)
        repeat' (first|with_reducible (first|exact lowRefl _|apply lowSet|apply lowDrew|apply lowDrewN|apply lowAlloc)|(with_reducible refine lowCall ?_ (by assumption))|(show (_ : Nat) ≤ _;first|(simp;done)|(simp;omega)|omega))
    · have h1 : ((p : Int).tmod 2) = 1 := by rw [Int.tmod_eq_emod_of_nonneg (by omega)]; omega
      have e1 : spEn l p = l[j].t := by have := en_odd l j hj; rwa [show 2 * j + 1 = p by omega] at this
      have e2 : spSu l p = l[j].o := by have := su_odd l j hj; rwa [show 2 * j + 1 = p by omega] at this
      rw [e1, e2] at hbd ⊢
      generalize hY : (if io = true then -l[j].o else l[j].o) = Y
      obtain ⟨d1, d2, d3, d4⟩ := hbd
      clear hm e1 e2
      go_enter Tryz.func149, Tryz.ntmps149
      go_upto_region 3 with fail
      refine (fun (k : ∀ wm, Has wm w.heap.size (walkC (.slice (some ⟨b0, off, none⟩) l.length c) p io) 165 → Four wm b0 (off + j * 4) l[j] → Below w.heap.size w wm → Code.wp _ _ _ _ wm) => k _ ?_ ?_ ?_) ?_
      · (refine Has.as (by repeat' (first|with_reducible (first|assumption|apply J0|apply J1|apply J2|apply J3|apply J4|apply J5|apply J6|apply J7|apply J8|apply J9)|(with_reducible show _ ≠ _;first|omega|(simp;done)))) ?_; first | (with_reducible rfl) | (simp only [List.setIfInBounds_toArray, List.set_cons_zero, List.set_cons_succ]; first | done | rfl) | rfl | (simp; done))
      · exact f4.below (by repeat' (first|with_reducible (first|exact lowRefl _|apply lowSet|apply lowDrew|apply lowDrewN|apply lowAlloc)|(with_reducible refine lowCall ?_ (by assumption))|(show (_ : Nat) ≤ _;first|(simp;done)|(simp;omega)|omega)))
      · repeat' (first|with_reducible (first|exact lowRefl _|apply lowSet|apply lowDrew|apply lowDrewN|apply lowAlloc)|(with_reducible refine lowCall ?_ (by assumption))|(show (_ : Nat) ≤ _;first|(simp;done)|(simp;omega)|omega))
      clear f4
      generalize hbY : w.heap.size = bY
      intro w1 BY f4 hL
      obtain ⟨c0, c1, c2, c3⟩ := f4
      have CY := Jc BY
      go_upto_region 4 with fail
      refine (fun (k : ∀ wm, Has wm bY (walkC (.slice (some ⟨b0, off, none⟩) l.length c) p io) 165 → Has wm w1.heap.size #[.int .i64 l[j].f, .int .i64 l[j].t, .int .i64 l[j].i, .int .i64 l[j].o] 87 → Below w.heap.size w wm → Code.wp _ _ _ _ wm) => k _ ?_ ?_ ?_) ?_
      · (refine Has.as (by repeat' (first|with_reducible (first|assumption|apply J0|apply J1|apply J2|apply J3|apply J4|apply J5|apply J6|apply J7|apply J8|apply J9)|(with_reducible show _ ≠ _;first|omega|(simp;done)))) ?_; first | (with_reducible rfl) | (simp only [List.setIfInBounds_toArray, List.set_cons_zero, List.set_cons_succ]; first | done | rfl) | rfl | (simp; done))
      · (refine Has.as (by repeat' (first|with_reducible (first|assumption|apply J0|apply J1|apply J2|apply J3|apply J4|apply J5|apply J6|apply J7|apply J8|apply J9)|(with_reducible show _ ≠ _;first|omega|(simp;done)))) ?_; first | (with_reducible rfl) | (simp only [List.setIfInBounds_toArray, List.set_cons_zero, List.set_cons_succ]; first | done | rfl) | rfl | (simp; done))
      · subst hbY; repeat' (first|with_reducible (first|exact lowRefl _|apply lowSet|apply lowDrew|apply lowDrewN|apply lowAlloc)|(with_reducible refine lowCall ?_ (by assumption))|(show (_ : Nat) ≤ _;first|(simp;done)|(simp;omega)|omega))
      clear c0 c1 c2 c3 BY CY hL
      generalize w1.heap.size = bX
      clear w1
      intro w1 BY BX hL
      have CX := Jc BX
      have CY := Jc BY
      go_quiet (fail)
      have BX2 := BX.drewN nq
      have BY2 := BY.drewN nq
      have hL2 := lowDrewN hL nq
      clear CX CY BX BY hL
      generalize w1.drewN nq = w2 at *
      clear w1
      have CX := Jc BX2
      have CY := Jc BY2
      go_upto_region 6 with fail
      go_quiet (fail)
      generalize hW : w2.drewN _ = w3
      have hL3 : Below w.heap.size w w3 := hW ▸ lowDrewN hL2 _
      have BY3 : Has w3 bY (walkC (.slice (some ⟨b0, off, none⟩) l.length c) p io) 165 := hW ▸ BY2.drewN _
      clear CX CY BX2 BY2 hL2 hW
      have CY := Jc BY3
      cases io
      · go_wp2
        refine bodyPost_ret (v := .tuple #[.int .i64 (l[j].t), .int .i64 (l[j].o)]) (by first | (simp [results, Tryz.results149, go_sem]; done) | (simp [results, Tryz.results149, go_sem, *]; done)) rfl ⟨by rw [← hY]; first | rfl | simp, ?_⟩
        (try subst hbY)
        repeat' (first|with_reducible (first|exact lowRefl _|apply lowSet|apply lowDrew|apply lowDrewN|apply lowAlloc)|(with_reducible refine lowCall ?_ (by assumption))|(show (_ : Nat) ≤ _;first|(simp;done)|(simp;omega)|omega))
      · go_wp2
        refine bodyPost_ret (v := .tuple #[.int .i64 (l[j].t), .int .i64 (-l[j].o)]) (by first | (simp [results, Tryz.results149, go_sem]; done) | (simp [results, Tryz.results149, go_sem, *]; done)) rfl ⟨by rw [← hY]; first | rfl | simp, ?_⟩
        (try subst hbY)
        repeat' (first|with_reducible (first|exact lowRefl _|apply lowSet|apply lowDrew|apply lowDrewN|apply lowAlloc)|(with_reducible refine lowCall ?_ (by assumption))|(show (_ : Nat) ≤ _;first|(simp;done)|(simp;omega)|omega))
/- two blocks alone have turned -/
structure Two (w w' : World) (g h : Nat) : Prop where
  os : w'.os = w.os
  tape : w'.tape = w.tape
  output : w'.output = w.output
  size : w.heap.size ≤ w'.heap.size
  block : ∀ k, k < w.heap.size → k ≠ g → k ≠ h → w'.heap[k]? = w.heap[k]?
theorem Two.refl (w : World) (g h : Nat) : Two w w g h := ⟨rfl, rfl, rfl, Nat.le_refl _, fun _ _ _ _ => rfl⟩
theorem Two.call {w w1 w2 : World} {g h : Nat} (t : Two w w1 g h) (hb : Below w1.heap.size w1 w2) : Two w w2 g h :=
  ⟨hb.os.trans t.os, hb.tape.trans t.tape, hb.output.trans t.output, Nat.le_trans t.size hb.size, fun k hk h1 h2 => (hb.block k (Nat.lt_of_lt_of_le hk t.size)).trans (t.block k hk h1 h2)⟩
theorem Two.set {w w1 : World} {g h : Nat} (t : Two w w1 g h) {b : Nat} (hb : b = g ∨ b = h) (i : Nat) (u : Value) : Two w (w1.setCell ⟨b, i, none⟩ u) g h :=
  ⟨t.os, t.tape, t.output, by simpa using t.size, fun k hk h1 h2 => (Below.heap_setCell w1 ⟨b, i, none⟩ u k (fun e => by rcases hb with rfl | rfl; exact h1 e; exact h2 e)).trans (t.block k hk h1 h2)⟩
theorem Two.has {w w' : World} {g h b : Nat} {cs : Array Value} {T : TypeId} (t : Two w w' g h) (hb : Has w b cs T) (h1 : b ≠ g) (h2 : b ≠ h) : Has w' b cs T := (t.block b hb.lt h1 h2).trans hb
theorem Two.row {w w' : World} {g h B C : Nat} {T : TypeId} {v : Value} {L : List (List Value)} (t : Two w w' g h) (hr : RowK w B T C v L) (h1 : g < B) (h2 : h < B) : RowK w' B T C v L :=
  ⟨own_lift hr.own fun k hk hlt => t.block k hlt (by have := (hr.own.lt k hk).1; omega) (by have := (hr.own.lt k hk).1; omega), hr.each⟩
theorem Two.low {a w w' : World} {g h : Nat} (t : Two w w' g h) (hb : Below a.heap.size a w) (h1 : a.heap.size ≤ g) (h2 : a.heap.size ≤ h) : Below a.heap.size a w' :=
  ⟨t.os.trans hb.os, t.tape.trans hb.tape, t.output.trans hb.output, Nat.le_trans hb.size t.size, fun k hk => (t.block k (Nat.lt_of_lt_of_le hk hb.size) (by omega) (by omega)).trans (hb.block k hk)⟩
def opOf (op : Nat) : Bool := op == 2
theorem suN_io {op : Nat} {a b : List Sp} {p q : Nat} : (if spNx b q < spNx a p then sxIo (opOf op) b q else sxIo false a p) = suN op a b p q := by
  unfold suN sxIo opOf
  by_cases h : spNx a p ≤ spNx b q
  · rw [if_neg (by omega), if_pos h]; rfl
  · rw [if_pos (by omega), if_neg h]; simp
theorem nextEnd_any (op : Nat) (a b : List Sp) (va vb : Value) (p q g h : Nat) (w : World) (ha : SIn w va a) (hb : SIn w vb b) (hla : a.length ≤ 200) (hlb : b.length ≤ 200) (hga : SpsGood a) (hgb : SpsGood b) (hp : p ≤ 2 * a.length) (hq : q ≤ 2 * b.length)
    (hgh : g ≠ h) (B0 : Has w g (walkC va p false) 165) (B1 : Has w h (walkC vb q (opOf op)) 165) :
    Calls Tryz.prog 185 #[.pointer (some ⟨g, 0, none⟩), .pointer (some ⟨h, 0, none⟩)] w fun e w' => e = .returned (.tuple #[.int .i64 (atN a b p q), .int .i64 (suN op a b p q)]) ∧ Has w' g (walkC va (pA a b p q) false) 165 ∧ Has w' h (walkC vb (qB a b p q) (opOf op)) 165 ∧ Two w w' g h := by
  have HA := Lib.hid ha
  have HB := Lib.hid hb
  have hgt := B0.lt
  have hht := B1.lt
  have na := spNx_le hga hp
  have nb := spNx_le hgb hq
  have hsu := suN_io (op := op) (a := a) (b := b) (p := p) (q := q)
  have CX := Jc B0
  have CY := Jc B1
  go_enter Tryz.func185, Tryz.ntmps185
  go_upto_region 3 with (first | (go_at_call 149; (with_reducible refine (next_any a va p false _ HA.out hla hga hp).mono ?_); rintro e w1 ⟨rfl, hb1⟩; have BX1 := B0.below hb1; have BY1 := B1.below hb1; have HB2 := Lib.hid (HB.out.below hb1); clear CX CY; have CX := Jc BX1; have CY := Jc BY1) | (go_at_call 149; (with_reducible refine (next_any b vb q (opOf op) _ HB2.out hlb hgb hq).mono ?_); rintro e w2 ⟨rfl, hb2⟩; have BX2 := BX1.below hb2; have BY2 := BY1.below hb2))
  have t2 : Two w w2 g h := ((Two.refl w g h).call hb1).call hb2
  clear BX1 BY1 CX CY HB2 hb1 hb2 B0 B1 ha hb
  have CX := Jc BX2
  have CY := Jc BY2
  have FX := Jf BX2
  have FY := Jf BY2
  have hp4 : p ≤ 400 := by omega
  have hq4 : q ≤ 400 := by omega
  have hN : ∀ X Y : Int, X = spNx a p → Y = spNx b q → (X < Y → atN a b p q = X ∧ pA a b p q = p + 1 ∧ qB a b p q = q) ∧ (X = Y → atN a b p q = X ∧ pA a b p q = p + 1 ∧ qB a b p q = q + 1) ∧ (Y < X → atN a b p q = Y ∧ pA a b p q = p ∧ qB a b p q = q + 1) := by
    rintro X Y rfl rfl
    unfold atN pA qB
    refine ⟨fun h => ?_, fun h => ?_, fun h => ?_⟩
    · rw [if_pos (by omega), if_pos (by omega), if_neg (by omega)]; exact ⟨rfl, rfl, rfl⟩
    · rw [if_pos (by omega), if_pos (by omega), if_pos (by omega)]; exact ⟨rfl, rfl, rfl⟩
    · rw [if_neg (by omega), if_neg (by omega), if_pos (by omega)]; exact ⟨rfl, rfl, rfl⟩
  have HN := Lib.hid (hN _ _ rfl rfl)
  have HS := Lib.hid hsu
  clear hN hsu hga hgb hla hlb hp hq
  obtain ⟨na1, na2, _⟩ := na
  obtain ⟨nb1, nb2, _⟩ := nb
  generalize spNx a p = X at *
  generalize spNx b q = Y at *
  generalize sxIo false a p = U at *
  generalize sxIo (opOf op) b q = V at *
  have hhg : h ≠ g := fun e => hgh e.symm
  rcases Int.lt_trichotomy X Y with hlt | heq | hgt
  · have e1 : decide (Y < X) = false := decide_eq_false (by omega)
    have e2 : decide (X ≤ Y) = true := decide_eq_true (by omega)
    have e3 : decide (Y ≤ X) = false := decide_eq_false (by omega)
    have e4 : min X Y = X := by omega
    go_wp2
    obtain ⟨r1, r2, r3⟩ := HN.out.1 hlt
    refine bodyPost_ret (v := .tuple #[.int .i64 (X), .int .i64 (U)]) (by first | (simp [results, Tryz.results185, go_sem]; done) | (simp [results, Tryz.results185, go_sem, *]; done)) rfl ⟨by rw [r1, ← HS.out, if_neg (by omega)], ?_, ?_, ?_⟩
    · rw [r2]; (refine Has.as (by repeat' (first|with_reducible (first|assumption|apply J0|apply J1|apply J2|apply J3|apply J4|apply J5|apply J6|apply J7|apply J8|apply J9)|(with_reducible show _ ≠ _;first|omega|(simp;done)))) ?_; first | (with_reducible rfl) | (simp only [List.setIfInBounds_toArray, List.set_cons_zero, List.set_cons_succ]; first | done | rfl) | rfl | (simp; done))
    · rw [r3]; (refine Has.as (by repeat' (first|with_reducible (first|assumption|apply J0|apply J1|apply J2|apply J3|apply J4|apply J5|apply J6|apply J7|apply J8|apply J9)|(with_reducible show _ ≠ _;first|omega|(simp;done)))) ?_; first | (with_reducible rfl) | (simp only [List.setIfInBounds_toArray, List.set_cons_zero, List.set_cons_succ]; first | done | rfl) | rfl | (simp; done))
    · exact t2.set (.inl rfl) _ _
  · have e1 : decide (Y < X) = false := decide_eq_false (by omega)
    have e2 : decide (X ≤ Y) = true := decide_eq_true (by omega)
    have e3 : decide (Y ≤ X) = true := decide_eq_true (by omega)
    have e4 : min X Y = X := by omega
    go_wp2
    obtain ⟨r1, r2, r3⟩ := HN.out.2.1 heq
    refine bodyPost_ret (v := .tuple #[.int .i64 (X), .int .i64 (U)]) (by first | (simp [results, Tryz.results185, go_sem]; done) | (simp [results, Tryz.results185, go_sem, *]; done)) rfl ⟨by rw [r1, ← HS.out, if_neg (by omega)], ?_, ?_, ?_⟩
    · rw [r2]; (refine Has.as (by repeat' (first|with_reducible (first|assumption|apply J0|apply J1|apply J2|apply J3|apply J4|apply J5|apply J6|apply J7|apply J8|apply J9)|(with_reducible show _ ≠ _;first|omega|(simp;done)))) ?_; first | (with_reducible rfl) | (simp only [List.setIfInBounds_toArray, List.set_cons_zero, List.set_cons_succ]; first | done | rfl) | rfl | (simp; done))
    · rw [r3]; (refine Has.as (by repeat' (first|with_reducible (first|assumption|apply J0|apply J1|apply J2|apply J3|apply J4|apply J5|apply J6|apply J7|apply J8|apply J9)|(with_reducible show _ ≠ _;first|omega|(simp;done)))) ?_; first | (with_reducible rfl) | (simp only [List.setIfInBounds_toArray, List.set_cons_zero, List.set_cons_succ]; first | done | rfl) | rfl | (simp; done))
    · exact (t2.set (.inl rfl) _ _).set (.inr rfl) _ _
  · have e1 : decide (Y < X) = true := decide_eq_true (by omega)
    have e2 : decide (X ≤ Y) = false := decide_eq_false (by omega)
    have e3 : decide (Y ≤ X) = true := decide_eq_true (by omega)
    have e4 : min X Y = Y := by omega
    go_wp2
    obtain ⟨r1, r2, r3⟩ := HN.out.2.2 hgt
    refine bodyPost_ret (v := .tuple #[.int .i64 (Y), .int .i64 (V)]) (by first | (simp [results, Tryz.results185, go_sem]; done) | (simp [results, Tryz.results185, go_sem, *]; done)) rfl ⟨by rw [r1, ← HS.out, if_pos (by omega)], ?_, ?_, ?_⟩
    · rw [r2]; (refine Has.as (by repeat' (first|with_reducible (first|assumption|apply J0|apply J1|apply J2|apply J3|apply J4|apply J5|apply J6|apply J7|apply J8|apply J9)|(with_reducible show _ ≠ _;first|omega|(simp;done)))) ?_; first | (with_reducible rfl) | (simp only [List.setIfInBounds_toArray, List.set_cons_zero, List.set_cons_succ]; first | done | rfl) | rfl | (simp; done))
    · rw [r3]; (refine Has.as (by repeat' (first|with_reducible (first|assumption|apply J0|apply J1|apply J2|apply J3|apply J4|apply J5|apply J6|apply J7|apply J8|apply J9)|(with_reducible show _ ≠ _;first|omega|(simp;done)))) ?_; first | (with_reducible rfl) | (simp only [List.setIfInBounds_toArray, List.set_cons_zero, List.set_cons_succ]; first | done | rfl) | rfl | (simp; done))
    · exact t2.set (.inr rfl) _ _
end Go.Proofs.YtegibpepdndocabGreat
