import Derived.Deep.Cut
import Derived.LoopN
import Derived.Test.YtegibpepdndocabGreatHeldNb
import Derived.Test.YtegibpepdndocabGreatPrtb
import Derived.Test.YtegibpepdndocabGreatRootb
section
namespace Go.Proofs.YtegibpepdndocabGreat
open Go Go.RowKit

/- A region whose order is open: held operations (a mask tells which), one call that makes memory of its own; behind these, one after another, the rest. -/
section
variable {P : Program} {ops : Array Oper} {Q : Exit → Act → World → Prop} {md : Region.Mode} {S : World → Prop}
def soloB (md : Region.Mode) (ops : Array Oper) (n0 ip : Nat) (listed : Array Bool) : Bool :=
  decide (Region.ready md ops listed = [ip]) && seenB n0 (listed.setIfInBounds ip true) && linB md ops (ops.size - n0) n0 (listed.setIfInBounds ip true)
def SoloK (P : Program) (ops : Array Oper) (Q : Exit → Act → World → Prop) (S : World → Prop) (op : Oper) (tl : List Oper) (a : Act) : Prop :=
  ∃ (R : Value → World → Prop), (∀ v w1 w2, R v w1 → Below w1.heap.size w1 w2 → R v w2) ∧ Region.wanted op (yielded ops a.tmps) = true ∧
    (∀ w, S w → ∀ K : Value → World → Prop, (∀ v w', Below w.heap.size w w' → R v w' → K v w') → VGo P K ((execOp a.eval op).run P w)) ∧
    ∀ v w, S w → R v w → wpList P ops Q tl (a.put op.dst v) w
theorem held_solo {n0 ip : Nat} {op : Oper} {tl : List Oper} {listed : Array Bool} {a : Act} (hstab : ∀ w w', S w → Below w.heap.size w w' → S w')
    (hop : ops[ip]? = some op) (htl : ∀ j, j < ops.size - n0 → tl[j]? = ops[n0 + j]?) (hlen : tl.length = ops.size - n0)
    (hB : soloB md ops n0 ip listed = true) (h : SoloK P ops Q S op tl a) (w : World) (hS : S w) : heldN P md ops Q S n0 1 listed a w := by
  simp only [soloB, Bool.and_eq_true, decide_eq_true_eq] at hB
  obtain ⟨⟨hr, hs⟩, hlin⟩ := hB
  obtain ⟨R, hR, hw, hcall, htail⟩ := h
  refine ⟨by rw [hr]; simp, hS, fun _ => True, fun _ _ _ _ => trivial, trivial, fun w1 hS1 _ j hj => ?_⟩
  rw [hr] at hj
  have hin : j = ip := by simpa using hj
  subst hin
  unfold wpOp
  simp only [hop, hw, if_true]
  refine .inl (upon_VGo2 (hcall w1 hS1 _ fun v w2 hb hRv => ?_))
  have hS2 := hstab _ _ hS1 hb
  exact ⟨fun k hk => seenB_spec hs hk, hS2, R v, fun w3 w4 h5 k => hR v _ _ h5 k, hRv, fun w3 hS3 hR3 => lin_any _ n0 _ _ w3 tl htl hlen hlin (htail v w3 hS3 hR3)⟩
end
def heldFB (ops : Array Oper) (m : List Bool) (ip : Nat) : Bool :=
  Region.noSelect ops && tailWaits .any ops m.length && decide (m.length ≤ ops.size) && decide ((maskI 0 m).length + 1 = m.length) &&
  headN .any ops m.length (soloB .any ops m.length ip) (maskI 0 m) (Array.replicate ops.size false)
theorem wp_region_heldF {P : Program} {Q : Exit → Act → World → Prop} {id : Nat} {a : Act} {w : World} {l : List Oper} {op : Oper} (m : List Bool) (ip : Nat) (hm : P.follows .mixedOrders = true) (hB : heldFB l.toArray m ip = true)
    (hop : l[ip]? = some op) (hQ : ∀ c a w (d : Option Tmp) (v : Value), Q (.panic c) (a.put d v) w → Q (.panic c) a w)
    (h : ∀ Fin : Act → Prop, (∀ a', SoloK P l.toArray Q (Below w.drew.heap.size w.drew) op (l.drop m.length) a' → Fin a') →
      wpHeld P l.toArray (Below w.drew.heap.size w.drew) Fin (maskL m l) a) : (Code.region id l.toArray true).wp P Q a w := by
  replace h := h _ (fun _ hf => hf)
  simp only [heldFB, Bool.and_eq_true, decide_eq_true_eq] at hB
  obtain ⟨⟨⟨⟨hsel, htw⟩, hle⟩, hlen⟩, hh⟩ := hB
  have hsz : l.toArray.size = l.length := by simp
  have e1 := mask_map (ops := l.toArray) m l 0 (by omega) (fun j hj => by simp)
  refine wp_region_any hm ?_
  have := heldN_lex (md := .any) (P := P) (ops := l.toArray) (Q := Q) (S := Below w.drew.heap.size w.drew) (g := 1) (T := soloB .any l.toArray m.length ip) (F := fun _ => True) (fun _ _ _ _ => trivial) (below_stab w.drew) hsel htw hQ
    (Fin := SoloK P l.toArray Q (Below w.drew.heap.size w.drew) op (l.drop m.length))
    (fun listed a' _ hT hf w' hS _ => held_solo (below_stab w.drew) (by simpa using hop) (fun j hj => by rw [List.getElem?_drop]; simp) (by simp) hT hf w' hS)
    (maskI 0 m) (maskL m l) (Array.replicate l.toArray.size false) a closed_none e1 hh h w.drew (Below.refl _ _) trivial
  have h2 := wpAny_of_heldN _ _ _ _ this
  rw [hlen, show m.length + (l.toArray.size - m.length) = l.toArray.size by omega] at h2
  exact h2
end Go.Proofs.YtegibpepdndocabGreat
end
section
namespace Go.Proofs.YtegibpepdndocabGreat
open Has renaming new → J0, new1 → J1, new2 → J2, new3 → J3, new4 → J4, drew → J5, drewN → J6, alloc → J7, same → J8, other → J9, cell → Jc, frozen → Jf, below → Jb
open Go.ChangeShapes Go.WideShapes Go.ChangeAt Go.RowKit
set_option linter.unusedSimpArgs false
set_option maxHeartbeats 2000000

attribute [local go_sem] VGo_value VGo_skip VGo_enter
theorem toIntA3_any (x y z : Int) (w : World) : Calls Tryz.prog 130 #[.agg #[.int .i64 (x), .int .i64 (y), .int .i64 (z)]] w fun e w' => e = .returned (.agg #[.int .i64 (x), .int .i64 (y), .int .i64 (z)]) ∧ Below w.heap.size w w' := by
  go_enter Tryz.func130, Tryz.ntmps130
  go_wp2
  refine wp_loop_rounds 4 ?_
  repeat' (rw [rounds_succ]; go_wp2)
  refine bodyPost_ret (v := .agg #[.int .i64 (x), .int .i64 (y), .int .i64 (z)]) (by simp [results, Tryz.results130, go_sem]) rfl ⟨vec_eq (by first | rfl | omega) (by first | rfl | omega) (by first | rfl | omega), ?_⟩; (repeat' (first|with_reducible (first|exact lowRefl _|apply lowSet|apply lowDrew|apply lowDrewN|apply lowAlloc)|(with_reducible refine lowCall ?_ (by assumption))|(show (_ : Nat) ≤ _;first|(simp;done)|(simp;omega)|omega)))
theorem toBoolA3_any (x y z : Bool) (w : World) : Calls Tryz.prog 131 #[.agg #[.bool x, .bool y, .bool z]] w fun e w' => e = .returned (.agg #[.bool x, .bool y, .bool z]) ∧ Below w.heap.size w w' := by
  go_enter Tryz.func131, Tryz.ntmps131
  go_wp2
  refine wp_loop_rounds 4 ?_
  repeat' (rw [rounds_succ]; go_wp2)
  refine bodyPost_ret (v := .agg #[.bool x, .bool y, .bool z]) (by simp [results, Tryz.results131, go_sem]) rfl ⟨rfl, ?_⟩
  repeat' (first|with_reducible (first|exact lowRefl _|apply lowSet|apply lowDrew|apply lowDrewN|apply lowAlloc)|(with_reducible refine lowCall ?_ (by assumption))|(show (_ : Nat) ≤ _;first|(simp;done)|(simp;omega)|omega))
theorem eqIntA3_yes (x y z : Int) (w : World) : Calls Tryz.prog 211 #[.agg #[.int .i64 (x), .int .i64 (y), .int .i64 (z)], .agg #[.int .i64 (x), .int .i64 (y), .int .i64 (z)]] w fun e w' => e = .returned (.bool true) ∧ Below w.heap.size w w' := by
  go_enter Tryz.func211, Tryz.ntmps211
  go_wp2
  refine wp_loop_rounds 4 ?_
  repeat' (rw [rounds_succ]; go_wp2; (try (go_quiet (fail); go_wp2)))
  go_ret; refine ⟨rfl, ?_⟩; (repeat' (first|with_reducible (first|exact lowRefl _|apply lowSet|apply lowDrew|apply lowDrewN|apply lowAlloc)|(with_reducible refine lowCall ?_ (by assumption))|(show (_ : Nat) ≤ _;first|(simp;done)|(simp;omega)|omega)))
theorem eqBoolA3_yes (x y z : Bool) (w : World) : Calls Tryz.prog 212 #[.agg #[.bool x, .bool y, .bool z], .agg #[.bool x, .bool y, .bool z]] w fun e w' => e = .returned (.bool true) ∧ Below w.heap.size w w' := by
  go_enter Tryz.func212, Tryz.ntmps212
  go_wp2
  refine wp_loop_rounds 4 ?_
  repeat' (rw [rounds_succ]; go_wp2; (try (go_quiet (fail); go_wp2)))
  go_ret; refine ⟨rfl, ?_⟩; (repeat' (first|with_reducible (first|exact lowRefl _|apply lowSet|apply lowDrew|apply lowDrewN|apply lowAlloc)|(with_reducible refine lowCall ?_ (by assumption))|(show (_ : Nat) ≤ _;first|(simp;done)|(simp;omega)|omega)))
theorem toMotion_any (a b c : Int) (k l n : Bool) (x y z : Int) (w : World) :
    Calls Tryz.prog 77 #[.agg #[.int .i64 (a), .int .i64 (b), .int .i64 (c), .bool (k), .bool (l), .bool (n), .int .i64 (x), .int .i64 (y), .int .i64 (z)]] w fun e w' => e = .returned (.agg #[.int .i64 (a), .int .i64 (b), .int .i64 (c), .bool (k), .bool (l), .bool (n), .int .i64 (x), .int .i64 (y), .int .i64 (z)]) ∧ Below w.heap.size w w' := by
  go_enter Tryz.func77, Tryz.ntmps77
  go_wp2_with (first | (go_at_call 130; ((with_reducible refine (toIntA3_any _ _ _ _).mono ?_); rintro e w' ⟨rfl, hbq⟩; (try (have B0 := Jb (b := w.heap.size) (by repeat' (first|with_reducible (first|assumption|apply J0|apply J1|apply J2|apply J3|apply J4|apply J5|apply J6|apply J7|apply J8|apply J9)|(with_reducible show _ ≠ _;first|omega|(simp;done)))) hbq; have C0 := Jc B0; have F0 := Jf B0)); (try (have B1 := Jb (b := w.heap.size + 1) (by repeat' (first|with_reducible (first|assumption|apply J0|apply J1|apply J2|apply J3|apply J4|apply J5|apply J6|apply J7|apply J8|apply J9)|(with_reducible show _ ≠ _;first|omega|(simp;done)))) hbq; have C1 := Jc B1; have F1 := Jf B1)); (try (have B2 := Jb (b := w.heap.size + 1 + 1) (by repeat' (first|with_reducible (first|assumption|apply J0|apply J1|apply J2|apply J3|apply J4|apply J5|apply J6|apply J7|apply J8|apply J9)|(with_reducible show _ ≠ _;first|omega|(simp;done)))) hbq; have C2 := Jc B2; have F2 := Jf B2)))) | (go_at_call 131; ((with_reducible refine (toBoolA3_any _ _ _ _).mono ?_); rintro e w' ⟨rfl, hbq⟩; (try (have B0 := Jb (b := w.heap.size) (by repeat' (first|with_reducible (first|assumption|apply J0|apply J1|apply J2|apply J3|apply J4|apply J5|apply J6|apply J7|apply J8|apply J9)|(with_reducible show _ ≠ _;first|omega|(simp;done)))) hbq; have C0 := Jc B0; have F0 := Jf B0)); (try (have B1 := Jb (b := w.heap.size + 1) (by repeat' (first|with_reducible (first|assumption|apply J0|apply J1|apply J2|apply J3|apply J4|apply J5|apply J6|apply J7|apply J8|apply J9)|(with_reducible show _ ≠ _;first|omega|(simp;done)))) hbq; have C1 := Jc B1; have F1 := Jf B1)); (try (have B2 := Jb (b := w.heap.size + 1 + 1) (by repeat' (first|with_reducible (first|assumption|apply J0|apply J1|apply J2|apply J3|apply J4|apply J5|apply J6|apply J7|apply J8|apply J9)|(with_reducible show _ ≠ _;first|omega|(simp;done)))) hbq; have C2 := Jc B2; have F2 := Jf B2)))) | (go_at_call 78; ((with_reducible refine (toVec_any _ _ _ _).mono ?_); rintro e w' ⟨rfl, hbq⟩; (try (have B0 := Jb (b := w.heap.size) (by repeat' (first|with_reducible (first|assumption|apply J0|apply J1|apply J2|apply J3|apply J4|apply J5|apply J6|apply J7|apply J8|apply J9)|(with_reducible show _ ≠ _;first|omega|(simp;done)))) hbq; have C0 := Jc B0; have F0 := Jf B0)); (try (have B1 := Jb (b := w.heap.size + 1) (by repeat' (first|with_reducible (first|assumption|apply J0|apply J1|apply J2|apply J3|apply J4|apply J5|apply J6|apply J7|apply J8|apply J9)|(with_reducible show _ ≠ _;first|omega|(simp;done)))) hbq; have C1 := Jc B1; have F1 := Jf B1)); (try (have B2 := Jb (b := w.heap.size + 1 + 1) (by repeat' (first|with_reducible (first|assumption|apply J0|apply J1|apply J2|apply J3|apply J4|apply J5|apply J6|apply J7|apply J8|apply J9)|(with_reducible show _ ≠ _;first|omega|(simp;done)))) hbq; have C2 := Jc B2; have F2 := Jf B2)))))
  refine bodyPost_has (b := w.heap.size + 1) (T := 47) ?hB (fun wE hE => ?hres) rfl ⟨rfl, ?hlow⟩; (case hB => (refine Has.as (by repeat' (first|with_reducible (first|assumption|apply J0|apply J1|apply J2|apply J3|apply J4|apply J5|apply J6|apply J7|apply J8|apply J9)|(with_reducible show _ ≠ _;first|omega|(simp;done)))) ?_; first | (with_reducible rfl) | (simp only [List.setIfInBounds_toArray, List.set_cons_zero, List.set_cons_succ]; first | done | rfl) | rfl | (simp; done))); (case hres => have cE := Jc hE; simp only [results, Tryz.results77, go_sem]; simp [go_sem, cE]; done); (case hlow => repeat' (first|with_reducible (first|exact lowRefl _|apply lowSet|apply lowDrew|apply lowDrewN|apply lowAlloc)|(with_reducible refine lowCall ?_ (by assumption))|(show (_ : Nat) ≤ _;first|(simp;done)|(simp;omega)|omega)))
theorem eqMotion_yes (a b c : Int) (k l n : Bool) (x y z : Int) (w : World) :
    Calls Tryz.prog 146 #[.agg #[.int .i64 (a), .int .i64 (b), .int .i64 (c), .bool (k), .bool (l), .bool (n), .int .i64 (x), .int .i64 (y), .int .i64 (z)], .agg #[.int .i64 (a), .int .i64 (b), .int .i64 (c), .bool (k), .bool (l), .bool (n), .int .i64 (x), .int .i64 (y), .int .i64 (z)]] w fun e w' => e = .returned (.bool true) ∧ Below w.heap.size w w' := by
  go_enter Tryz.func146, Tryz.ntmps146
  go_wp2_with (first | (go_at_call 211; ((with_reducible refine (eqIntA3_yes _ _ _ _).mono ?_); rintro e w' ⟨rfl, hbq⟩; (try (have B0 := Jb (b := w.heap.size) (by repeat' (first|with_reducible (first|assumption|apply J0|apply J1|apply J2|apply J3|apply J4|apply J5|apply J6|apply J7|apply J8|apply J9)|(with_reducible show _ ≠ _;first|omega|(simp;done)))) hbq; have C0 := Jc B0; have F0 := Jf B0)); (try (have B1 := Jb (b := w.heap.size + 1) (by repeat' (first|with_reducible (first|assumption|apply J0|apply J1|apply J2|apply J3|apply J4|apply J5|apply J6|apply J7|apply J8|apply J9)|(with_reducible show _ ≠ _;first|omega|(simp;done)))) hbq; have C1 := Jc B1; have F1 := Jf B1)); (try (have B2 := Jb (b := w.heap.size + 1 + 1) (by repeat' (first|with_reducible (first|assumption|apply J0|apply J1|apply J2|apply J3|apply J4|apply J5|apply J6|apply J7|apply J8|apply J9)|(with_reducible show _ ≠ _;first|omega|(simp;done)))) hbq; have C2 := Jc B2; have F2 := Jf B2)))) | (go_at_call 212; ((with_reducible refine (eqBoolA3_yes _ _ _ _).mono ?_); rintro e w' ⟨rfl, hbq⟩; (try (have B0 := Jb (b := w.heap.size) (by repeat' (first|with_reducible (first|assumption|apply J0|apply J1|apply J2|apply J3|apply J4|apply J5|apply J6|apply J7|apply J8|apply J9)|(with_reducible show _ ≠ _;first|omega|(simp;done)))) hbq; have C0 := Jc B0; have F0 := Jf B0)); (try (have B1 := Jb (b := w.heap.size + 1) (by repeat' (first|with_reducible (first|assumption|apply J0|apply J1|apply J2|apply J3|apply J4|apply J5|apply J6|apply J7|apply J8|apply J9)|(with_reducible show _ ≠ _;first|omega|(simp;done)))) hbq; have C1 := Jc B1; have F1 := Jf B1)); (try (have B2 := Jb (b := w.heap.size + 1 + 1) (by repeat' (first|with_reducible (first|assumption|apply J0|apply J1|apply J2|apply J3|apply J4|apply J5|apply J6|apply J7|apply J8|apply J9)|(with_reducible show _ ≠ _;first|omega|(simp;done)))) hbq; have C2 := Jc B2; have F2 := Jf B2)))) | (go_at_call 19; ((with_reducible refine (eqVec_yes _ _ _ _).mono ?_); rintro e w' ⟨rfl, hbq⟩; (try (have B0 := Jb (b := w.heap.size) (by repeat' (first|with_reducible (first|assumption|apply J0|apply J1|apply J2|apply J3|apply J4|apply J5|apply J6|apply J7|apply J8|apply J9)|(with_reducible show _ ≠ _;first|omega|(simp;done)))) hbq; have C0 := Jc B0; have F0 := Jf B0)); (try (have B1 := Jb (b := w.heap.size + 1) (by repeat' (first|with_reducible (first|assumption|apply J0|apply J1|apply J2|apply J3|apply J4|apply J5|apply J6|apply J7|apply J8|apply J9)|(with_reducible show _ ≠ _;first|omega|(simp;done)))) hbq; have C1 := Jc B1; have F1 := Jf B1)); (try (have B2 := Jb (b := w.heap.size + 1 + 1) (by repeat' (first|with_reducible (first|assumption|apply J0|apply J1|apply J2|apply J3|apply J4|apply J5|apply J6|apply J7|apply J8|apply J9)|(with_reducible show _ ≠ _;first|omega|(simp;done)))) hbq; have C2 := Jc B2; have F2 := Jf B2)))))
  go_ret; refine ⟨rfl, ?_⟩; (repeat' (first|with_reducible (first|exact lowRefl _|apply lowSet|apply lowDrew|apply lowDrewN|apply lowAlloc)|(with_reducible refine lowCall ?_ (by assumption))|(show (_ : Nat) ≤ _;first|(simp;done)|(simp;omega)|omega)))
end Go.Proofs.YtegibpepdndocabGreat
end
