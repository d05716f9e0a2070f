import Derived.Test.YtegibpepdndocabGreatOutAk
namespace Go.Proofs.YtegibpepdndocabGreat
open Has renaming new → J0, new1 → J1, new2 → J2, new3 → J3, new4 → J4, drew → J5, drewN → J6, alloc → J7, same → J8, other → J9, cell → Jc, frozen → Jf, below → Jb
open Go.ChangeShapes Go.WideShapes Go.ChangeAt Go.RowKit
set_option linter.unusedSimpArgs false
set_option linter.unusedVariables false
set_option maxHeartbeats 4000000

attribute [local go_sem] ix0 ix1 ix2 VGo_value VGo_skip VGo_enter ixs0 ixs1 ixs2
/- the direction out of a box on one axis (0: the ray comes to no face there), and on all three -/
def FcE (u X Y n r : Int) : Prop :=
  (r = 0 ∧ u = 0) ∨ (r = 0 ∧ u ≠ 0 ∧ n ≠ X ∧ n ≠ Y) ∨ (r = -1 ∧ 0 < u ∧ n = X) ∨ (r = 1 ∧ u < 0 ∧ n = X) ∨ (r = 1 ∧ 0 < u ∧ n ≠ X ∧ n = Y) ∨ (r = -1 ∧ u < 0 ∧ n ≠ X ∧ n = Y)
theorem fcE (u X Y n : Int) : ∃ r, FcE u X Y n r := by
  by_cases h0 : u = 0
  · exact ⟨0, .inl ⟨rfl, h0⟩⟩
  · by_cases h1 : n = X
    · by_cases h2 : 0 < u
      · exact ⟨-1, .inr (.inr (.inl ⟨rfl, h2, h1⟩))⟩
      · exact ⟨1, .inr (.inr (.inr (.inl ⟨rfl, by omega, h1⟩)))⟩
    · by_cases h3 : n = Y
      · by_cases h2 : 0 < u
        · exact ⟨1, .inr (.inr (.inr (.inr (.inl ⟨rfl, h2, h1, h3⟩))))⟩
        · exact ⟨-1, .inr (.inr (.inr (.inr (.inr ⟨rfl, by omega, h1, h3⟩))))⟩
      · exact ⟨0, .inr (.inl ⟨rfl, h0, h1, h3⟩)⟩
def OtE (r1 r2 r3 X Y Z : Int) : Prop :=
  (r1 ≠ 0 ∧ X = r1 ∧ Y = 0 ∧ Z = 0) ∨ (r1 = 0 ∧ r2 ≠ 0 ∧ X = 0 ∧ Y = r2 ∧ Z = 0) ∨ (r1 = 0 ∧ r2 = 0 ∧ X = 0 ∧ Y = 0 ∧ Z = r3)
theorem otE (r1 r2 r3 : Int) : ∃ X Y Z, OtE r1 r2 r3 X Y Z := by
  by_cases h1 : r1 = 0
  · by_cases h2 : r2 = 0
    · exact ⟨0, 0, r3, .inr (.inr ⟨h1, h2, rfl, rfl, rfl⟩)⟩
    · exact ⟨0, r2, 0, .inr (.inl ⟨h1, h2, rfl, rfl, rfl⟩)⟩
  · exact ⟨r1, 0, 0, .inl ⟨h1, rfl, rfl, rfl⟩⟩
/- cmp.Compare of two ints -/
theorem isNaN_any (a : Int) (w : World) : Calls Tryz.prog 198 #[.int .i64 a] w fun e w' => e = .returned (.bool false) ∧ w = w' := by
  go_enter Tryz.func198, Tryz.ntmps198
  go_wp2
  go_ret
  exact ⟨rfl, rfl⟩
theorem compare_any (a b r : Int) (w : World) (h : (a < b ∧ r = -1) ∨ (b < a ∧ r = 1) ∨ (a = b ∧ r = 0)) : Calls Tryz.prog 137 #[.int .i64 a, .int .i64 b] w fun e w' => e = .returned (.int .i64 r) ∧ Below w.heap.size w w' := by
  rcases h with ⟨h1, rfl⟩ | ⟨h1, rfl⟩ | ⟨rfl, rfl⟩
  all_goals
    go_enter Tryz.func137, Tryz.ntmps137
    go_wp2_with ((go_at_call 198; ((with_reducible refine (isNaN_any _ _).mono ?_); rintro e w' ⟨rfl, rfl⟩)))
    go_ret; refine ⟨ret_int (by first | rfl | omega), ?_⟩; (repeat' (first|with_reducible (first|exact lowRefl _|apply lowSet|apply lowDrew|apply lowDrewN|apply lowAlloc)|(with_reducible refine lowCall ?_ (by assumption))|(show (_ : Nat) ≤ _;first|(simp;done)|(simp;omega)|omega)))
theorem iboxOut_any (a b c x y z p q r u v t X1 Y1 X2 Y2 X3 Y3 n r1 r2 r3 X Y Z : Int) (w : World) (h : Xok a b c x y z) (k : Rok p q r u v t) (s1 : SlE a x p u X1 Y1) (s2 : SlE b y q v X2 Y2) (s3 : SlE c z r t X3 Y3)
    (f1 : FcE u X1 Y1 n r1) (f2 : FcE v X2 Y2 n r2) (f3 : FcE t X3 Y3 n r3) (o : OtE r1 r2 r3 X Y Z) :
    Calls Tryz.prog 81 #[.agg #[.int .i64 (a), .int .i64 (b), .int .i64 (c), .int .i64 (x), .int .i64 (y), .int .i64 (z)], .agg #[.int .i64 (p), .int .i64 (q), .int .i64 (r), .int .i64 (u), .int .i64 (v), .int .i64 (t)], .int .i64 n] w fun e w' => e = .returned (.agg #[.int .i64 (X), .int .i64 (Y), .int .i64 (Z)]) ∧ Below w.heap.size w w' := by
  have SC := Lib.hid (fun w => slabCuts_any a b c x y z p q r u v t X1 Y1 X2 Y2 X3 Y3 w h k s1 s2 s3)
  have FF := Lib.hid (show FcE u X1 Y1 n r1 ∧ FcE v X2 Y2 n r2 ∧ FcE t X3 Y3 n r3 ∧ OtE r1 r2 r3 X Y Z from ⟨f1, f2, f3, o⟩)
  clear h k s1 s2 s3 f1 f2 f3 o
  go_enter Tryz.func81, Tryz.ntmps81
  go_upto_region 1 with fail
  refine (fun (k : ∀ wm, Has wm w.heap.size #[.int .i64 (a), .int .i64 (b), .int .i64 (c), .int .i64 (x), .int .i64 (y), .int .i64 (z)] 45 → Has wm (w.heap.size + 1) #[.int .i64 (p), .int .i64 (q), .int .i64 (r), .int .i64 (u), .int .i64 (v), .int .i64 (t)] 52 → Has wm (w.heap.size + 1 + 1) #[.int .i64 0, .int .i64 0, .int .i64 0] 38 → Below w.heap.size w wm → Code.wp _ _ _ _ wm) => k _ ?_ ?_ ?_ ?_) ?_
  · (refine Has.as (by repeat' (first|with_reducible (first|assumption|apply J0|apply J1|apply J2|apply J3|apply J4|apply J5|apply J6|apply J7|apply J8|apply J9)|(with_reducible show _ ≠ _;first|omega|(simp;done)))) ?_; first | (with_reducible rfl) | (simp only [List.setIfInBounds_toArray, List.set_cons_zero, List.set_cons_succ]; first | done | rfl) | rfl | (simp; done))
  · (refine Has.as (by repeat' (first|with_reducible (first|assumption|apply J0|apply J1|apply J2|apply J3|apply J4|apply J5|apply J6|apply J7|apply J8|apply J9)|(with_reducible show _ ≠ _;first|omega|(simp;done)))) ?_; first | (with_reducible rfl) | (simp only [List.setIfInBounds_toArray, List.set_cons_zero, List.set_cons_succ]; first | done | rfl) | rfl | (simp; done))
  · (refine Has.as (by repeat' (first|with_reducible (first|assumption|apply J0|apply J1|apply J2|apply J3|apply J4|apply J5|apply J6|apply J7|apply J8|apply J9)|(with_reducible show _ ≠ _;first|omega|(simp;done)))) ?_; first | (with_reducible rfl) | (simp only [List.setIfInBounds_toArray, List.set_cons_zero, List.set_cons_succ]; first | done | rfl) | rfl | (simp; done))
  · repeat' (first|with_reducible (first|exact lowRefl _|apply lowSet|apply lowDrew|apply lowDrewN|apply lowAlloc)|(with_reducible refine lowCall ?_ (by assumption))|(show (_ : Nat) ≤ _;first|(simp;done)|(simp;omega)|omega))
  intro w' B0 B1 B2 hL
  have C0 := Jc B0
  have F0 := Jf B0
  have C1 := Jc B1
  have F1 := Jf B1
  have l2 := Has.lt B2
  (refine wp_region_held7 6 (by kernel_rfl) (by kernel_rfl) rfl rfl rfl rfl (fun _ _ _ d _ h => by cases d <;> exact h) (.cells #[.int .i64 (0), .int .i64 (0), .int .i64 (0), .int .i64 (0), .int .i64 (0), .int .i64 (0)] 149 (0, 0)) (.cells #[.int .i64 0, .int .i64 0, .int .i64 0] 30 (0, 0)) (.cells #[.int .i64 (X1), .int .i64 (Y1), .int .i64 (X2), .int .i64 (Y2), .int .i64 (X3), .int .i64 (Y3)] 149 (0, 0)) (fun a u v => Act.put_comm a u v (by decide)) (fun _ _ => rfl) (fun _ => rfl) (fun _ => rfl) (fun _ => rfl) ?_ ?_ ?_; (focus (intro a w K hK; go_simp; exact hK)); (focus (intro a w K hK; go_simp; exact hK)); intro Fq hFq; simp only [List.take_succ_cons, List.take_zero])
  repeat (first | (refine wpHeld_run ?_ rfl ?_ ?_; rotate_left; (focus (intro w' hbq Kq hKq; ((try (have B0 := Jb (b := w.heap.size) (by repeat' (first|with_reducible (first|assumption|apply J0|apply J1|apply J2|apply J3|apply J4|apply J5|apply J6|apply J7|apply J8|apply J9)|(with_reducible show _ ≠ _;first|omega|(simp;done)))) hbq; have C0 := Jc B0; have F0 := Jf B0)); (try (have B1 := Jb (b := w.heap.size + 1) (by repeat' (first|with_reducible (first|assumption|apply J0|apply J1|apply J2|apply J3|apply J4|apply J5|apply J6|apply J7|apply J8|apply J9)|(with_reducible show _ ≠ _;first|omega|(simp;done)))) hbq; have C1 := Jc B1; have F1 := Jf B1)); (try (have B2 := Jb (b := w.heap.size + 1 + 1) (by repeat' (first|with_reducible (first|assumption|apply J0|apply J1|apply J2|apply J3|apply J4|apply J5|apply J6|apply J7|apply J8|apply J9)|(with_reducible show _ ≠ _;first|omega|(simp;done)))) hbq; have C2 := Jc B2; have F2 := Jf B2))); go_simp; (try (rw [IntWalk.i64_in]; rotate_left; focus (constructor <;> omega))); first | exact hKq _ (Below.refl _ _) | first | (go_at_call 101; ((with_reducible refine (SC.out _).mono ?_); rintro e w2 ⟨rfl, hbr⟩; refine back ?_; exact hKq _ hbr)) | (go_at_call 136; ((with_reducible refine (ipartsOf_any _ _ _ _).mono ?_); rintro e w2 ⟨rfl, hbr⟩; refine back ?_; exact hKq _ hbr)))); ((try simp only [Act.put, List.setIfInBounds_toArray, List.set_cons_zero, List.set_cons_succ]))) | (refine wpHeld_skip (by rfl) ?_; ((try simp only [Act.put, List.setIfInBounds_toArray, List.set_cons_zero, List.set_cons_succ]))))
  refine wpHeld_nil (hFq _ ⟨?_, ?_⟩)
  · intro b5 b6 w1 hb n1 n2 hne h5 h6
    have H5 : Has w1 b5 #[.int .i64 (0), .int .i64 (0), .int .i64 (0), .int .i64 (0), .int .i64 (0), .int .i64 (0)] 149 := h5
    have H6 : Has w1 b6 #[.int .i64 0, .int .i64 0, .int .i64 0] 30 := h6
    have c5 := Jc H5
    have f5 := Jf H5
    go_simp
    exact ⟨lowSet (p := ⟨b5, 5, none⟩) (lowSet (p := ⟨b5, 4, none⟩) (lowSet (p := ⟨b5, 3, none⟩) (lowSet (p := ⟨b5, 2, none⟩) (lowSet (p := ⟨b5, 1, none⟩) (lowSet (p := ⟨b5, 0, none⟩) hb n1 _) n1 _) n1 _) n1 _) n1 _) n1 _, by show Has _ _ _ _; (refine Has.as (by repeat' (first|with_reducible (first|assumption|apply J0|apply J1|apply J2|apply J3|apply J4|apply J5|apply J6|apply J7|apply J8|apply J9)|(with_reducible show _ ≠ _;first|omega|(simp;done)))) ?_; first | (with_reducible rfl) | (simp only [List.setIfInBounds_toArray, List.set_cons_zero, List.set_cons_succ]; first | done | rfl) | rfl | (simp; done)), by show Has _ _ _ _; (refine Has.as (by repeat' (first|with_reducible (first|assumption|apply J0|apply J1|apply J2|apply J3|apply J4|apply J5|apply J6|apply J7|apply J8|apply J9)|(with_reducible show _ ≠ _;first|omega|(simp;done)))) ?_; first | (with_reducible rfl) | (simp only [List.setIfInBounds_toArray, List.set_cons_zero, List.set_cons_succ]; first | done | rfl) | rfl | (simp; done))⟩
  intro b5 b6 w1 hb n1 n2 hne h5 h6
  have hu := undrew hb
  have q0 := B2.below hu
  have hL0 := lowCall hL hu
  have nq : w.heap.size + 1 + 1 ≠ b6 := Nat.ne_of_lt (Nat.lt_of_lt_of_le l2 n2)
  have nq2 : w.heap.size ≤ b6 := by omega
  have B5 : Has w1 b5 #[.int .i64 (X1), .int .i64 (Y1), .int .i64 (X2), .int .i64 (Y2), .int .i64 (X3), .int .i64 (Y3)] 149 := h5
  have B6 : Has w1 b6 #[.int .i64 0, .int .i64 0, .int .i64 0] 30 := h6
  have c6 := Jc B6
  have f6 := Jf B6
  go_upto_region 2 with fail
  refine (fun (k : ∀ wm, Has wm (w.heap.size + 1 + 1) #[.int .i64 0, .int .i64 0, .int .i64 0] 38 → Has wm b5 #[.int .i64 (X1), .int .i64 (Y1), .int .i64 (X2), .int .i64 (Y2), .int .i64 (X3), .int .i64 (Y3)] 149 → Has wm b6 #[.int .i64 (u), .int .i64 (v), .int .i64 (t)] 30 → Below w.heap.size w wm → Code.wp _ _ _ _ wm) => k _ ?_ ?_ ?_ ?_) ?_
  · (refine Has.as (by repeat' (first|with_reducible (first|assumption|apply J0|apply J1|apply J2|apply J3|apply J4|apply J5|apply J6|apply J7|apply J8|apply J9)|(with_reducible show _ ≠ _;first|omega|(simp;done)))) ?_; first | (with_reducible rfl) | (simp only [List.setIfInBounds_toArray, List.set_cons_zero, List.set_cons_succ]; first | done | rfl) | rfl | (simp; done))
  · (refine Has.as (by repeat' (first|with_reducible (first|assumption|apply J0|apply J1|apply J2|apply J3|apply J4|apply J5|apply J6|apply J7|apply J8|apply J9)|(with_reducible show _ ≠ _;first|omega|(simp;done)))) ?_; first | (with_reducible rfl) | (simp only [List.setIfInBounds_toArray, List.set_cons_zero, List.set_cons_succ]; first | done | rfl) | rfl | (simp; done))
  · (refine Has.as (by repeat' (first|with_reducible (first|assumption|apply J0|apply J1|apply J2|apply J3|apply J4|apply J5|apply J6|apply J7|apply J8|apply J9)|(with_reducible show _ ≠ _;first|omega|(simp;done)))) ?_; first | (with_reducible rfl) | (simp only [List.setIfInBounds_toArray, List.set_cons_zero, List.set_cons_succ]; first | done | rfl) | rfl | (simp; done))
  · repeat' (first|with_reducible (first|exact lowRefl _|apply lowSet|apply lowDrew|apply lowDrewN|apply lowAlloc)|(with_reducible refine lowCall ?_ (by assumption))|(show (_ : Nat) ≤ _;first|(simp;done)|(simp;omega)|omega))
  clear hb n1 n2 hne h5 h6 hu q0 hL0 B5 B6 c6 f6 hFq SC nq nq2 B0 B1 B2 C0 F0 C1 F1 l2 hL
  clear w1 w'
  intro wm B2 B5 B6 hL
  have C5 := Jc B5
  go_wp2
  go_loopw [19] (fun i wr => ∃ (j : Nat), j ≤ 3 ∧ i = .int .i64 j ∧ (1 ≤ j → r1 = 0) ∧ (2 ≤ j → r2 = 0) ∧ (3 ≤ j → r3 = 0) ∧ Has wr (w.heap.size + 1 + 1) #[.int .i64 0, .int .i64 0, .int .i64 0] 38 ∧ Has wr b6 #[.int .i64 (u), .int .i64 (v), .int .i64 (t)] 30 ∧ Below w.heap.size w wr) (fun i _ => 3 - (intOf i).toNat)
  case atStart => exact ⟨0, by omega, rfl, by omega, by omega, by omega, B2, B6, hL⟩
  case round =>
    clear B2 B5 B6 hL C5
    obtain ⟨j, hj, rfl, z1, z2, z3, B2, B6, hL⟩ := hrel
    have C6 := Jc B6
    obtain ⟨f1, f2, f3, o⟩ := FF.out
    obtain rfl | rfl | rfl | rfl : j = 0 ∨ j = 1 ∨ j = 2 ∨ j = 3 := by omega
    · have hz : True := trivial
      have HZ := Lib.hid hz
      go_upto_region 5 with fail
      have l2 := B2.lt
      have l6 := B6.lt
      refine (fun (k : ∀ wm, Has wm wr.heap.size #[.int .i64 X1, .int .i64 Y1] 148 → Has wm b6 #[.int .i64 (u), .int .i64 (v), .int .i64 (t)] 30 → Has wm (w.heap.size + 1 + 1) #[.int .i64 0, .int .i64 0, .int .i64 0] 38 → Below w.heap.size w wm → Code.wp _ _ _ _ wm) => k _ ?_ ?_ ?_ ?_) ?_
      · (refine Has.as (by repeat' (first|with_reducible (first|assumption|apply J0|apply J1|apply J2|apply J3|apply J4|apply J5|apply J6|apply J7|apply J8|apply J9)|(with_reducible show _ ≠ _;first|omega|(simp;done)))) ?_; first | (with_reducible rfl) | (simp only [List.setIfInBounds_toArray, List.set_cons_zero, List.set_cons_succ]; first | done | rfl) | rfl | (simp; done))
      · (refine Has.as (by repeat' (first|with_reducible (first|assumption|apply J0|apply J1|apply J2|apply J3|apply J4|apply J5|apply J6|apply J7|apply J8|apply J9)|(with_reducible show _ ≠ _;first|omega|(simp;done)))) ?_; first | (with_reducible rfl) | (simp only [List.setIfInBounds_toArray, List.set_cons_zero, List.set_cons_succ]; first | done | rfl) | rfl | (simp; done))
      · (refine Has.as (by repeat' (first|with_reducible (first|assumption|apply J0|apply J1|apply J2|apply J3|apply J4|apply J5|apply J6|apply J7|apply J8|apply J9)|(with_reducible show _ ≠ _;first|omega|(simp;done)))) ?_; first | (with_reducible rfl) | (simp only [List.setIfInBounds_toArray, List.set_cons_zero, List.set_cons_succ]; first | done | rfl) | rfl | (simp; done))
      · have := hL.size; repeat' (first|with_reducible (first|exact lowRefl _|apply lowSet|apply lowDrew|apply lowDrewN|apply lowAlloc)|(with_reducible refine lowCall ?_ (by assumption))|(show (_ : Nat) ≤ _;first|(simp;done)|(simp;omega)|omega))
      generalize wr.heap.size = bC at *
      clear C6 B2 B6 hL l2 l6 hz
      clear wr
      intro wm BC B6 B2 hL
      have C6 := Jc B6
      have CC := Jc BC
      rcases f1 with ⟨hr, h0⟩ | ⟨hr, h0, hx, hy⟩ | ⟨hr, h0, hx⟩ | ⟨hr, h0, hx⟩ | ⟨hr, h0, hx, hy⟩ | ⟨hr, h0, hx, hy⟩
      · clear f2 f3 o; have hr1 := hr; clear z1 z2 z3; subst h0; go_wp2; first | exact ⟨⟨1, by omega, rfl, fun _ => hr1, by omega, by omega, by (refine Has.as (by repeat' (first|with_reducible (first|assumption|apply J0|apply J1|apply J2|apply J3|apply J4|apply J5|apply J6|apply J7|apply J8|apply J9)|(with_reducible show _ ≠ _;first|omega|(simp;done)))) ?_; first | (with_reducible rfl) | (simp only [List.setIfInBounds_toArray, List.set_cons_zero, List.set_cons_succ]; first | done | rfl) | rfl | (simp; done)), by (refine Has.as (by repeat' (first|with_reducible (first|assumption|apply J0|apply J1|apply J2|apply J3|apply J4|apply J5|apply J6|apply J7|apply J8|apply J9)|(with_reducible show _ ≠ _;first|omega|(simp;done)))) ?_; first | (with_reducible rfl) | (simp only [List.setIfInBounds_toArray, List.set_cons_zero, List.set_cons_succ]; first | done | rfl) | rfl | (simp; done)), by repeat' (first|with_reducible (first|exact lowRefl _|apply lowSet|apply lowDrew|apply lowDrewN|apply lowAlloc)|(with_reducible refine lowCall ?_ (by assumption))|(show (_ : Nat) ≤ _;first|(simp;done)|(simp;omega)|omega))⟩, by simp [intOf]⟩ | (refine ⟨?_, by simp [intOf]⟩; (repeat apply Exists.intro); exact ⟨⟨1, by omega, rfl, fun _ => hr1, by omega, by omega, by (refine Has.as (by repeat' (first|with_reducible (first|assumption|apply J0|apply J1|apply J2|apply J3|apply J4|apply J5|apply J6|apply J7|apply J8|apply J9)|(with_reducible show _ ≠ _;first|omega|(simp;done)))) ?_; first | (with_reducible rfl) | (simp only [List.setIfInBounds_toArray, List.set_cons_zero, List.set_cons_succ]; first | done | rfl) | rfl | (simp; done)), by (refine Has.as (by repeat' (first|with_reducible (first|assumption|apply J0|apply J1|apply J2|apply J3|apply J4|apply J5|apply J6|apply J7|apply J8|apply J9)|(with_reducible show _ ≠ _;first|omega|(simp;done)))) ?_; first | (with_reducible rfl) | (simp only [List.setIfInBounds_toArray, List.set_cons_zero, List.set_cons_succ]; first | done | rfl) | rfl | (simp; done)), by repeat' (first|with_reducible (first|exact lowRefl _|apply lowSet|apply lowDrew|apply lowDrewN|apply lowAlloc)|(with_reducible refine lowCall ?_ (by assumption))|(show (_ : Nat) ≤ _;first|(simp;done)|(simp;omega)|omega))⟩, rfl⟩)
      · clear f2 f3 o; have hr1 := hr; clear z1 z2 z3
        go_upto_region 7 with fail
        have lc := BC.lt
        have l2 := B2.lt
        have l6 := B6.lt
        refine (fun (k : ∀ wn, Has wn bC #[.int .i64 X1, .int .i64 Y1] 148 → Has wn wm.heap.size #[.int .i64 0, .int .i64 0, .int .i64 0] 30 → Has wn b6 #[.int .i64 (u), .int .i64 (v), .int .i64 (t)] 30 → Has wn (w.heap.size + 1 + 1) #[.int .i64 0, .int .i64 0, .int .i64 0] 38 → Below w.heap.size w wn → Code.wp _ _ _ _ wn) => k _ ?_ ?_ ?_ ?_ ?_) ?_
        · (refine Has.as (by repeat' (first|with_reducible (first|assumption|apply J0|apply J1|apply J2|apply J3|apply J4|apply J5|apply J6|apply J7|apply J8|apply J9)|(with_reducible show _ ≠ _;first|omega|(simp;done)))) ?_; first | (with_reducible rfl) | (simp only [List.setIfInBounds_toArray, List.set_cons_zero, List.set_cons_succ]; first | done | rfl) | rfl | (simp; done))
        · (refine Has.as (by repeat' (first|with_reducible (first|assumption|apply J0|apply J1|apply J2|apply J3|apply J4|apply J5|apply J6|apply J7|apply J8|apply J9)|(with_reducible show _ ≠ _;first|omega|(simp;done)))) ?_; first | (with_reducible rfl) | (simp only [List.setIfInBounds_toArray, List.set_cons_zero, List.set_cons_succ]; first | done | rfl) | rfl | (simp; done))
        · (refine Has.as (by repeat' (first|with_reducible (first|assumption|apply J0|apply J1|apply J2|apply J3|apply J4|apply J5|apply J6|apply J7|apply J8|apply J9)|(with_reducible show _ ≠ _;first|omega|(simp;done)))) ?_; first | (with_reducible rfl) | (simp only [List.setIfInBounds_toArray, List.set_cons_zero, List.set_cons_succ]; first | done | rfl) | rfl | (simp; done))
        · (refine Has.as (by repeat' (first|with_reducible (first|assumption|apply J0|apply J1|apply J2|apply J3|apply J4|apply J5|apply J6|apply J7|apply J8|apply J9)|(with_reducible show _ ≠ _;first|omega|(simp;done)))) ?_; first | (with_reducible rfl) | (simp only [List.setIfInBounds_toArray, List.set_cons_zero, List.set_cons_succ]; first | done | rfl) | rfl | (simp; done))
        · have := hL.size; repeat' (first|with_reducible (first|exact lowRefl _|apply lowSet|apply lowDrew|apply lowDrewN|apply lowAlloc)|(with_reducible refine lowCall ?_ (by assumption))|(show (_ : Nat) ≤ _;first|(simp;done)|(simp;omega)|omega))
        have no : w.heap.size ≤ wm.heap.size := hL.size
        have nb : w.heap.size + 1 + 1 ≠ wm.heap.size := Nat.ne_of_lt l2
        have nc : ¬ wm.heap.size = w.heap.size + 1 + 1 := fun h => nb h.symm
        generalize wm.heap.size = bO at *
        clear C6 CC B2 B6 BC hL lc l2 l6
        clear wm
        intro wn BC BO B6 B2 hL
        have CC := Jc BC
        have CO := Jc BO
        have FO := Jf BO
        have C6 := Jc B6
        go_wp2; first | exact ⟨⟨1, by omega, rfl, fun _ => hr1, by omega, by omega, by (refine Has.as (by repeat' (first|with_reducible (first|assumption|apply J0|apply J1|apply J2|apply J3|apply J4|apply J5|apply J6|apply J7|apply J8|apply J9)|(with_reducible show _ ≠ _;first|omega|(simp;done)))) ?_; first | (with_reducible rfl) | (simp only [List.setIfInBounds_toArray, List.set_cons_zero, List.set_cons_succ]; first | done | rfl) | rfl | (simp; done)), by (refine Has.as (by repeat' (first|with_reducible (first|assumption|apply J0|apply J1|apply J2|apply J3|apply J4|apply J5|apply J6|apply J7|apply J8|apply J9)|(with_reducible show _ ≠ _;first|omega|(simp;done)))) ?_; first | (with_reducible rfl) | (simp only [List.setIfInBounds_toArray, List.set_cons_zero, List.set_cons_succ]; first | done | rfl) | rfl | (simp; done)), by repeat' (first|with_reducible (first|exact lowRefl _|apply lowSet|apply lowDrew|apply lowDrewN|apply lowAlloc)|(with_reducible refine lowCall ?_ (by assumption))|(show (_ : Nat) ≤ _;first|(simp;done)|(simp;omega)|omega))⟩, by simp [intOf]⟩ | (refine ⟨?_, by simp [intOf]⟩; (repeat apply Exists.intro); exact ⟨⟨1, by omega, rfl, fun _ => hr1, by omega, by omega, by (refine Has.as (by repeat' (first|with_reducible (first|assumption|apply J0|apply J1|apply J2|apply J3|apply J4|apply J5|apply J6|apply J7|apply J8|apply J9)|(with_reducible show _ ≠ _;first|omega|(simp;done)))) ?_; first | (with_reducible rfl) | (simp only [List.setIfInBounds_toArray, List.set_cons_zero, List.set_cons_succ]; first | done | rfl) | rfl | (simp; done)), by (refine Has.as (by repeat' (first|with_reducible (first|assumption|apply J0|apply J1|apply J2|apply J3|apply J4|apply J5|apply J6|apply J7|apply J8|apply J9)|(with_reducible show _ ≠ _;first|omega|(simp;done)))) ?_; first | (with_reducible rfl) | (simp only [List.setIfInBounds_toArray, List.set_cons_zero, List.set_cons_succ]; first | done | rfl) | rfl | (simp; done)), by repeat' (first|with_reducible (first|exact lowRefl _|apply lowSet|apply lowDrew|apply lowDrewN|apply lowAlloc)|(with_reducible refine lowCall ?_ (by assumption))|(show (_ : Nat) ≤ _;first|(simp;done)|(simp;omega)|omega))⟩, rfl⟩)
      · obtain ⟨rfl, rfl, rfl⟩ : X = -1 ∧ Y = 0 ∧ Z = 0 := by have hz := HZ.out; unfold OtE at o; omega
        clear f2 f3 o z1 z2 z3 HZ hr
        have hne : ¬ u = 0 := by omega
        subst hx
        go_upto_region 7 with fail
        have lc := BC.lt
        have l2 := B2.lt
        have l6 := B6.lt
        refine (fun (k : ∀ wn, Has wn bC #[.int .i64 n, .int .i64 Y1] 148 → Has wn wm.heap.size #[.int .i64 0, .int .i64 0, .int .i64 0] 30 → Has wn b6 #[.int .i64 (u), .int .i64 (v), .int .i64 (t)] 30 → Has wn (w.heap.size + 1 + 1) #[.int .i64 0, .int .i64 0, .int .i64 0] 38 → Below w.heap.size w wn → Code.wp _ _ _ _ wn) => k _ ?_ ?_ ?_ ?_ ?_) ?_
        · (refine Has.as (by repeat' (first|with_reducible (first|assumption|apply J0|apply J1|apply J2|apply J3|apply J4|apply J5|apply J6|apply J7|apply J8|apply J9)|(with_reducible show _ ≠ _;first|omega|(simp;done)))) ?_; first | (with_reducible rfl) | (simp only [List.setIfInBounds_toArray, List.set_cons_zero, List.set_cons_succ]; first | done | rfl) | rfl | (simp; done))
        · (refine Has.as (by repeat' (first|with_reducible (first|assumption|apply J0|apply J1|apply J2|apply J3|apply J4|apply J5|apply J6|apply J7|apply J8|apply J9)|(with_reducible show _ ≠ _;first|omega|(simp;done)))) ?_; first | (with_reducible rfl) | (simp only [List.setIfInBounds_toArray, List.set_cons_zero, List.set_cons_succ]; first | done | rfl) | rfl | (simp; done))
        · (refine Has.as (by repeat' (first|with_reducible (first|assumption|apply J0|apply J1|apply J2|apply J3|apply J4|apply J5|apply J6|apply J7|apply J8|apply J9)|(with_reducible show _ ≠ _;first|omega|(simp;done)))) ?_; first | (with_reducible rfl) | (simp only [List.setIfInBounds_toArray, List.set_cons_zero, List.set_cons_succ]; first | done | rfl) | rfl | (simp; done))
        · (refine Has.as (by repeat' (first|with_reducible (first|assumption|apply J0|apply J1|apply J2|apply J3|apply J4|apply J5|apply J6|apply J7|apply J8|apply J9)|(with_reducible show _ ≠ _;first|omega|(simp;done)))) ?_; first | (with_reducible rfl) | (simp only [List.setIfInBounds_toArray, List.set_cons_zero, List.set_cons_succ]; first | done | rfl) | rfl | (simp; done))
        · have := hL.size; repeat' (first|with_reducible (first|exact lowRefl _|apply lowSet|apply lowDrew|apply lowDrewN|apply lowAlloc)|(with_reducible refine lowCall ?_ (by assumption))|(show (_ : Nat) ≤ _;first|(simp;done)|(simp;omega)|omega))
        have no : w.heap.size ≤ wm.heap.size := hL.size
        have nb : w.heap.size + 1 + 1 ≠ wm.heap.size := Nat.ne_of_lt l2
        have nc : ¬ wm.heap.size = w.heap.size + 1 + 1 := fun h => nb h.symm
        generalize wm.heap.size = bO at *
        clear C6 CC B2 B6 BC hL lc l2 l6
        clear wm
        intro wn BC BO B6 B2 hL
        have CC := Jc BC
        have CO := Jc BO
        have FO := Jf BO
        have C6 := Jc B6
        go_wp2_with (go_at_call 137; (with_reducible refine (compare_any _ _ (-1) _ (.inl ⟨by omega, rfl⟩)).mono ?_); rintro e w' ⟨rfl, hbq⟩; have BO2 := BO.below hbq; have B22 := B2.below hbq; have CO2 := Jc BO2; have FO2 := Jf BO2; have C22 := Jc B22; have F22 := Jf B22; have hL2 := lowCall hL hbq)
        refine bodyPost_has (b := w.heap.size + 1 + 1) (T := 38) ?hB (fun wE hE => ?hres) rfl ⟨rfl, ?hlow⟩; (case hB => (refine Has.as (by repeat' (first|with_reducible (first|assumption|apply J0|apply J1|apply J2|apply J3|apply J4|apply J5|apply J6|apply J7|apply J8|apply J9)|(with_reducible show _ ≠ _;first|omega|(simp;done)))) ?_; first | (with_reducible rfl) | (simp only [List.setIfInBounds_toArray, List.set_cons_zero, List.set_cons_succ]; first | done | rfl) | rfl | (simp; done))); (case hres => have cE := Jc hE; simp only [results, Tryz.results81, go_sem]; simp [go_sem, cE]; done); (case hlow => repeat' (first|with_reducible (first|exact lowRefl _|apply lowSet|apply lowDrew|apply lowDrewN|apply lowAlloc)|(with_reducible refine lowCall ?_ (by assumption))|(show (_ : Nat) ≤ _;first|(simp;done)|(simp;omega)|omega)))
      · obtain ⟨rfl, rfl, rfl⟩ : X = 1 ∧ Y = 0 ∧ Z = 0 := by have hz := HZ.out; unfold OtE at o; omega
        clear f2 f3 o z1 z2 z3 HZ hr
        have hne : ¬ u = 0 := by omega
        subst hx
        go_upto_region 7 with fail
        have lc := BC.lt
        have l2 := B2.lt
        have l6 := B6.lt
        refine (fun (k : ∀ wn, Has wn bC #[.int .i64 n, .int .i64 Y1] 148 → Has wn wm.heap.size #[.int .i64 0, .int .i64 0, .int .i64 0] 30 → Has wn b6 #[.int .i64 (u), .int .i64 (v), .int .i64 (t)] 30 → Has wn (w.heap.size + 1 + 1) #[.int .i64 0, .int .i64 0, .int .i64 0] 38 → Below w.heap.size w wn → Code.wp _ _ _ _ wn) => k _ ?_ ?_ ?_ ?_ ?_) ?_
        · (refine Has.as (by repeat' (first|with_reducible (first|assumption|apply J0|apply J1|apply J2|apply J3|apply J4|apply J5|apply J6|apply J7|apply J8|apply J9)|(with_reducible show _ ≠ _;first|omega|(simp;done)))) ?_; first | (with_reducible rfl) | (simp only [List.setIfInBounds_toArray, List.set_cons_zero, List.set_cons_succ]; first | done | rfl) | rfl | (simp; done))
        · (refine Has.as (by repeat' (first|with_reducible (first|assumption|apply J0|apply J1|apply J2|apply J3|apply J4|apply J5|apply J6|apply J7|apply J8|apply J9)|(with_reducible show _ ≠ _;first|omega|(simp;done)))) ?_; first | (with_reducible rfl) | (simp only [List.setIfInBounds_toArray, List.set_cons_zero, List.set_cons_succ]; first | done | rfl) | rfl | (simp; done))
        · (refine Has.as (by repeat' (first|with_reducible (first|assumption|apply J0|apply J1|apply J2|apply J3|apply J4|apply J5|apply J6|apply J7|apply J8|apply J9)|(with_reducible show _ ≠ _;first|omega|(simp;done)))) ?_; first | (with_reducible rfl) | (simp only [List.setIfInBounds_toArray, List.set_cons_zero, List.set_cons_succ]; first | done | rfl) | rfl | (simp; done))
        · (refine Has.as (by repeat' (first|with_reducible (first|assumption|apply J0|apply J1|apply J2|apply J3|apply J4|apply J5|apply J6|apply J7|apply J8|apply J9)|(with_reducible show _ ≠ _;first|omega|(simp;done)))) ?_; first | (with_reducible rfl) | (simp only [List.setIfInBounds_toArray, List.set_cons_zero, List.set_cons_succ]; first | done | rfl) | rfl | (simp; done))
        · have := hL.size; repeat' (first|with_reducible (first|exact lowRefl _|apply lowSet|apply lowDrew|apply lowDrewN|apply lowAlloc)|(with_reducible refine lowCall ?_ (by assumption))|(show (_ : Nat) ≤ _;first|(simp;done)|(simp;omega)|omega))
        have no : w.heap.size ≤ wm.heap.size := hL.size
        have nb : w.heap.size + 1 + 1 ≠ wm.heap.size := Nat.ne_of_lt l2
        have nc : ¬ wm.heap.size = w.heap.size + 1 + 1 := fun h => nb h.symm
        generalize wm.heap.size = bO at *
        clear C6 CC B2 B6 BC hL lc l2 l6
        clear wm
        intro wn BC BO B6 B2 hL
        have CC := Jc BC
        have CO := Jc BO
        have FO := Jf BO
        have C6 := Jc B6
        go_wp2_with (go_at_call 137; (with_reducible refine (compare_any _ _ (1) _ (.inr (.inl ⟨by omega, rfl⟩))).mono ?_); rintro e w' ⟨rfl, hbq⟩; have BO2 := BO.below hbq; have B22 := B2.below hbq; have CO2 := Jc BO2; have FO2 := Jf BO2; have C22 := Jc B22; have F22 := Jf B22; have hL2 := lowCall hL hbq)
        refine bodyPost_has (b := w.heap.size + 1 + 1) (T := 38) ?hB (fun wE hE => ?hres) rfl ⟨rfl, ?hlow⟩; (case hB => (refine Has.as (by repeat' (first|with_reducible (first|assumption|apply J0|apply J1|apply J2|apply J3|apply J4|apply J5|apply J6|apply J7|apply J8|apply J9)|(with_reducible show _ ≠ _;first|omega|(simp;done)))) ?_; first | (with_reducible rfl) | (simp only [List.setIfInBounds_toArray, List.set_cons_zero, List.set_cons_succ]; first | done | rfl) | rfl | (simp; done))); (case hres => have cE := Jc hE; simp only [results, Tryz.results81, go_sem]; simp [go_sem, cE]; done); (case hlow => repeat' (first|with_reducible (first|exact lowRefl _|apply lowSet|apply lowDrew|apply lowDrewN|apply lowAlloc)|(with_reducible refine lowCall ?_ (by assumption))|(show (_ : Nat) ≤ _;first|(simp;done)|(simp;omega)|omega)))
      · obtain ⟨rfl, rfl, rfl⟩ : X = 1 ∧ Y = 0 ∧ Z = 0 := by have hz := HZ.out; unfold OtE at o; omega
        clear f2 f3 o z1 z2 z3 HZ hr
        have hne : ¬ u = 0 := by omega
        subst hy
        go_upto_region 7 with fail
        have lc := BC.lt
        have l2 := B2.lt
        have l6 := B6.lt
        refine (fun (k : ∀ wn, Has wn bC #[.int .i64 X1, .int .i64 n] 148 → Has wn wm.heap.size #[.int .i64 0, .int .i64 0, .int .i64 0] 30 → Has wn b6 #[.int .i64 (u), .int .i64 (v), .int .i64 (t)] 30 → Has wn (w.heap.size + 1 + 1) #[.int .i64 0, .int .i64 0, .int .i64 0] 38 → Below w.heap.size w wn → Code.wp _ _ _ _ wn) => k _ ?_ ?_ ?_ ?_ ?_) ?_
        · (refine Has.as (by repeat' (first|with_reducible (first|assumption|apply J0|apply J1|apply J2|apply J3|apply J4|apply J5|apply J6|apply J7|apply J8|apply J9)|(with_reducible show _ ≠ _;first|omega|(simp;done)))) ?_; first | (with_reducible rfl) | (simp only [List.setIfInBounds_toArray, List.set_cons_zero, List.set_cons_succ]; first | done | rfl) | rfl | (simp; done))
        · (refine Has.as (by repeat' (first|with_reducible (first|assumption|apply J0|apply J1|apply J2|apply J3|apply J4|apply J5|apply J6|apply J7|apply J8|apply J9)|(with_reducible show _ ≠ _;first|omega|(simp;done)))) ?_; first | (with_reducible rfl) | (simp only [List.setIfInBounds_toArray, List.set_cons_zero, List.set_cons_succ]; first | done | rfl) | rfl | (simp; done))
        · (refine Has.as (by repeat' (first|with_reducible (first|assumption|apply J0|apply J1|apply J2|apply J3|apply J4|apply J5|apply J6|apply J7|apply J8|apply J9)|(with_reducible show _ ≠ _;first|omega|(simp;done)))) ?_; first | (with_reducible rfl) | (simp only [List.setIfInBounds_toArray, List.set_cons_zero, List.set_cons_succ]; first | done | rfl) | rfl | (simp; done))
        · (refine Has.as (by repeat' (first|with_reducible (first|assumption|apply J0|apply J1|apply J2|apply J3|apply J4|apply J5|apply J6|apply J7|apply J8|apply J9)|(with_reducible show _ ≠ _;first|omega|(simp;done)))) ?_; first | (with_reducible rfl) | (simp only [List.setIfInBounds_toArray, List.set_cons_zero, List.set_cons_succ]; first | done | rfl) | rfl | (simp; done))
        · have := hL.size; repeat' (first|with_reducible (first|exact lowRefl _|apply lowSet|apply lowDrew|apply lowDrewN|apply lowAlloc)|(with_reducible refine lowCall ?_ (by assumption))|(show (_ : Nat) ≤ _;first|(simp;done)|(simp;omega)|omega))
        have no : w.heap.size ≤ wm.heap.size := hL.size
        have nb : w.heap.size + 1 + 1 ≠ wm.heap.size := Nat.ne_of_lt l2
        have nc : ¬ wm.heap.size = w.heap.size + 1 + 1 := fun h => nb h.symm
        generalize wm.heap.size = bO at *
        clear C6 CC B2 B6 BC hL lc l2 l6
        clear wm
        intro wn BC BO B6 B2 hL
        have CC := Jc BC
        have CO := Jc BO
        have FO := Jf BO
        have C6 := Jc B6
        go_wp2_with (go_at_call 137; (with_reducible refine (compare_any _ _ (1) _ (.inr (.inl ⟨by omega, rfl⟩))).mono ?_); rintro e w' ⟨rfl, hbq⟩; have BO2 := BO.below hbq; have B22 := B2.below hbq; have CO2 := Jc BO2; have FO2 := Jf BO2; have C22 := Jc B22; have F22 := Jf B22; have hL2 := lowCall hL hbq)
        refine bodyPost_has (b := w.heap.size + 1 + 1) (T := 38) ?hB (fun wE hE => ?hres) rfl ⟨rfl, ?hlow⟩; (case hB => (refine Has.as (by repeat' (first|with_reducible (first|assumption|apply J0|apply J1|apply J2|apply J3|apply J4|apply J5|apply J6|apply J7|apply J8|apply J9)|(with_reducible show _ ≠ _;first|omega|(simp;done)))) ?_; first | (with_reducible rfl) | (simp only [List.setIfInBounds_toArray, List.set_cons_zero, List.set_cons_succ]; first | done | rfl) | rfl | (simp; done))); (case hres => have cE := Jc hE; simp only [results, Tryz.results81, go_sem]; simp [go_sem, cE]; done); (case hlow => repeat' (first|with_reducible (first|exact lowRefl _|apply lowSet|apply lowDrew|apply lowDrewN|apply lowAlloc)|(with_reducible refine lowCall ?_ (by assumption))|(show (_ : Nat) ≤ _;first|(simp;done)|(simp;omega)|omega)))
      · obtain ⟨rfl, rfl, rfl⟩ : X = -1 ∧ Y = 0 ∧ Z = 0 := by have hz := HZ.out; unfold OtE at o; omega
        clear f2 f3 o z1 z2 z3 HZ hr
        have hne : ¬ u = 0 := by omega
        subst hy
        go_upto_region 7 with fail
        have lc := BC.lt
        have l2 := B2.lt
        have l6 := B6.lt
        refine (fun (k : ∀ wn, Has wn bC #[.int .i64 X1, .int .i64 n] 148 → Has wn wm.heap.size #[.int .i64 0, .int .i64 0, .int .i64 0] 30 → Has wn b6 #[.int .i64 (u), .int .i64 (v), .int .i64 (t)] 30 → Has wn (w.heap.size + 1 + 1) #[.int .i64 0, .int .i64 0, .int .i64 0] 38 → Below w.heap.size w wn → Code.wp _ _ _ _ wn) => k _ ?_ ?_ ?_ ?_ ?_) ?_
        · (refine Has.as (by repeat' (first|with_reducible (first|assumption|apply J0|apply J1|apply J2|apply J3|apply J4|apply J5|apply J6|apply J7|apply J8|apply J9)|(with_reducible show _ ≠ _;first|omega|(simp;done)))) ?_; first | (with_reducible rfl) | (simp only [List.setIfInBounds_toArray, List.set_cons_zero, List.set_cons_succ]; first | done | rfl) | rfl | (simp; done))
        · (refine Has.as (by repeat' (first|with_reducible (first|assumption|apply J0|apply J1|apply J2|apply J3|apply J4|apply J5|apply J6|apply J7|apply J8|apply J9)|(with_reducible show _ ≠ _;first|omega|(simp;done)))) ?_; first | (with_reducible rfl) | (simp only [List.setIfInBounds_toArray, List.set_cons_zero, List.set_cons_succ]; first | done | rfl) | rfl | (simp; done))
        · (refine Has.as (by repeat' (first|with_reducible (first|assumption|apply J0|apply J1|apply J2|apply J3|apply J4|apply J5|apply J6|apply J7|apply J8|apply J9)|(with_reducible show _ ≠ _;first|omega|(simp;done)))) ?_; first | (with_reducible rfl) | (simp only [List.setIfInBounds_toArray, List.set_cons_zero, List.set_cons_succ]; first | done | rfl) | rfl | (simp; done))
        · (refine Has.as (by repeat' (first|with_reducible (first|assumption|apply J0|apply J1|apply J2|apply J3|apply J4|apply J5|apply J6|apply J7|apply J8|apply J9)|(with_reducible show _ ≠ _;first|omega|(simp;done)))) ?_; first | (with_reducible rfl) | (simp only [List.setIfInBounds_toArray, List.set_cons_zero, List.set_cons_succ]; first | done | rfl) | rfl | (simp; done))
        · have := hL.size; repeat' (first|with_reducible (first|exact lowRefl _|apply lowSet|apply lowDrew|apply lowDrewN|apply lowAlloc)|(with_reducible refine lowCall ?_ (by assumption))|(show (_ : Nat) ≤ _;first|(simp;done)|(simp;omega)|omega))
        have no : w.heap.size ≤ wm.heap.size := hL.size
        have nb : w.heap.size + 1 + 1 ≠ wm.heap.size := Nat.ne_of_lt l2
        have nc : ¬ wm.heap.size = w.heap.size + 1 + 1 := fun h => nb h.symm
        generalize wm.heap.size = bO at *
        clear C6 CC B2 B6 BC hL lc l2 l6
        clear wm
        intro wn BC BO B6 B2 hL
        have CC := Jc BC
        have CO := Jc BO
        have FO := Jf BO
        have C6 := Jc B6
        go_wp2_with (go_at_call 137; (with_reducible refine (compare_any _ _ (-1) _ (.inl ⟨by omega, rfl⟩)).mono ?_); rintro e w' ⟨rfl, hbq⟩; have BO2 := BO.below hbq; have B22 := B2.below hbq; have CO2 := Jc BO2; have FO2 := Jf BO2; have C22 := Jc B22; have F22 := Jf B22; have hL2 := lowCall hL hbq)
        refine bodyPost_has (b := w.heap.size + 1 + 1) (T := 38) ?hB (fun wE hE => ?hres) rfl ⟨rfl, ?hlow⟩; (case hB => (refine Has.as (by repeat' (first|with_reducible (first|assumption|apply J0|apply J1|apply J2|apply J3|apply J4|apply J5|apply J6|apply J7|apply J8|apply J9)|(with_reducible show _ ≠ _;first|omega|(simp;done)))) ?_; first | (with_reducible rfl) | (simp only [List.setIfInBounds_toArray, List.set_cons_zero, List.set_cons_succ]; first | done | rfl) | rfl | (simp; done))); (case hres => have cE := Jc hE; simp only [results, Tryz.results81, go_sem]; simp [go_sem, cE]; done); (case hlow => repeat' (first|with_reducible (first|exact lowRefl _|apply lowSet|apply lowDrew|apply lowDrewN|apply lowAlloc)|(with_reducible refine lowCall ?_ (by assumption))|(show (_ : Nat) ≤ _;first|(simp;done)|(simp;omega)|omega)))
    · have hz : True ∧ r1 = 0 := ⟨trivial, z1 (by omega)⟩
      have HZ := Lib.hid hz
      go_upto_region 5 with fail
      have l2 := B2.lt
      have l6 := B6.lt
      refine (fun (k : ∀ wm, Has wm wr.heap.size #[.int .i64 X2, .int .i64 Y2] 148 → Has wm b6 #[.int .i64 (u), .int .i64 (v), .int .i64 (t)] 30 → Has wm (w.heap.size + 1 + 1) #[.int .i64 0, .int .i64 0, .int .i64 0] 38 → Below w.heap.size w wm → Code.wp _ _ _ _ wm) => k _ ?_ ?_ ?_ ?_) ?_
      · (refine Has.as (by repeat' (first|with_reducible (first|assumption|apply J0|apply J1|apply J2|apply J3|apply J4|apply J5|apply J6|apply J7|apply J8|apply J9)|(with_reducible show _ ≠ _;first|omega|(simp;done)))) ?_; first | (with_reducible rfl) | (simp only [List.setIfInBounds_toArray, List.set_cons_zero, List.set_cons_succ]; first | done | rfl) | rfl | (simp; done))
      · (refine Has.as (by repeat' (first|with_reducible (first|assumption|apply J0|apply J1|apply J2|apply J3|apply J4|apply J5|apply J6|apply J7|apply J8|apply J9)|(with_reducible show _ ≠ _;first|omega|(simp;done)))) ?_; first | (with_reducible rfl) | (simp only [List.setIfInBounds_toArray, List.set_cons_zero, List.set_cons_succ]; first | done | rfl) | rfl | (simp; done))
      · (refine Has.as (by repeat' (first|with_reducible (first|assumption|apply J0|apply J1|apply J2|apply J3|apply J4|apply J5|apply J6|apply J7|apply J8|apply J9)|(with_reducible show _ ≠ _;first|omega|(simp;done)))) ?_; first | (with_reducible rfl) | (simp only [List.setIfInBounds_toArray, List.set_cons_zero, List.set_cons_succ]; first | done | rfl) | rfl | (simp; done))
      · have := hL.size; repeat' (first|with_reducible (first|exact lowRefl _|apply lowSet|apply lowDrew|apply lowDrewN|apply lowAlloc)|(with_reducible refine lowCall ?_ (by assumption))|(show (_ : Nat) ≤ _;first|(simp;done)|(simp;omega)|omega))
      generalize wr.heap.size = bC at *
      clear C6 B2 B6 hL l2 l6 hz
      clear wr
      intro wm BC B6 B2 hL
      have C6 := Jc B6
      have CC := Jc BC
      rcases f2 with ⟨hr, h0⟩ | ⟨hr, h0, hx, hy⟩ | ⟨hr, h0, hx⟩ | ⟨hr, h0, hx⟩ | ⟨hr, h0, hx, hy⟩ | ⟨hr, h0, hx, hy⟩
      · clear f1 f3 o; have hr1 := z1 (by omega); have hr2 := hr; clear z1 z2 z3; subst h0; go_wp2; first | exact ⟨⟨2, by omega, rfl, fun _ => hr1, fun _ => hr2, by omega, by (refine Has.as (by repeat' (first|with_reducible (first|assumption|apply J0|apply J1|apply J2|apply J3|apply J4|apply J5|apply J6|apply J7|apply J8|apply J9)|(with_reducible show _ ≠ _;first|omega|(simp;done)))) ?_; first | (with_reducible rfl) | (simp only [List.setIfInBounds_toArray, List.set_cons_zero, List.set_cons_succ]; first | done | rfl) | rfl | (simp; done)), by (refine Has.as (by repeat' (first|with_reducible (first|assumption|apply J0|apply J1|apply J2|apply J3|apply J4|apply J5|apply J6|apply J7|apply J8|apply J9)|(with_reducible show _ ≠ _;first|omega|(simp;done)))) ?_; first | (with_reducible rfl) | (simp only [List.setIfInBounds_toArray, List.set_cons_zero, List.set_cons_succ]; first | done | rfl) | rfl | (simp; done)), by repeat' (first|with_reducible (first|exact lowRefl _|apply lowSet|apply lowDrew|apply lowDrewN|apply lowAlloc)|(with_reducible refine lowCall ?_ (by assumption))|(show (_ : Nat) ≤ _;first|(simp;done)|(simp;omega)|omega))⟩, by simp [intOf]⟩ | (refine ⟨?_, by simp [intOf]⟩; (repeat apply Exists.intro); exact ⟨⟨2, by omega, rfl, fun _ => hr1, fun _ => hr2, by omega, by (refine Has.as (by repeat' (first|with_reducible (first|assumption|apply J0|apply J1|apply J2|apply J3|apply J4|apply J5|apply J6|apply J7|apply J8|apply J9)|(with_reducible show _ ≠ _;first|omega|(simp;done)))) ?_; first | (with_reducible rfl) | (simp only [List.setIfInBounds_toArray, List.set_cons_zero, List.set_cons_succ]; first | done | rfl) | rfl | (simp; done)), by (refine Has.as (by repeat' (first|with_reducible (first|assumption|apply J0|apply J1|apply J2|apply J3|apply J4|apply J5|apply J6|apply J7|apply J8|apply J9)|(with_reducible show _ ≠ _;first|omega|(simp;done)))) ?_; first | (with_reducible rfl) | (simp only [List.setIfInBounds_toArray, List.set_cons_zero, List.set_cons_succ]; first | done | rfl) | rfl | (simp; done)), by repeat' (first|with_reducible (first|exact lowRefl _|apply lowSet|apply lowDrew|apply lowDrewN|apply lowAlloc)|(with_reducible refine lowCall ?_ (by assumption))|(show (_ : Nat) ≤ _;first|(simp;done)|(simp;omega)|omega))⟩, rfl⟩)
      · clear f1 f3 o; have hr1 := z1 (by omega); have hr2 := hr; clear z1 z2 z3
        go_upto_region 7 with fail
        have lc := BC.lt
        have l2 := B2.lt
        have l6 := B6.lt
        refine (fun (k : ∀ wn, Has wn bC #[.int .i64 X2, .int .i64 Y2] 148 → Has wn wm.heap.size #[.int .i64 0, .int .i64 0, .int .i64 0] 30 → Has wn b6 #[.int .i64 (u), .int .i64 (v), .int .i64 (t)] 30 → Has wn (w.heap.size + 1 + 1) #[.int .i64 0, .int .i64 0, .int .i64 0] 38 → Below w.heap.size w wn → Code.wp _ _ _ _ wn) => k _ ?_ ?_ ?_ ?_ ?_) ?_
        · (refine Has.as (by repeat' (first|with_reducible (first|assumption|apply J0|apply J1|apply J2|apply J3|apply J4|apply J5|apply J6|apply J7|apply J8|apply J9)|(with_reducible show _ ≠ _;first|omega|(simp;done)))) ?_; first | (with_reducible rfl) | (simp only [List.setIfInBounds_toArray, List.set_cons_zero, List.set_cons_succ]; first | done | rfl) | rfl | (simp; done))
        · (refine Has.as (by repeat' (first|with_reducible (first|assumption|apply J0|apply J1|apply J2|apply J3|apply J4|apply J5|apply J6|apply J7|apply J8|apply J9)|(with_reducible show _ ≠ _;first|omega|(simp;done)))) ?_; first | (with_reducible rfl) | (simp only [List.setIfInBounds_toArray, List.set_cons_zero, List.set_cons_succ]; first | done | rfl) | rfl | (simp; done))
        · (refine Has.as (by repeat' (first|with_reducible (first|assumption|apply J0|apply J1|apply J2|apply J3|apply J4|apply J5|apply J6|apply J7|apply J8|apply J9)|(with_reducible show _ ≠ _;first|omega|(simp;done)))) ?_; first | (with_reducible rfl) | (simp only [List.setIfInBounds_toArray, List.set_cons_zero, List.set_cons_succ]; first | done | rfl) | rfl | (simp; done))
        · (refine Has.as (by repeat' (first|with_reducible (first|assumption|apply J0|apply J1|apply J2|apply J3|apply J4|apply J5|apply J6|apply J7|apply J8|apply J9)|(with_reducible show _ ≠ _;first|omega|(simp;done)))) ?_; first | (with_reducible rfl) | (simp only [List.setIfInBounds_toArray, List.set_cons_zero, List.set_cons_succ]; first | done | rfl) | rfl | (simp; done))
        · have := hL.size; repeat' (first|with_reducible (first|exact lowRefl _|apply lowSet|apply lowDrew|apply lowDrewN|apply lowAlloc)|(with_reducible refine lowCall ?_ (by assumption))|(show (_ : Nat) ≤ _;first|(simp;done)|(simp;omega)|omega))
        have no : w.heap.size ≤ wm.heap.size := hL.size
        have nb : w.heap.size + 1 + 1 ≠ wm.heap.size := Nat.ne_of_lt l2
        have nc : ¬ wm.heap.size = w.heap.size + 1 + 1 := fun h => nb h.symm
        generalize wm.heap.size = bO at *
        clear C6 CC B2 B6 BC hL lc l2 l6
        clear wm
        intro wn BC BO B6 B2 hL
        have CC := Jc BC
        have CO := Jc BO
        have FO := Jf BO
        have C6 := Jc B6
        go_wp2; first | exact ⟨⟨2, by omega, rfl, fun _ => hr1, fun _ => hr2, by omega, by (refine Has.as (by repeat' (first|with_reducible (first|assumption|apply J0|apply J1|apply J2|apply J3|apply J4|apply J5|apply J6|apply J7|apply J8|apply J9)|(with_reducible show _ ≠ _;first|omega|(simp;done)))) ?_; first | (with_reducible rfl) | (simp only [List.setIfInBounds_toArray, List.set_cons_zero, List.set_cons_succ]; first | done | rfl) | rfl | (simp; done)), by (refine Has.as (by repeat' (first|with_reducible (first|assumption|apply J0|apply J1|apply J2|apply J3|apply J4|apply J5|apply J6|apply J7|apply J8|apply J9)|(with_reducible show _ ≠ _;first|omega|(simp;done)))) ?_; first | (with_reducible rfl) | (simp only [List.setIfInBounds_toArray, List.set_cons_zero, List.set_cons_succ]; first | done | rfl) | rfl | (simp; done)), by repeat' (first|with_reducible (first|exact lowRefl _|apply lowSet|apply lowDrew|apply lowDrewN|apply lowAlloc)|(with_reducible refine lowCall ?_ (by assumption))|(show (_ : Nat) ≤ _;first|(simp;done)|(simp;omega)|omega))⟩, by simp [intOf]⟩ | (refine ⟨?_, by simp [intOf]⟩; (repeat apply Exists.intro); exact ⟨⟨2, by omega, rfl, fun _ => hr1, fun _ => hr2, by omega, by (refine Has.as (by repeat' (first|with_reducible (first|assumption|apply J0|apply J1|apply J2|apply J3|apply J4|apply J5|apply J6|apply J7|apply J8|apply J9)|(with_reducible show _ ≠ _;first|omega|(simp;done)))) ?_; first | (with_reducible rfl) | (simp only [List.setIfInBounds_toArray, List.set_cons_zero, List.set_cons_succ]; first | done | rfl) | rfl | (simp; done)), by (refine Has.as (by repeat' (first|with_reducible (first|assumption|apply J0|apply J1|apply J2|apply J3|apply J4|apply J5|apply J6|apply J7|apply J8|apply J9)|(with_reducible show _ ≠ _;first|omega|(simp;done)))) ?_; first | (with_reducible rfl) | (simp only [List.setIfInBounds_toArray, List.set_cons_zero, List.set_cons_succ]; first | done | rfl) | rfl | (simp; done)), by repeat' (first|with_reducible (first|exact lowRefl _|apply lowSet|apply lowDrew|apply lowDrewN|apply lowAlloc)|(with_reducible refine lowCall ?_ (by assumption))|(show (_ : Nat) ≤ _;first|(simp;done)|(simp;omega)|omega))⟩, rfl⟩)
      · obtain ⟨rfl, rfl, rfl⟩ : X = 0 ∧ Y = -1 ∧ Z = 0 := by have hz := HZ.out; unfold OtE at o; omega
        clear f1 f3 o z1 z2 z3 HZ hr
        have hne : ¬ v = 0 := by omega
        subst hx
        go_upto_region 7 with fail
        have lc := BC.lt
        have l2 := B2.lt
        have l6 := B6.lt
        refine (fun (k : ∀ wn, Has wn bC #[.int .i64 n, .int .i64 Y2] 148 → Has wn wm.heap.size #[.int .i64 0, .int .i64 0, .int .i64 0] 30 → Has wn b6 #[.int .i64 (u), .int .i64 (v), .int .i64 (t)] 30 → Has wn (w.heap.size + 1 + 1) #[.int .i64 0, .int .i64 0, .int .i64 0] 38 → Below w.heap.size w wn → Code.wp _ _ _ _ wn) => k _ ?_ ?_ ?_ ?_ ?_) ?_
        · (refine Has.as (by repeat' (first|with_reducible (first|assumption|apply J0|apply J1|apply J2|apply J3|apply J4|apply J5|apply J6|apply J7|apply J8|apply J9)|(with_reducible show _ ≠ _;first|omega|(simp;done)))) ?_; first | (with_reducible rfl) | (simp only [List.setIfInBounds_toArray, List.set_cons_zero, List.set_cons_succ]; first | done | rfl) | rfl | (simp; done))
        · (refine Has.as (by repeat' (first|with_reducible (first|assumption|apply J0|apply J1|apply J2|apply J3|apply J4|apply J5|apply J6|apply J7|apply J8|apply J9)|(with_reducible show _ ≠ _;first|omega|(simp;done)))) ?_; first | (with_reducible rfl) | (simp only [List.setIfInBounds_toArray, List.set_cons_zero, List.set_cons_succ]; first | done | rfl) | rfl | (simp; done))
        · (refine Has.as (by repeat' (first|with_reducible (first|assumption|apply J0|apply J1|apply J2|apply J3|apply J4|apply J5|apply J6|apply J7|apply J8|apply J9)|(with_reducible show _ ≠ _;first|omega|(simp;done)))) ?_; first | (with_reducible rfl) | (simp only [List.setIfInBounds_toArray, List.set_cons_zero, List.set_cons_succ]; first | done | rfl) | rfl | (simp; done))
        · (refine Has.as (by repeat' (first|with_reducible (first|assumption|apply J0|apply J1|apply J2|apply J3|apply J4|apply J5|apply J6|apply J7|apply J8|apply J9)|(with_reducible show _ ≠ _;first|omega|(simp;done)))) ?_; first | (with_reducible rfl) | (simp only [List.setIfInBounds_toArray, List.set_cons_zero, List.set_cons_succ]; first | done | rfl) | rfl | (simp; done))
        · have := hL.size; repeat' (first|with_reducible (first|exact lowRefl _|apply lowSet|apply lowDrew|apply lowDrewN|apply lowAlloc)|(with_reducible refine lowCall ?_ (by assumption))|(show (_ : Nat) ≤ _;first|(simp;done)|(simp;omega)|omega))
        have no : w.heap.size ≤ wm.heap.size := hL.size
        have nb : w.heap.size + 1 + 1 ≠ wm.heap.size := Nat.ne_of_lt l2
        have nc : ¬ wm.heap.size = w.heap.size + 1 + 1 := fun h => nb h.symm
        generalize wm.heap.size = bO at *
        clear C6 CC B2 B6 BC hL lc l2 l6
        clear wm
        intro wn BC BO B6 B2 hL
        have CC := Jc BC
        have CO := Jc BO
        have FO := Jf BO
        have C6 := Jc B6
        go_wp2_with (go_at_call 137; (with_reducible refine (compare_any _ _ (-1) _ (.inl ⟨by omega, rfl⟩)).mono ?_); rintro e w' ⟨rfl, hbq⟩; have BO2 := BO.below hbq; have B22 := B2.below hbq; have CO2 := Jc BO2; have FO2 := Jf BO2; have C22 := Jc B22; have F22 := Jf B22; have hL2 := lowCall hL hbq)
        refine bodyPost_has (b := w.heap.size + 1 + 1) (T := 38) ?hB (fun wE hE => ?hres) rfl ⟨rfl, ?hlow⟩; (case hB => (refine Has.as (by repeat' (first|with_reducible (first|assumption|apply J0|apply J1|apply J2|apply J3|apply J4|apply J5|apply J6|apply J7|apply J8|apply J9)|(with_reducible show _ ≠ _;first|omega|(simp;done)))) ?_; first | (with_reducible rfl) | (simp only [List.setIfInBounds_toArray, List.set_cons_zero, List.set_cons_succ]; first | done | rfl) | rfl | (simp; done))); (case hres => have cE := Jc hE; simp only [results, Tryz.results81, go_sem]; simp [go_sem, cE]; done); (case hlow => repeat' (first|with_reducible (first|exact lowRefl _|apply lowSet|apply lowDrew|apply lowDrewN|apply lowAlloc)|(with_reducible refine lowCall ?_ (by assumption))|(show (_ : Nat) ≤ _;first|(simp;done)|(simp;omega)|omega)))
      · obtain ⟨rfl, rfl, rfl⟩ : X = 0 ∧ Y = 1 ∧ Z = 0 := by have hz := HZ.out; unfold OtE at o; omega
        clear f1 f3 o z1 z2 z3 HZ hr
        have hne : ¬ v = 0 := by omega
        subst hx
        go_upto_region 7 with fail
        have lc := BC.lt
        have l2 := B2.lt
        have l6 := B6.lt
        refine (fun (k : ∀ wn, Has wn bC #[.int .i64 n, .int .i64 Y2] 148 → Has wn wm.heap.size #[.int .i64 0, .int .i64 0, .int .i64 0] 30 → Has wn b6 #[.int .i64 (u), .int .i64 (v), .int .i64 (t)] 30 → Has wn (w.heap.size + 1 + 1) #[.int .i64 0, .int .i64 0, .int .i64 0] 38 → Below w.heap.size w wn → Code.wp _ _ _ _ wn) => k _ ?_ ?_ ?_ ?_ ?_) ?_
        · (refine Has.as (by repeat' (first|with_reducible (first|assumption|apply J0|apply J1|apply J2|apply J3|apply J4|apply J5|apply J6|apply J7|apply J8|apply J9)|(with_reducible show _ ≠ _;first|omega|(simp;done)))) ?_; first | (with_reducible rfl) | (simp only [List.setIfInBounds_toArray, List.set_cons_zero, List.set_cons_succ]; first | done | rfl) | rfl | (simp; done))
        · (refine Has.as (by repeat' (first|with_reducible (first|assumption|apply J0|apply J1|apply J2|apply J3|apply J4|apply J5|apply J6|apply J7|apply J8|apply J9)|(with_reducible show _ ≠ _;first|omega|(simp;done)))) ?_; first | (with_reducible rfl) | (simp only [List.setIfInBounds_toArray, List.set_cons_zero, List.set_cons_succ]; first | done | rfl) | rfl | (simp; done))
        · (refine Has.as (by repeat' (first|with_reducible (first|assumption|apply J0|apply J1|apply J2|apply J3|apply J4|apply J5|apply J6|apply J7|apply J8|apply J9)|(with_reducible show _ ≠ _;first|omega|(simp;done)))) ?_; first | (with_reducible rfl) | (simp only [List.setIfInBounds_toArray, List.set_cons_zero, List.set_cons_succ]; first | done | rfl) | rfl | (simp; done))
        · (refine Has.as (by repeat' (first|with_reducible (first|assumption|apply J0|apply J1|apply J2|apply J3|apply J4|apply J5|apply J6|apply J7|apply J8|apply J9)|(with_reducible show _ ≠ _;first|omega|(simp;done)))) ?_; first | (with_reducible rfl) | (simp only [List.setIfInBounds_toArray, List.set_cons_zero, List.set_cons_succ]; first | done | rfl) | rfl | (simp; done))
        · have := hL.size; repeat' (first|with_reducible (first|exact lowRefl _|apply lowSet|apply lowDrew|apply lowDrewN|apply lowAlloc)|(with_reducible refine lowCall ?_ (by assumption))|(show (_ : Nat) ≤ _;first|(simp;done)|(simp;omega)|omega))
        have no : w.heap.size ≤ wm.heap.size := hL.size
        have nb : w.heap.size + 1 + 1 ≠ wm.heap.size := Nat.ne_of_lt l2
        have nc : ¬ wm.heap.size = w.heap.size + 1 + 1 := fun h => nb h.symm
        generalize wm.heap.size = bO at *
        clear C6 CC B2 B6 BC hL lc l2 l6
        clear wm
        intro wn BC BO B6 B2 hL
        have CC := Jc BC
        have CO := Jc BO
        have FO := Jf BO
        have C6 := Jc B6
        go_wp2_with (go_at_call 137; (with_reducible refine (compare_any _ _ (1) _ (.inr (.inl ⟨by omega, rfl⟩))).mono ?_); rintro e w' ⟨rfl, hbq⟩; have BO2 := BO.below hbq; have B22 := B2.below hbq; have CO2 := Jc BO2; have FO2 := Jf BO2; have C22 := Jc B22; have F22 := Jf B22; have hL2 := lowCall hL hbq)
        refine bodyPost_has (b := w.heap.size + 1 + 1) (T := 38) ?hB (fun wE hE => ?hres) rfl ⟨rfl, ?hlow⟩; (case hB => (refine Has.as (by repeat' (first|with_reducible (first|assumption|apply J0|apply J1|apply J2|apply J3|apply J4|apply J5|apply J6|apply J7|apply J8|apply J9)|(with_reducible show _ ≠ _;first|omega|(simp;done)))) ?_; first | (with_reducible rfl) | (simp only [List.setIfInBounds_toArray, List.set_cons_zero, List.set_cons_succ]; first | done | rfl) | rfl | (simp; done))); (case hres => have cE := Jc hE; simp only [results, Tryz.results81, go_sem]; simp [go_sem, cE]; done); (case hlow => repeat' (first|with_reducible (first|exact lowRefl _|apply lowSet|apply lowDrew|apply lowDrewN|apply lowAlloc)|(with_reducible refine lowCall ?_ (by assumption))|(show (_ : Nat) ≤ _;first|(simp;done)|(simp;omega)|omega)))
      · obtain ⟨rfl, rfl, rfl⟩ : X = 0 ∧ Y = 1 ∧ Z = 0 := by have hz := HZ.out; unfold OtE at o; omega
        clear f1 f3 o z1 z2 z3 HZ hr
        have hne : ¬ v = 0 := by omega
        subst hy
        go_upto_region 7 with fail
        have lc := BC.lt
        have l2 := B2.lt
        have l6 := B6.lt
        refine (fun (k : ∀ wn, Has wn bC #[.int .i64 X2, .int .i64 n] 148 → Has wn wm.heap.size #[.int .i64 0, .int .i64 0, .int .i64 0] 30 → Has wn b6 #[.int .i64 (u), .int .i64 (v), .int .i64 (t)] 30 → Has wn (w.heap.size + 1 + 1) #[.int .i64 0, .int .i64 0, .int .i64 0] 38 → Below w.heap.size w wn → Code.wp _ _ _ _ wn) => k _ ?_ ?_ ?_ ?_ ?_) ?_
        · (refine Has.as (by repeat' (first|with_reducible (first|assumption|apply J0|apply J1|apply J2|apply J3|apply J4|apply J5|apply J6|apply J7|apply J8|apply J9)|(with_reducible show _ ≠ _;first|omega|(simp;done)))) ?_; first | (with_reducible rfl) | (simp only [List.setIfInBounds_toArray, List.set_cons_zero, List.set_cons_succ]; first | done | rfl) | rfl | (simp; done))
        · (refine Has.as (by repeat' (first|with_reducible (first|assumption|apply J0|apply J1|apply J2|apply J3|apply J4|apply J5|apply J6|apply J7|apply J8|apply J9)|(with_reducible show _ ≠ _;first|omega|(simp;done)))) ?_; first | (with_reducible rfl) | (simp only [List.setIfInBounds_toArray, List.set_cons_zero, List.set_cons_succ]; first | done | rfl) | rfl | (simp; done))
        · (refine Has.as (by repeat' (first|with_reducible (first|assumption|apply J0|apply J1|apply J2|apply J3|apply J4|apply J5|apply J6|apply J7|apply J8|apply J9)|(with_reducible show _ ≠ _;first|omega|(simp;done)))) ?_; first | (with_reducible rfl) | (simp only [List.setIfInBounds_toArray, List.set_cons_zero, List.set_cons_succ]; first | done | rfl) | rfl | (simp; done))
        · (refine Has.as (by repeat' (first|with_reducible (first|assumption|apply J0|apply J1|apply J2|apply J3|apply J4|apply J5|apply J6|apply J7|apply J8|apply J9)|(with_reducible show _ ≠ _;first|omega|(simp;done)))) ?_; first | (with_reducible rfl) | (simp only [List.setIfInBounds_toArray, List.set_cons_zero, List.set_cons_succ]; first | done | rfl) | rfl | (simp; done))
        · have := hL.size; repeat' (first|with_reducible (first|exact lowRefl _|apply lowSet|apply lowDrew|apply lowDrewN|apply lowAlloc)|(with_reducible refine lowCall ?_ (by assumption))|(show (_ : Nat) ≤ _;first|(simp;done)|(simp;omega)|omega))
        have no : w.heap.size ≤ wm.heap.size := hL.size
        have nb : w.heap.size + 1 + 1 ≠ wm.heap.size := Nat.ne_of_lt l2
        have nc : ¬ wm.heap.size = w.heap.size + 1 + 1 := fun h => nb h.symm
        generalize wm.heap.size = bO at *
        clear C6 CC B2 B6 BC hL lc l2 l6
        clear wm
        intro wn BC BO B6 B2 hL
        have CC := Jc BC
        have CO := Jc BO
        have FO := Jf BO
        have C6 := Jc B6
        go_wp2_with (go_at_call 137; (with_reducible refine (compare_any _ _ (1) _ (.inr (.inl ⟨by omega, rfl⟩))).mono ?_); rintro e w' ⟨rfl, hbq⟩; have BO2 := BO.below hbq; have B22 := B2.below hbq; have CO2 := Jc BO2; have FO2 := Jf BO2; have C22 := Jc B22; have F22 := Jf B22; have hL2 := lowCall hL hbq)
        refine bodyPost_has (b := w.heap.size + 1 + 1) (T := 38) ?hB (fun wE hE => ?hres) rfl ⟨rfl, ?hlow⟩; (case hB => (refine Has.as (by repeat' (first|with_reducible (first|assumption|apply J0|apply J1|apply J2|apply J3|apply J4|apply J5|apply J6|apply J7|apply J8|apply J9)|(with_reducible show _ ≠ _;first|omega|(simp;done)))) ?_; first | (with_reducible rfl) | (simp only [List.setIfInBounds_toArray, List.set_cons_zero, List.set_cons_succ]; first | done | rfl) | rfl | (simp; done))); (case hres => have cE := Jc hE; simp only [results, Tryz.results81, go_sem]; simp [go_sem, cE]; done); (case hlow => repeat' (first|with_reducible (first|exact lowRefl _|apply lowSet|apply lowDrew|apply lowDrewN|apply lowAlloc)|(with_reducible refine lowCall ?_ (by assumption))|(show (_ : Nat) ≤ _;first|(simp;done)|(simp;omega)|omega)))
      · obtain ⟨rfl, rfl, rfl⟩ : X = 0 ∧ Y = -1 ∧ Z = 0 := by have hz := HZ.out; unfold OtE at o; omega
        clear f1 f3 o z1 z2 z3 HZ hr
        have hne : ¬ v = 0 := by omega
        subst hy
        go_upto_region 7 with fail
        have lc := BC.lt
        have l2 := B2.lt
        have l6 := B6.lt
        refine (fun (k : ∀ wn, Has wn bC #[.int .i64 X2, .int .i64 n] 148 → Has wn wm.heap.size #[.int .i64 0, .int .i64 0, .int .i64 0] 30 → Has wn b6 #[.int .i64 (u), .int .i64 (v), .int .i64 (t)] 30 → Has wn (w.heap.size + 1 + 1) #[.int .i64 0, .int .i64 0, .int .i64 0] 38 → Below w.heap.size w wn → Code.wp _ _ _ _ wn) => k _ ?_ ?_ ?_ ?_ ?_) ?_
        · (refine Has.as (by repeat' (first|with_reducible (first|assumption|apply J0|apply J1|apply J2|apply J3|apply J4|apply J5|apply J6|apply J7|apply J8|apply J9)|(with_reducible show _ ≠ _;first|omega|(simp;done)))) ?_; first | (with_reducible rfl) | (simp only [List.setIfInBounds_toArray, List.set_cons_zero, List.set_cons_succ]; first | done | rfl) | rfl | (simp; done))
        · (refine Has.as (by repeat' (first|with_reducible (first|assumption|apply J0|apply J1|apply J2|apply J3|apply J4|apply J5|apply J6|apply J7|apply J8|apply J9)|(with_reducible show _ ≠ _;first|omega|(simp;done)))) ?_; first | (with_reducible rfl) | (simp only [List.setIfInBounds_toArray, List.set_cons_zero, List.set_cons_succ]; first | done | rfl) | rfl | (simp; done))
        · (refine Has.as (by repeat' (first|with_reducible (first|assumption|apply J0|apply J1|apply J2|apply J3|apply J4|apply J5|apply J6|apply J7|apply J8|apply J9)|(with_reducible show _ ≠ _;first|omega|(simp;done)))) ?_; first | (with_reducible rfl) | (simp only [List.setIfInBounds_toArray, List.set_cons_zero, List.set_cons_succ]; first | done | rfl) | rfl | (simp; done))
        · (refine Has.as (by repeat' (first|with_reducible (first|assumption|apply J0|apply J1|apply J2|apply J3|apply J4|apply J5|apply J6|apply J7|apply J8|apply J9)|(with_reducible show _ ≠ _;first|omega|(simp;done)))) ?_; first | (with_reducible rfl) | (simp only [List.setIfInBounds_toArray, List.set_cons_zero, List.set_cons_succ]; first | done | rfl) | rfl | (simp; done))
        · have := hL.size; repeat' (first|with_reducible (first|exact lowRefl _|apply lowSet|apply lowDrew|apply lowDrewN|apply lowAlloc)|(with_reducible refine lowCall ?_ (by assumption))|(show (_ : Nat) ≤ _;first|(simp;done)|(simp;omega)|omega))
        have no : w.heap.size ≤ wm.heap.size := hL.size
        have nb : w.heap.size + 1 + 1 ≠ wm.heap.size := Nat.ne_of_lt l2
        have nc : ¬ wm.heap.size = w.heap.size + 1 + 1 := fun h => nb h.symm
        generalize wm.heap.size = bO at *
        clear C6 CC B2 B6 BC hL lc l2 l6
        clear wm
        intro wn BC BO B6 B2 hL
        have CC := Jc BC
        have CO := Jc BO
        have FO := Jf BO
        have C6 := Jc B6
        go_wp2_with (go_at_call 137; (with_reducible refine (compare_any _ _ (-1) _ (.inl ⟨by omega, rfl⟩)).mono ?_); rintro e w' ⟨rfl, hbq⟩; have BO2 := BO.below hbq; have B22 := B2.below hbq; have CO2 := Jc BO2; have FO2 := Jf BO2; have C22 := Jc B22; have F22 := Jf B22; have hL2 := lowCall hL hbq)
        refine bodyPost_has (b := w.heap.size + 1 + 1) (T := 38) ?hB (fun wE hE => ?hres) rfl ⟨rfl, ?hlow⟩; (case hB => (refine Has.as (by repeat' (first|with_reducible (first|assumption|apply J0|apply J1|apply J2|apply J3|apply J4|apply J5|apply J6|apply J7|apply J8|apply J9)|(with_reducible show _ ≠ _;first|omega|(simp;done)))) ?_; first | (with_reducible rfl) | (simp only [List.setIfInBounds_toArray, List.set_cons_zero, List.set_cons_succ]; first | done | rfl) | rfl | (simp; done))); (case hres => have cE := Jc hE; simp only [results, Tryz.results81, go_sem]; simp [go_sem, cE]; done); (case hlow => repeat' (first|with_reducible (first|exact lowRefl _|apply lowSet|apply lowDrew|apply lowDrewN|apply lowAlloc)|(with_reducible refine lowCall ?_ (by assumption))|(show (_ : Nat) ≤ _;first|(simp;done)|(simp;omega)|omega)))
    · have hz : True ∧ r1 = 0 ∧ r2 = 0 := ⟨trivial, z1 (by omega), z2 (by omega)⟩
      have HZ := Lib.hid hz
      go_upto_region 5 with fail
      have l2 := B2.lt
      have l6 := B6.lt
      refine (fun (k : ∀ wm, Has wm wr.heap.size #[.int .i64 X3, .int .i64 Y3] 148 → Has wm b6 #[.int .i64 (u), .int .i64 (v), .int .i64 (t)] 30 → Has wm (w.heap.size + 1 + 1) #[.int .i64 0, .int .i64 0, .int .i64 0] 38 → Below w.heap.size w wm → Code.wp _ _ _ _ wm) => k _ ?_ ?_ ?_ ?_) ?_
      · (refine Has.as (by repeat' (first|with_reducible (first|assumption|apply J0|apply J1|apply J2|apply J3|apply J4|apply J5|apply J6|apply J7|apply J8|apply J9)|(with_reducible show _ ≠ _;first|omega|(simp;done)))) ?_; first | (with_reducible rfl) | (simp only [List.setIfInBounds_toArray, List.set_cons_zero, List.set_cons_succ]; first | done | rfl) | rfl | (simp; done))
      · (refine Has.as (by repeat' (first|with_reducible (first|assumption|apply J0|apply J1|apply J2|apply J3|apply J4|apply J5|apply J6|apply J7|apply J8|apply J9)|(with_reducible show _ ≠ _;first|omega|(simp;done)))) ?_; first | (with_reducible rfl) | (simp only [List.setIfInBounds_toArray, List.set_cons_zero, List.set_cons_succ]; first | done | rfl) | rfl | (simp; done))
      · (refine Has.as (by repeat' (first|with_reducible (first|assumption|apply J0|apply J1|apply J2|apply J3|apply J4|apply J5|apply J6|apply J7|apply J8|apply J9)|(with_reducible show _ ≠ _;first|omega|(simp;done)))) ?_; first | (with_reducible rfl) | (simp only [List.setIfInBounds_toArray, List.set_cons_zero, List.set_cons_succ]; first | done | rfl) | rfl | (simp; done))
      · have := hL.size; repeat' (first|with_reducible (first|exact lowRefl _|apply lowSet|apply lowDrew|apply lowDrewN|apply lowAlloc)|(with_reducible refine lowCall ?_ (by assumption))|(show (_ : Nat) ≤ _;first|(simp;done)|(simp;omega)|omega))
      generalize wr.heap.size = bC at *
      clear C6 B2 B6 hL l2 l6 hz
      clear wr
      intro wm BC B6 B2 hL
      have C6 := Jc B6
      have CC := Jc BC
      rcases f3 with ⟨hr, h0⟩ | ⟨hr, h0, hx, hy⟩ | ⟨hr, h0, hx⟩ | ⟨hr, h0, hx⟩ | ⟨hr, h0, hx, hy⟩ | ⟨hr, h0, hx, hy⟩
      · clear f1 f2 o; have hr1 := z1 (by omega); have hr2 := z2 (by omega); have hr3 := hr; clear z1 z2 z3; subst h0; go_wp2; first | exact ⟨⟨3, by omega, rfl, fun _ => hr1, fun _ => hr2, fun _ => hr3, by (refine Has.as (by repeat' (first|with_reducible (first|assumption|apply J0|apply J1|apply J2|apply J3|apply J4|apply J5|apply J6|apply J7|apply J8|apply J9)|(with_reducible show _ ≠ _;first|omega|(simp;done)))) ?_; first | (with_reducible rfl) | (simp only [List.setIfInBounds_toArray, List.set_cons_zero, List.set_cons_succ]; first | done | rfl) | rfl | (simp; done)), by (refine Has.as (by repeat' (first|with_reducible (first|assumption|apply J0|apply J1|apply J2|apply J3|apply J4|apply J5|apply J6|apply J7|apply J8|apply J9)|(with_reducible show _ ≠ _;first|omega|(simp;done)))) ?_; first | (with_reducible rfl) | (simp only [List.setIfInBounds_toArray, List.set_cons_zero, List.set_cons_succ]; first | done | rfl) | rfl | (simp; done)), by repeat' (first|with_reducible (first|exact lowRefl _|apply lowSet|apply lowDrew|apply lowDrewN|apply lowAlloc)|(with_reducible refine lowCall ?_ (by assumption))|(show (_ : Nat) ≤ _;first|(simp;done)|(simp;omega)|omega))⟩, by simp [intOf]⟩ | (refine ⟨?_, by simp [intOf]⟩; (repeat apply Exists.intro); exact ⟨⟨3, by omega, rfl, fun _ => hr1, fun _ => hr2, fun _ => hr3, by (refine Has.as (by repeat' (first|with_reducible (first|assumption|apply J0|apply J1|apply J2|apply J3|apply J4|apply J5|apply J6|apply J7|apply J8|apply J9)|(with_reducible show _ ≠ _;first|omega|(simp;done)))) ?_; first | (with_reducible rfl) | (simp only [List.setIfInBounds_toArray, List.set_cons_zero, List.set_cons_succ]; first | done | rfl) | rfl | (simp; done)), by (refine Has.as (by repeat' (first|with_reducible (first|assumption|apply J0|apply J1|apply J2|apply J3|apply J4|apply J5|apply J6|apply J7|apply J8|apply J9)|(with_reducible show _ ≠ _;first|omega|(simp;done)))) ?_; first | (with_reducible rfl) | (simp only [List.setIfInBounds_toArray, List.set_cons_zero, List.set_cons_succ]; first | done | rfl) | rfl | (simp; done)), by repeat' (first|with_reducible (first|exact lowRefl _|apply lowSet|apply lowDrew|apply lowDrewN|apply lowAlloc)|(with_reducible refine lowCall ?_ (by assumption))|(show (_ : Nat) ≤ _;first|(simp;done)|(simp;omega)|omega))⟩, rfl⟩)
      · clear f1 f2 o; have hr1 := z1 (by omega); have hr2 := z2 (by omega); have hr3 := hr; clear z1 z2 z3
        go_upto_region 7 with fail
        have lc := BC.lt
        have l2 := B2.lt
        have l6 := B6.lt
        refine (fun (k : ∀ wn, Has wn bC #[.int .i64 X3, .int .i64 Y3] 148 → Has wn wm.heap.size #[.int .i64 0, .int .i64 0, .int .i64 0] 30 → Has wn b6 #[.int .i64 (u), .int .i64 (v), .int .i64 (t)] 30 → Has wn (w.heap.size + 1 + 1) #[.int .i64 0, .int .i64 0, .int .i64 0] 38 → Below w.heap.size w wn → Code.wp _ _ _ _ wn) => k _ ?_ ?_ ?_ ?_ ?_) ?_
        · (refine Has.as (by repeat' (first|with_reducible (first|assumption|apply J0|apply J1|apply J2|apply J3|apply J4|apply J5|apply J6|apply J7|apply J8|apply J9)|(with_reducible show _ ≠ _;first|omega|(simp;done)))) ?_; first | (with_reducible rfl) | (simp only [List.setIfInBounds_toArray, List.set_cons_zero, List.set_cons_succ]; first | done | rfl) | rfl | (simp; done))
        · (refine Has.as (by repeat' (first|with_reducible (first|assumption|apply J0|apply J1|apply J2|apply J3|apply J4|apply J5|apply J6|apply J7|apply J8|apply J9)|(with_reducible show _ ≠ _;first|omega|(simp;done)))) ?_; first | (with_reducible rfl) | (simp only [List.setIfInBounds_toArray, List.set_cons_zero, List.set_cons_succ]; first | done | rfl) | rfl | (simp; done))
        · (refine Has.as (by repeat' (first|with_reducible (first|assumption|apply J0|apply J1|apply J2|apply J3|apply J4|apply J5|apply J6|apply J7|apply J8|apply J9)|(with_reducible show _ ≠ _;first|omega|(simp;done)))) ?_; first | (with_reducible rfl) | (simp only [List.setIfInBounds_toArray, List.set_cons_zero, List.set_cons_succ]; first | done | rfl) | rfl | (simp; done))
        · (refine Has.as (by repeat' (first|with_reducible (first|assumption|apply J0|apply J1|apply J2|apply J3|apply J4|apply J5|apply J6|apply J7|apply J8|apply J9)|(with_reducible show _ ≠ _;first|omega|(simp;done)))) ?_; first | (with_reducible rfl) | (simp only [List.setIfInBounds_toArray, List.set_cons_zero, List.set_cons_succ]; first | done | rfl) | rfl | (simp; done))
        · have := hL.size; repeat' (first|with_reducible (first|exact lowRefl _|apply lowSet|apply lowDrew|apply lowDrewN|apply lowAlloc)|(with_reducible refine lowCall ?_ (by assumption))|(show (_ : Nat) ≤ _;first|(simp;done)|(simp;omega)|omega))
        have no : w.heap.size ≤ wm.heap.size := hL.size
        have nb : w.heap.size + 1 + 1 ≠ wm.heap.size := Nat.ne_of_lt l2
        have nc : ¬ wm.heap.size = w.heap.size + 1 + 1 := fun h => nb h.symm
        generalize wm.heap.size = bO at *
        clear C6 CC B2 B6 BC hL lc l2 l6
        clear wm
        intro wn BC BO B6 B2 hL
        have CC := Jc BC
        have CO := Jc BO
        have FO := Jf BO
        have C6 := Jc B6
        go_wp2; first | exact ⟨⟨3, by omega, rfl, fun _ => hr1, fun _ => hr2, fun _ => hr3, by (refine Has.as (by repeat' (first|with_reducible (first|assumption|apply J0|apply J1|apply J2|apply J3|apply J4|apply J5|apply J6|apply J7|apply J8|apply J9)|(with_reducible show _ ≠ _;first|omega|(simp;done)))) ?_; first | (with_reducible rfl) | (simp only [List.setIfInBounds_toArray, List.set_cons_zero, List.set_cons_succ]; first | done | rfl) | rfl | (simp; done)), by (refine Has.as (by repeat' (first|with_reducible (first|assumption|apply J0|apply J1|apply J2|apply J3|apply J4|apply J5|apply J6|apply J7|apply J8|apply J9)|(with_reducible show _ ≠ _;first|omega|(simp;done)))) ?_; first | (with_reducible rfl) | (simp only [List.setIfInBounds_toArray, List.set_cons_zero, List.set_cons_succ]; first | done | rfl) | rfl | (simp; done)), by repeat' (first|with_reducible (first|exact lowRefl _|apply lowSet|apply lowDrew|apply lowDrewN|apply lowAlloc)|(with_reducible refine lowCall ?_ (by assumption))|(show (_ : Nat) ≤ _;first|(simp;done)|(simp;omega)|omega))⟩, by simp [intOf]⟩ | (refine ⟨?_, by simp [intOf]⟩; (repeat apply Exists.intro); exact ⟨⟨3, by omega, rfl, fun _ => hr1, fun _ => hr2, fun _ => hr3, by (refine Has.as (by repeat' (first|with_reducible (first|assumption|apply J0|apply J1|apply J2|apply J3|apply J4|apply J5|apply J6|apply J7|apply J8|apply J9)|(with_reducible show _ ≠ _;first|omega|(simp;done)))) ?_; first | (with_reducible rfl) | (simp only [List.setIfInBounds_toArray, List.set_cons_zero, List.set_cons_succ]; first | done | rfl) | rfl | (simp; done)), by (refine Has.as (by repeat' (first|with_reducible (first|assumption|apply J0|apply J1|apply J2|apply J3|apply J4|apply J5|apply J6|apply J7|apply J8|apply J9)|(with_reducible show _ ≠ _;first|omega|(simp;done)))) ?_; first | (with_reducible rfl) | (simp only [List.setIfInBounds_toArray, List.set_cons_zero, List.set_cons_succ]; first | done | rfl) | rfl | (simp; done)), by repeat' (first|with_reducible (first|exact lowRefl _|apply lowSet|apply lowDrew|apply lowDrewN|apply lowAlloc)|(with_reducible refine lowCall ?_ (by assumption))|(show (_ : Nat) ≤ _;first|(simp;done)|(simp;omega)|omega))⟩, rfl⟩)
      · obtain ⟨rfl, rfl, rfl⟩ : X = 0 ∧ Y = 0 ∧ Z = -1 := by have hz := HZ.out; unfold OtE at o; omega
        clear f1 f2 o z1 z2 z3 HZ hr
        have hne : ¬ t = 0 := by omega
        subst hx
        go_upto_region 7 with fail
        have lc := BC.lt
        have l2 := B2.lt
        have l6 := B6.lt
        refine (fun (k : ∀ wn, Has wn bC #[.int .i64 n, .int .i64 Y3] 148 → Has wn wm.heap.size #[.int .i64 0, .int .i64 0, .int .i64 0] 30 → Has wn b6 #[.int .i64 (u), .int .i64 (v), .int .i64 (t)] 30 → Has wn (w.heap.size + 1 + 1) #[.int .i64 0, .int .i64 0, .int .i64 0] 38 → Below w.heap.size w wn → Code.wp _ _ _ _ wn) => k _ ?_ ?_ ?_ ?_ ?_) ?_
        · (refine Has.as (by repeat' (first|with_reducible (first|assumption|apply J0|apply J1|apply J2|apply J3|apply J4|apply J5|apply J6|apply J7|apply J8|apply J9)|(with_reducible show _ ≠ _;first|omega|(simp;done)))) ?_; first | (with_reducible rfl) | (simp only [List.setIfInBounds_toArray, List.set_cons_zero, List.set_cons_succ]; first | done | rfl) | rfl | (simp; done))
        · (refine Has.as (by repeat' (first|with_reducible (first|assumption|apply J0|apply J1|apply J2|apply J3|apply J4|apply J5|apply J6|apply J7|apply J8|apply J9)|(with_reducible show _ ≠ _;first|omega|(simp;done)))) ?_; first | (with_reducible rfl) | (simp only [List.setIfInBounds_toArray, List.set_cons_zero, List.set_cons_succ]; first | done | rfl) | rfl | (simp; done))
        · (refine Has.as (by repeat' (first|with_reducible (first|assumption|apply J0|apply J1|apply J2|apply J3|apply J4|apply J5|apply J6|apply J7|apply J8|apply J9)|(with_reducible show _ ≠ _;first|omega|(simp;done)))) ?_; first | (with_reducible rfl) | (simp only [List.setIfInBounds_toArray, List.set_cons_zero, List.set_cons_succ]; first | done | rfl) | rfl | (simp; done))
        · (refine Has.as (by repeat' (first|with_reducible (first|assumption|apply J0|apply J1|apply J2|apply J3|apply J4|apply J5|apply J6|apply J7|apply J8|apply J9)|(with_reducible show _ ≠ _;first|omega|(simp;done)))) ?_; first | (with_reducible rfl) | (simp only [List.setIfInBounds_toArray, List.set_cons_zero, List.set_cons_succ]; first | done | rfl) | rfl | (simp; done))
        · have := hL.size; repeat' (first|with_reducible (first|exact lowRefl _|apply lowSet|apply lowDrew|apply lowDrewN|apply lowAlloc)|(with_reducible refine lowCall ?_ (by assumption))|(show (_ : Nat) ≤ _;first|(simp;done)|(simp;omega)|omega))
        have no : w.heap.size ≤ wm.heap.size := hL.size
        have nb : w.heap.size + 1 + 1 ≠ wm.heap.size := Nat.ne_of_lt l2
        have nc : ¬ wm.heap.size = w.heap.size + 1 + 1 := fun h => nb h.symm
        generalize wm.heap.size = bO at *
        clear C6 CC B2 B6 BC hL lc l2 l6
        clear wm
        intro wn BC BO B6 B2 hL
        have CC := Jc BC
        have CO := Jc BO
        have FO := Jf BO
        have C6 := Jc B6
        go_wp2_with (go_at_call 137; (with_reducible refine (compare_any _ _ (-1) _ (.inl ⟨by omega, rfl⟩)).mono ?_); rintro e w' ⟨rfl, hbq⟩; have BO2 := BO.below hbq; have B22 := B2.below hbq; have CO2 := Jc BO2; have FO2 := Jf BO2; have C22 := Jc B22; have F22 := Jf B22; have hL2 := lowCall hL hbq)
        refine bodyPost_has (b := w.heap.size + 1 + 1) (T := 38) ?hB (fun wE hE => ?hres) rfl ⟨rfl, ?hlow⟩; (case hB => (refine Has.as (by repeat' (first|with_reducible (first|assumption|apply J0|apply J1|apply J2|apply J3|apply J4|apply J5|apply J6|apply J7|apply J8|apply J9)|(with_reducible show _ ≠ _;first|omega|(simp;done)))) ?_; first | (with_reducible rfl) | (simp only [List.setIfInBounds_toArray, List.set_cons_zero, List.set_cons_succ]; first | done | rfl) | rfl | (simp; done))); (case hres => have cE := Jc hE; simp only [results, Tryz.results81, go_sem]; simp [go_sem, cE]; done); (case hlow => repeat' (first|with_reducible (first|exact lowRefl _|apply lowSet|apply lowDrew|apply lowDrewN|apply lowAlloc)|(with_reducible refine lowCall ?_ (by assumption))|(show (_ : Nat) ≤ _;first|(simp;done)|(simp;omega)|omega)))
      · obtain ⟨rfl, rfl, rfl⟩ : X = 0 ∧ Y = 0 ∧ Z = 1 := by have hz := HZ.out; unfold OtE at o; omega
        clear f1 f2 o z1 z2 z3 HZ hr
        have hne : ¬ t = 0 := by omega
        subst hx
        go_upto_region 7 with fail
        have lc := BC.lt
        have l2 := B2.lt
        have l6 := B6.lt
        refine (fun (k : ∀ wn, Has wn bC #[.int .i64 n, .int .i64 Y3] 148 → Has wn wm.heap.size #[.int .i64 0, .int .i64 0, .int .i64 0] 30 → Has wn b6 #[.int .i64 (u), .int .i64 (v), .int .i64 (t)] 30 → Has wn (w.heap.size + 1 + 1) #[.int .i64 0, .int .i64 0, .int .i64 0] 38 → Below w.heap.size w wn → Code.wp _ _ _ _ wn) => k _ ?_ ?_ ?_ ?_ ?_) ?_
        · (refine Has.as (by repeat' (first|with_reducible (first|assumption|apply J0|apply J1|apply J2|apply J3|apply J4|apply J5|apply J6|apply J7|apply J8|apply J9)|(with_reducible show _ ≠ _;first|omega|(simp;done)))) ?_; first | (with_reducible rfl) | (simp only [List.setIfInBounds_toArray, List.set_cons_zero, List.set_cons_succ]; first | done | rfl) | rfl | (simp; done))
        · (refine Has.as (by repeat' (first|with_reducible (first|assumption|apply J0|apply J1|apply J2|apply J3|apply J4|apply J5|apply J6|apply J7|apply J8|apply J9)|(with_reducible show _ ≠ _;first|omega|(simp;done)))) ?_; first | (with_reducible rfl) | (simp only [List.setIfInBounds_toArray, List.set_cons_zero, List.set_cons_succ]; first | done | rfl) | rfl | (simp; done))
        · (refine Has.as (by repeat' (first|with_reducible (first|assumption|apply J0|apply J1|apply J2|apply J3|apply J4|apply J5|apply J6|apply J7|apply J8|apply J9)|(with_reducible show _ ≠ _;first|omega|(simp;done)))) ?_; first | (with_reducible rfl) | (simp only [List.setIfInBounds_toArray, List.set_cons_zero, List.set_cons_succ]; first | done | rfl) | rfl | (simp; done))
        · (refine Has.as (by repeat' (first|with_reducible (first|assumption|apply J0|apply J1|apply J2|apply J3|apply J4|apply J5|apply J6|apply J7|apply J8|apply J9)|(with_reducible show _ ≠ _;first|omega|(simp;done)))) ?_; first | (with_reducible rfl) | (simp only [List.setIfInBounds_toArray, List.set_cons_zero, List.set_cons_succ]; first | done | rfl) | rfl | (simp; done))
        · have := hL.size; repeat' (first|with_reducible (first|exact lowRefl _|apply lowSet|apply lowDrew|apply lowDrewN|apply lowAlloc)|(with_reducible refine lowCall ?_ (by assumption))|(show (_ : Nat) ≤ _;first|(simp;done)|(simp;omega)|omega))
        have no : w.heap.size ≤ wm.heap.size := hL.size
        have nb : w.heap.size + 1 + 1 ≠ wm.heap.size := Nat.ne_of_lt l2
        have nc : ¬ wm.heap.size = w.heap.size + 1 + 1 := fun h => nb h.symm
        generalize wm.heap.size = bO at *
        clear C6 CC B2 B6 BC hL lc l2 l6
        clear wm
        intro wn BC BO B6 B2 hL
        have CC := Jc BC
        have CO := Jc BO
        have FO := Jf BO
        have C6 := Jc B6
        go_wp2_with (go_at_call 137; (with_reducible refine (compare_any _ _ (1) _ (.inr (.inl ⟨by omega, rfl⟩))).mono ?_); rintro e w' ⟨rfl, hbq⟩; have BO2 := BO.below hbq; have B22 := B2.below hbq; have CO2 := Jc BO2; have FO2 := Jf BO2; have C22 := Jc B22; have F22 := Jf B22; have hL2 := lowCall hL hbq)
        refine bodyPost_has (b := w.heap.size + 1 + 1) (T := 38) ?hB (fun wE hE => ?hres) rfl ⟨rfl, ?hlow⟩; (case hB => (refine Has.as (by repeat' (first|with_reducible (first|assumption|apply J0|apply J1|apply J2|apply J3|apply J4|apply J5|apply J6|apply J7|apply J8|apply J9)|(with_reducible show _ ≠ _;first|omega|(simp;done)))) ?_; first | (with_reducible rfl) | (simp only [List.setIfInBounds_toArray, List.set_cons_zero, List.set_cons_succ]; first | done | rfl) | rfl | (simp; done))); (case hres => have cE := Jc hE; simp only [results, Tryz.results81, go_sem]; simp [go_sem, cE]; done); (case hlow => repeat' (first|with_reducible (first|exact lowRefl _|apply lowSet|apply lowDrew|apply lowDrewN|apply lowAlloc)|(with_reducible refine lowCall ?_ (by assumption))|(show (_ : Nat) ≤ _;first|(simp;done)|(simp;omega)|omega)))
      · obtain ⟨rfl, rfl, rfl⟩ : X = 0 ∧ Y = 0 ∧ Z = 1 := by have hz := HZ.out; unfold OtE at o; omega
        clear f1 f2 o z1 z2 z3 HZ hr
        have hne : ¬ t = 0 := by omega
        subst hy
        go_upto_region 7 with fail
        have lc := BC.lt
        have l2 := B2.lt
        have l6 := B6.lt
        refine (fun (k : ∀ wn, Has wn bC #[.int .i64 X3, .int .i64 n] 148 → Has wn wm.heap.size #[.int .i64 0, .int .i64 0, .int .i64 0] 30 → Has wn b6 #[.int .i64 (u), .int .i64 (v), .int .i64 (t)] 30 → Has wn (w.heap.size + 1 + 1) #[.int .i64 0, .int .i64 0, .int .i64 0] 38 → Below w.heap.size w wn → Code.wp _ _ _ _ wn) => k _ ?_ ?_ ?_ ?_ ?_) ?_
        · (refine Has.as (by repeat' (first|with_reducible (first|assumption|apply J0|apply J1|apply J2|apply J3|apply J4|apply J5|apply J6|apply J7|apply J8|apply J9)|(with_reducible show _ ≠ _;first|omega|(simp;done)))) ?_; first | (with_reducible rfl) | (simp only [List.setIfInBounds_toArray, List.set_cons_zero, List.set_cons_succ]; first | done | rfl) | rfl | (simp; done))
        · (refine Has.as (by repeat' (first|with_reducible (first|assumption|apply J0|apply J1|apply J2|apply J3|apply J4|apply J5|apply J6|apply J7|apply J8|apply J9)|(with_reducible show _ ≠ _;first|omega|(simp;done)))) ?_; first | (with_reducible rfl) | (simp only [List.setIfInBounds_toArray, List.set_cons_zero, List.set_cons_succ]; first | done | rfl) | rfl | (simp; done))
        · (refine Has.as (by repeat' (first|with_reducible (first|assumption|apply J0|apply J1|apply J2|apply J3|apply J4|apply J5|apply J6|apply J7|apply J8|apply J9)|(with_reducible show _ ≠ _;first|omega|(simp;done)))) ?_; first | (with_reducible rfl) | (simp only [List.setIfInBounds_toArray, List.set_cons_zero, List.set_cons_succ]; first | done | rfl) | rfl | (simp; done))
        · (refine Has.as (by repeat' (first|with_reducible (first|assumption|apply J0|apply J1|apply J2|apply J3|apply J4|apply J5|apply J6|apply J7|apply J8|apply J9)|(with_reducible show _ ≠ _;first|omega|(simp;done)))) ?_; first | (with_reducible rfl) | (simp only [List.setIfInBounds_toArray, List.set_cons_zero, List.set_cons_succ]; first | done | rfl) | rfl | (simp; done))
        · have := hL.size; repeat' (first|with_reducible (first|exact lowRefl _|apply lowSet|apply lowDrew|apply lowDrewN|apply lowAlloc)|(with_reducible refine lowCall ?_ (by assumption))|(show (_ : Nat) ≤ _;first|(simp;done)|(simp;omega)|omega))
        have no : w.heap.size ≤ wm.heap.size := hL.size
        have nb : w.heap.size + 1 + 1 ≠ wm.heap.size := Nat.ne_of_lt l2
        have nc : ¬ wm.heap.size = w.heap.size + 1 + 1 := fun h => nb h.symm
        generalize wm.heap.size = bO at *
        clear C6 CC B2 B6 BC hL lc l2 l6
        clear wm
        intro wn BC BO B6 B2 hL
        have CC := Jc BC
        have CO := Jc BO
        have FO := Jf BO
        have C6 := Jc B6
        go_wp2_with (go_at_call 137; (with_reducible refine (compare_any _ _ (1) _ (.inr (.inl ⟨by omega, rfl⟩))).mono ?_); rintro e w' ⟨rfl, hbq⟩; have BO2 := BO.below hbq; have B22 := B2.below hbq; have CO2 := Jc BO2; have FO2 := Jf BO2; have C22 := Jc B22; have F22 := Jf B22; have hL2 := lowCall hL hbq)
        refine bodyPost_has (b := w.heap.size + 1 + 1) (T := 38) ?hB (fun wE hE => ?hres) rfl ⟨rfl, ?hlow⟩; (case hB => (refine Has.as (by repeat' (first|with_reducible (first|assumption|apply J0|apply J1|apply J2|apply J3|apply J4|apply J5|apply J6|apply J7|apply J8|apply J9)|(with_reducible show _ ≠ _;first|omega|(simp;done)))) ?_; first | (with_reducible rfl) | (simp only [List.setIfInBounds_toArray, List.set_cons_zero, List.set_cons_succ]; first | done | rfl) | rfl | (simp; done))); (case hres => have cE := Jc hE; simp only [results, Tryz.results81, go_sem]; simp [go_sem, cE]; done); (case hlow => repeat' (first|with_reducible (first|exact lowRefl _|apply lowSet|apply lowDrew|apply lowDrewN|apply lowAlloc)|(with_reducible refine lowCall ?_ (by assumption))|(show (_ : Nat) ≤ _;first|(simp;done)|(simp;omega)|omega)))
      · obtain ⟨rfl, rfl, rfl⟩ : X = 0 ∧ Y = 0 ∧ Z = -1 := by have hz := HZ.out; unfold OtE at o; omega
        clear f1 f2 o z1 z2 z3 HZ hr
        have hne : ¬ t = 0 := by omega
        subst hy
        go_upto_region 7 with fail
        have lc := BC.lt
        have l2 := B2.lt
        have l6 := B6.lt
        refine (fun (k : ∀ wn, Has wn bC #[.int .i64 X3, .int .i64 n] 148 → Has wn wm.heap.size #[.int .i64 0, .int .i64 0, .int .i64 0] 30 → Has wn b6 #[.int .i64 (u), .int .i64 (v), .int .i64 (t)] 30 → Has wn (w.heap.size + 1 + 1) #[.int .i64 0, .int .i64 0, .int .i64 0] 38 → Below w.heap.size w wn → Code.wp _ _ _ _ wn) => k _ ?_ ?_ ?_ ?_ ?_) ?_
        · (refine Has.as (by repeat' (first|with_reducible (first|assumption|apply J0|apply J1|apply J2|apply J3|apply J4|apply J5|apply J6|apply J7|apply J8|apply J9)|(with_reducible show _ ≠ _;first|omega|(simp;done)))) ?_; first | (with_reducible rfl) | (simp only [List.setIfInBounds_toArray, List.set_cons_zero, List.set_cons_succ]; first | done | rfl) | rfl | (simp; done))
        · (refine Has.as (by repeat' (first|with_reducible (first|assumption|apply J0|apply J1|apply J2|apply J3|apply J4|apply J5|apply J6|apply J7|apply J8|apply J9)|(with_reducible show _ ≠ _;first|omega|(simp;done)))) ?_; first | (with_reducible rfl) | (simp only [List.setIfInBounds_toArray, List.set_cons_zero, List.set_cons_succ]; first | done | rfl) | rfl | (simp; done))
        · (refine Has.as (by repeat' (first|with_reducible (first|assumption|apply J0|apply J1|apply J2|apply J3|apply J4|apply J5|apply J6|apply J7|apply J8|apply J9)|(with_reducible show _ ≠ _;first|omega|(simp;done)))) ?_; first | (with_reducible rfl) | (simp only [List.setIfInBounds_toArray, List.set_cons_zero, List.set_cons_succ]; first | done | rfl) | rfl | (simp; done))
        · (refine Has.as (by repeat' (first|with_reducible (first|assumption|apply J0|apply J1|apply J2|apply J3|apply J4|apply J5|apply J6|apply J7|apply J8|apply J9)|(with_reducible show _ ≠ _;first|omega|(simp;done)))) ?_; first | (with_reducible rfl) | (simp only [List.setIfInBounds_toArray, List.set_cons_zero, List.set_cons_succ]; first | done | rfl) | rfl | (simp; done))
        · have := hL.size; repeat' (first|with_reducible (first|exact lowRefl _|apply lowSet|apply lowDrew|apply lowDrewN|apply lowAlloc)|(with_reducible refine lowCall ?_ (by assumption))|(show (_ : Nat) ≤ _;first|(simp;done)|(simp;omega)|omega))
        have no : w.heap.size ≤ wm.heap.size := hL.size
        have nb : w.heap.size + 1 + 1 ≠ wm.heap.size := Nat.ne_of_lt l2
        have nc : ¬ wm.heap.size = w.heap.size + 1 + 1 := fun h => nb h.symm
        generalize wm.heap.size = bO at *
        clear C6 CC B2 B6 BC hL lc l2 l6
        clear wm
        intro wn BC BO B6 B2 hL
        have CC := Jc BC
        have CO := Jc BO
        have FO := Jf BO
        have C6 := Jc B6
        go_wp2_with (go_at_call 137; (with_reducible refine (compare_any _ _ (-1) _ (.inl ⟨by omega, rfl⟩)).mono ?_); rintro e w' ⟨rfl, hbq⟩; have BO2 := BO.below hbq; have B22 := B2.below hbq; have CO2 := Jc BO2; have FO2 := Jf BO2; have C22 := Jc B22; have F22 := Jf B22; have hL2 := lowCall hL hbq)
        refine bodyPost_has (b := w.heap.size + 1 + 1) (T := 38) ?hB (fun wE hE => ?hres) rfl ⟨rfl, ?hlow⟩; (case hB => (refine Has.as (by repeat' (first|with_reducible (first|assumption|apply J0|apply J1|apply J2|apply J3|apply J4|apply J5|apply J6|apply J7|apply J8|apply J9)|(with_reducible show _ ≠ _;first|omega|(simp;done)))) ?_; first | (with_reducible rfl) | (simp only [List.setIfInBounds_toArray, List.set_cons_zero, List.set_cons_succ]; first | done | rfl) | rfl | (simp; done))); (case hres => have cE := Jc hE; simp only [results, Tryz.results81, go_sem]; simp [go_sem, cE]; done); (case hlow => repeat' (first|with_reducible (first|exact lowRefl _|apply lowSet|apply lowDrew|apply lowDrewN|apply lowAlloc)|(with_reducible refine lowCall ?_ (by assumption))|(show (_ : Nat) ≤ _;first|(simp;done)|(simp;omega)|omega)))
    · obtain ⟨rfl, rfl, rfl⟩ : X = 0 ∧ Y = 0 ∧ Z = 0 := by have e1 := z1 (by omega); have e2 := z2 (by omega); have e3 := z3 (by omega); unfold OtE at o; omega
      clear f1 f2 f3 o
      have C2 := Jc B2
      have F2 := Jf B2
      go_wp2
      refine bodyPost_has (b := w.heap.size + 1 + 1) (T := 38) ?hB (fun wE hE => ?hres) rfl ⟨rfl, ?hlow⟩; (case hB => (refine Has.as (by repeat' (first|with_reducible (first|assumption|apply J0|apply J1|apply J2|apply J3|apply J4|apply J5|apply J6|apply J7|apply J8|apply J9)|(with_reducible show _ ≠ _;first|omega|(simp;done)))) ?_; first | (with_reducible rfl) | (simp only [List.setIfInBounds_toArray, List.set_cons_zero, List.set_cons_succ]; first | done | rfl) | rfl | (simp; done))); (case hres => have cE := Jc hE; simp only [results, Tryz.results81, go_sem]; simp [go_sem, cE]; done); (case hlow => repeat' (first|with_reducible (first|exact lowRefl _|apply lowSet|apply lowDrew|apply lowDrewN|apply lowAlloc)|(with_reducible refine lowCall ?_ (by assumption))|(show (_ : Nat) ≤ _;first|(simp;done)|(simp;omega)|omega)))
end Go.Proofs.YtegibpepdndocabGreat
