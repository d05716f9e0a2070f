import Derived.Test.YtegibpepdndocabGreatVeck
namespace Go.Proofs.YtegibpepdndocabGreat
open Has renaming new → J0, new1 → J1, new2 → J2, new3 → J3, new4 → J4, drew → J5, drewN → J6, alloc → J7, same → J8, other → J9, cell → Jc, frozen → Jf, below → Jb
open Go.ChangeShapes Go.WideShapes Go.ChangeAt Go.RowKit

theorem vec_eq {a b c x y z : Int} (h1 : a = x) (h2 : b = y) (h3 : c = z) : Ending.returned (.agg #[.int .i64 (a), .int .i64 (b), .int .i64 (c)]) = .returned (.agg #[.int .i64 (x), .int .i64 (y), .int .i64 (z)]) := by rw [h1, h2, h3]
theorem mulb (a x m : Int) (h1 : -m ≤ a) (h2 : a ≤ m) (h3 : -m ≤ x) (h4 : x ≤ m) : -(m * m) ≤ a * x ∧ a * x ≤ m * m := by
  have e1 := Int.mul_nonneg (show 0 ≤ m - a by omega) (show 0 ≤ m - x by omega)
  have e2 := Int.mul_nonneg (show 0 ≤ m + a by omega) (show 0 ≤ m + x by omega)
  have e3 := Int.mul_nonneg (show 0 ≤ m - a by omega) (show 0 ≤ m + x by omega)
  have e4 := Int.mul_nonneg (show 0 ≤ m + a by omega) (show 0 ≤ m - x by omega)
  simp only [Int.sub_mul, Int.mul_sub, Int.add_mul, Int.mul_add] at e1 e2 e3 e4
  have e5 := Int.mul_comm a m
  have e6 := Int.mul_comm x m
  constructor <;> omega
theorem mulb20 (a x : Int) (h1 : -1048576 ≤ a) (h2 : a ≤ 1048576) (h3 : -1048576 ≤ x) (h4 : x ≤ 1048576) : -1099511627776 ≤ a * x ∧ a * x ≤ 1099511627776 := mulb a x 1048576 h1 h2 h3 h4
/- the bounds of nine products -/
theorem vokProd (a b c x y z : Int) (h : Vok a b c 1048576) (k : Vok x y z 1048576) :
    (-1099511627776 ≤ a * x ∧ a * x ≤ 1099511627776 ∧ -1099511627776 ≤ b * y ∧ b * y ≤ 1099511627776 ∧ -1099511627776 ≤ c * z ∧ c * z ≤ 1099511627776) ∧
    (-1099511627776 ≤ b * z ∧ b * z ≤ 1099511627776 ∧ -1099511627776 ≤ c * y ∧ c * y ≤ 1099511627776 ∧ -1099511627776 ≤ c * x ∧ c * x ≤ 1099511627776 ∧ -1099511627776 ≤ a * z ∧ a * z ≤ 1099511627776 ∧ -1099511627776 ≤ a * y ∧ a * y ≤ 1099511627776 ∧ -1099511627776 ≤ b * x ∧ b * x ≤ 1099511627776) := by
  obtain ⟨a1, a2, a3, a4, a5, a6⟩ := h
  obtain ⟨k1, k2, k3, k4, k5, k6⟩ := k
  have p1 := mulb20 a x a1 a2 k1 k2
  have p2 := mulb20 b y a3 a4 k3 k4
  have p3 := mulb20 c z a5 a6 k5 k6
  have p4 := mulb20 b z a3 a4 k5 k6
  have p5 := mulb20 c y a5 a6 k3 k4
  have p6 := mulb20 c x a5 a6 k1 k2
  have p7 := mulb20 a z a1 a2 k5 k6
  have p8 := mulb20 a y a1 a2 k3 k4
  have p9 := mulb20 b x a3 a4 k1 k2
  exact ⟨⟨p1.1, p1.2, p2.1, p2.2, p3.1, p3.2⟩, ⟨p4.1, p4.2, p5.1, p5.2, p6.1, p6.2, p7.1, p7.2, p8.1, p8.2, p9.1, p9.2⟩⟩

theorem isumOf_any (a b c x y z : Int) (w : World) (h : Vok a b c 1152921504606846976) (k : Vok x y z 1152921504606846976) :
    Calls Tryz.prog 135 #[.agg #[.int .i64 (a), .int .i64 (b), .int .i64 (c)], .agg #[.int .i64 (x), .int .i64 (y), .int .i64 (z)]] w fun e w' => e = .returned (.agg #[.int .i64 (a + x), .int .i64 (b + y), .int .i64 (c + z)]) ∧ Below w.heap.size w w' := by
  obtain ⟨a1, a2, a3, a4, a5, a6⟩ := h
  obtain ⟨k1, k2, k3, k4, k5, k6⟩ := k
  go_enter Tryz.func135, Tryz.ntmps135
  go_wp2
  refine bodyPost_ret (v := .agg #[.int .i64 (a + x), .int .i64 (b + y), .int .i64 (c + z)]) (by simp [results, Tryz.results135, go_sem]) rfl ⟨vec_eq (by first | rfl | omega) (by first | rfl | omega) (by first | rfl | omega), ?_⟩; (repeat' (first|with_reducible (first|exact lowRefl _|apply lowSet|apply lowDrew|apply lowDrewN|apply lowAlloc)|(with_reducible refine lowCall ?_ (by assumption))|(show (_ : Nat) ≤ _;first|(simp;done)|(simp;omega)|omega)))
theorem l2Plus_any (a b c x y z : Int) (w : World) (h : Vok a b c 1152921504606846976) (k : Vok x y z 1152921504606846976) :
    Calls Tryz.prog 155 #[.agg #[.int .i64 (a), .int .i64 (b), .int .i64 (c)], .agg #[.int .i64 (x), .int .i64 (y), .int .i64 (z)]] w fun e w' => e = .returned (.agg #[.int .i64 (a + x), .int .i64 (b + y), .int .i64 (c + z)]) ∧ Below w.heap.size w w' := by
  obtain ⟨a1, a2, a3, a4, a5, a6⟩ := h
  obtain ⟨k1, k2, k3, k4, k5, k6⟩ := k
  go_enter Tryz.func155, Tryz.ntmps155
  go_wp2
  refine bodyPost_ret (v := .agg #[.int .i64 (a + x), .int .i64 (b + y), .int .i64 (c + z)]) (by simp [results, Tryz.results155, go_sem]) rfl ⟨vec_eq (by first | rfl | omega) (by first | rfl | omega) (by first | rfl | omega), ?_⟩; (repeat' (first|with_reducible (first|exact lowRefl _|apply lowSet|apply lowDrew|apply lowDrewN|apply lowAlloc)|(with_reducible refine lowCall ?_ (by assumption))|(show (_ : Nat) ≤ _;first|(simp;done)|(simp;omega)|omega)))
theorem l2Times_any (x y z n : Int) (w : World) (h : Vok x y z 1048576) (k1 : -1048576 ≤ n) (k2 : n ≤ 1048576) :
    Calls Tryz.prog 156 #[.agg #[.int .i64 (x), .int .i64 (y), .int .i64 (z)], .int .i64 n] w fun e w' => e = .returned (.agg #[.int .i64 (x * n), .int .i64 (y * n), .int .i64 (z * n)]) ∧ Below w.heap.size w w' := by
  obtain ⟨a1, a2, a3, a4, a5, a6⟩ := h
  have ⟨p1, p2⟩ := mulb20 x n a1 a2 k1 k2
  have ⟨p3, p4⟩ := mulb20 y n a3 a4 k1 k2
  have ⟨p5, p6⟩ := mulb20 z n a5 a6 k1 k2
  go_enter Tryz.func156, Tryz.ntmps156
  go_wp2
  refine bodyPost_ret (v := .agg #[.int .i64 (x * n), .int .i64 (y * n), .int .i64 (z * n)]) (by simp [results, Tryz.results156, go_sem]) rfl ⟨vec_eq (by first | rfl | omega) (by first | rfl | omega) (by first | rfl | omega), ?_⟩; (repeat' (first|with_reducible (first|exact lowRefl _|apply lowSet|apply lowDrew|apply lowDrewN|apply lowAlloc)|(with_reducible refine lowCall ?_ (by assumption))|(show (_ : Nat) ≤ _;first|(simp;done)|(simp;omega)|omega)))
theorem l2Dot_any (a b c x y z : Int) (w : World) (h : Vok a b c 1048576) (k : Vok x y z 1048576) :
    Calls Tryz.prog 199 #[.agg #[.int .i64 (a), .int .i64 (b), .int .i64 (c)], .agg #[.int .i64 (x), .int .i64 (y), .int .i64 (z)]] w fun e w' => e = .returned (.int .i64 (a * x + b * y + c * z)) ∧ Below w.heap.size w w' := by
  have ⟨⟨p1, p2, p3, p4, p5, p6⟩, _⟩ := vokProd a b c x y z h k
  clear h k
  go_enter Tryz.func199, Tryz.ntmps199
  go_wp2
  go_ret; refine ⟨rfl, ?_⟩; (repeat' (first|with_reducible (first|exact lowRefl _|apply lowSet|apply lowDrew|apply lowDrewN|apply lowAlloc)|(with_reducible refine lowCall ?_ (by assumption))|(show (_ : Nat) ≤ _;first|(simp;done)|(simp;omega)|omega)))

/- the program's -/
theorem iPlus_yes (a b c x y z : Int) (w : World) (h : Vok a b c 1048576) (k : Vok x y z 1048576) :
    Calls Tryz.prog 114 #[.agg #[.int .i64 (a), .int .i64 (b), .int .i64 (c)], .agg #[.int .i64 (x), .int .i64 (y), .int .i64 (z)]] w fun e w' => e = .returned (.agg #[.int .i64 (a + x), .int .i64 (b + y), .int .i64 (c + z)]) ∧ Below w.heap.size w w' := by
  have h' : Vok a b c 1152921504606846976 := by unfold Vok at *; omega
  have k' : Vok x y z 1152921504606846976 := by unfold Vok at *; omega
  have H := Lib.hid h
  have K := Lib.hid k
  have H' := Lib.hid h'
  have K' := Lib.hid k'
  clear h k h' k'
  go_enter Tryz.func114, Tryz.ntmps114
  go_wp2_with (first | (go_at_call 126; ((with_reducible refine (ibothOk_yes _ _ _ _ _ _ _ _ (by omega) (by omega) H.out K.out).mono ?_); rintro e w' ⟨rfl, hbq⟩; (try (have B0 := Jb (b := w.heap.size) (by repeat' (first|with_reducible (first|assumption|apply J0|apply J1|apply J2|apply J3|apply J4|apply J5|apply J6|apply J7|apply J8|apply J9)|(with_reducible show _ ≠ _;first|omega|(simp;done)))) hbq; have C0 := Jc B0; have F0 := Jf B0)); (try (have B1 := Jb (b := w.heap.size + 1) (by repeat' (first|with_reducible (first|assumption|apply J0|apply J1|apply J2|apply J3|apply J4|apply J5|apply J6|apply J7|apply J8|apply J9)|(with_reducible show _ ≠ _;first|omega|(simp;done)))) hbq; have C1 := Jc B1; have F1 := Jf B1)); (try (have B2 := Jb (b := w.heap.size + 1 + 1) (by repeat' (first|with_reducible (first|assumption|apply J0|apply J1|apply J2|apply J3|apply J4|apply J5|apply J6|apply J7|apply J8|apply J9)|(with_reducible show _ ≠ _;first|omega|(simp;done)))) hbq; have C2 := Jc B2; have F2 := Jf B2)))) | (go_at_call 135; ((with_reducible refine (isumOf_any _ _ _ _ _ _ _ H'.out K'.out).mono ?_); rintro e w' ⟨rfl, hbq⟩; (try (have B0 := Jb (b := w.heap.size) (by repeat' (first|with_reducible (first|assumption|apply J0|apply J1|apply J2|apply J3|apply J4|apply J5|apply J6|apply J7|apply J8|apply J9)|(with_reducible show _ ≠ _;first|omega|(simp;done)))) hbq; have C0 := Jc B0; have F0 := Jf B0)); (try (have B1 := Jb (b := w.heap.size + 1) (by repeat' (first|with_reducible (first|assumption|apply J0|apply J1|apply J2|apply J3|apply J4|apply J5|apply J6|apply J7|apply J8|apply J9)|(with_reducible show _ ≠ _;first|omega|(simp;done)))) hbq; have C1 := Jc B1; have F1 := Jf B1)); (try (have B2 := Jb (b := w.heap.size + 1 + 1) (by repeat' (first|with_reducible (first|assumption|apply J0|apply J1|apply J2|apply J3|apply J4|apply J5|apply J6|apply J7|apply J8|apply J9)|(with_reducible show _ ≠ _;first|omega|(simp;done)))) hbq; have C2 := Jc B2; have F2 := Jf B2)))))
  refine bodyPost_ret (v := .agg #[.int .i64 (a + x), .int .i64 (b + y), .int .i64 (c + z)]) (by simp [results, Tryz.results114, go_sem, *]) rfl ⟨vec_eq (by first | rfl | omega) (by first | rfl | omega) (by first | rfl | omega), ?_⟩; (repeat' (first|with_reducible (first|exact lowRefl _|apply lowSet|apply lowDrew|apply lowDrewN|apply lowAlloc)|(with_reducible refine lowCall ?_ (by assumption))|(show (_ : Nat) ≤ _;first|(simp;done)|(simp;omega)|omega)))
theorem iMinus_yes (a b c x y z : Int) (w : World) (h : Vok a b c 1048576) (k : Vok x y z 1048576) :
    Calls Tryz.prog 133 #[.agg #[.int .i64 (a), .int .i64 (b), .int .i64 (c)], .agg #[.int .i64 (x), .int .i64 (y), .int .i64 (z)]] w fun e w' => e = .returned (.agg #[.int .i64 (a - x), .int .i64 (b - y), .int .i64 (c - z)]) ∧ Below w.heap.size w w' := by
  have H := Lib.hid h
  have K := Lib.hid k
  obtain ⟨a1, a2, a3, a4, a5, a6⟩ := h
  obtain ⟨k1, k2, k3, k4, k5, k6⟩ := k
  go_enter Tryz.func133, Tryz.ntmps133
  go_wp2_with ((go_at_call 126; ((with_reducible refine (ibothOk_yes _ _ _ _ _ _ _ _ (by omega) (by omega) H.out K.out).mono ?_); rintro e w' ⟨rfl, hbq⟩; (try (have B0 := Jb (b := w.heap.size) (by repeat' (first|with_reducible (first|assumption|apply J0|apply J1|apply J2|apply J3|apply J4|apply J5|apply J6|apply J7|apply J8|apply J9)|(with_reducible show _ ≠ _;first|omega|(simp;done)))) hbq; have C0 := Jc B0; have F0 := Jf B0)); (try (have B1 := Jb (b := w.heap.size + 1) (by repeat' (first|with_reducible (first|assumption|apply J0|apply J1|apply J2|apply J3|apply J4|apply J5|apply J6|apply J7|apply J8|apply J9)|(with_reducible show _ ≠ _;first|omega|(simp;done)))) hbq; have C1 := Jc B1; have F1 := Jf B1)); (try (have B2 := Jb (b := w.heap.size + 1 + 1) (by repeat' (first|with_reducible (first|assumption|apply J0|apply J1|apply J2|apply J3|apply J4|apply J5|apply J6|apply J7|apply J8|apply J9)|(with_reducible show _ ≠ _;first|omega|(simp;done)))) hbq; have C2 := Jc B2; have F2 := Jf B2)))))
  refine bodyPost_ret (v := .agg #[.int .i64 (a - x), .int .i64 (b - y), .int .i64 (c - z)]) (by simp [results, Tryz.results133, go_sem, *]) rfl ⟨vec_eq (by first | rfl | omega) (by first | rfl | omega) (by first | rfl | omega), ?_⟩; (repeat' (first|with_reducible (first|exact lowRefl _|apply lowSet|apply lowDrew|apply lowDrewN|apply lowAlloc)|(with_reducible refine lowCall ?_ (by assumption))|(show (_ : Nat) ≤ _;first|(simp;done)|(simp;omega)|omega)))
theorem iDot_yes (a b c x y z : Int) (w : World) (h : Vok a b c 1048576) (k : Vok x y z 1048576) :
    Calls Tryz.prog 65 #[.agg #[.int .i64 (a), .int .i64 (b), .int .i64 (c)], .agg #[.int .i64 (x), .int .i64 (y), .int .i64 (z)]] w fun e w' => e = .returned (.int .i64 (a * x + b * y + c * z)) ∧ Below w.heap.size w w' := by
  have ⟨⟨p1, p2, p3, p4, p5, p6⟩, _⟩ := vokProd a b c x y z h k
  have H := Lib.hid h
  have K := Lib.hid k
  clear h k
  go_enter Tryz.func65, Tryz.ntmps65
  go_wp2_with ((go_at_call 126; ((with_reducible refine (ibothOk_yes _ _ _ _ _ _ _ _ (by omega) (by omega) H.out K.out).mono ?_); rintro e w' ⟨rfl, hbq⟩; (try (have B0 := Jb (b := w.heap.size) (by repeat' (first|with_reducible (first|assumption|apply J0|apply J1|apply J2|apply J3|apply J4|apply J5|apply J6|apply J7|apply J8|apply J9)|(with_reducible show _ ≠ _;first|omega|(simp;done)))) hbq; have C0 := Jc B0; have F0 := Jf B0)); (try (have B1 := Jb (b := w.heap.size + 1) (by repeat' (first|with_reducible (first|assumption|apply J0|apply J1|apply J2|apply J3|apply J4|apply J5|apply J6|apply J7|apply J8|apply J9)|(with_reducible show _ ≠ _;first|omega|(simp;done)))) hbq; have C1 := Jc B1; have F1 := Jf B1)); (try (have B2 := Jb (b := w.heap.size + 1 + 1) (by repeat' (first|with_reducible (first|assumption|apply J0|apply J1|apply J2|apply J3|apply J4|apply J5|apply J6|apply J7|apply J8|apply J9)|(with_reducible show _ ≠ _;first|omega|(simp;done)))) hbq; have C2 := Jc B2; have F2 := Jf B2)))))
  go_ret; refine ⟨rfl, ?_⟩; (repeat' (first|with_reducible (first|exact lowRefl _|apply lowSet|apply lowDrew|apply lowDrewN|apply lowAlloc)|(with_reducible refine lowCall ?_ (by assumption))|(show (_ : Nat) ≤ _;first|(simp;done)|(simp;omega)|omega)))
def Tok (x y z n : Int) : Prop := Vok x y z 1048576 ∧ -1048576 ≤ n ∧ n ≤ 1048576
theorem iTimes_yes (x y z n : Int) (w : World) (h : Tok x y z n) :
    Calls Tryz.prog 132 #[.agg #[.int .i64 (x), .int .i64 (y), .int .i64 (z)], .int .i64 n] w fun e w' => e = .returned (.agg #[.int .i64 (x * n), .int .i64 (y * n), .int .i64 (z * n)]) ∧ Below w.heap.size w w' := by
  obtain ⟨h, k1, k2⟩ := h
  have H := Lib.hid h
  obtain ⟨a1, a2, a3, a4, a5, a6⟩ := h
  have ⟨p1, p2⟩ := mulb20 x n a1 a2 k1 k2
  have ⟨p3, p4⟩ := mulb20 y n a3 a4 k1 k2
  have ⟨p5, p6⟩ := mulb20 z n a5 a6 k1 k2
  go_enter Tryz.func132, Tryz.ntmps132
  go_wp2_with (first | (go_at_call 53; ((with_reducible refine (ivecOk_yes _ _ _ _ _ (by omega) (by omega) H.out).mono ?_); rintro e w' ⟨rfl, hbq⟩; (try (have B0 := Jb (b := w.heap.size) (by repeat' (first|with_reducible (first|assumption|apply J0|apply J1|apply J2|apply J3|apply J4|apply J5|apply J6|apply J7|apply J8|apply J9)|(with_reducible show _ ≠ _;first|omega|(simp;done)))) hbq; have C0 := Jc B0; have F0 := Jf B0)); (try (have B1 := Jb (b := w.heap.size + 1) (by repeat' (first|with_reducible (first|assumption|apply J0|apply J1|apply J2|apply J3|apply J4|apply J5|apply J6|apply J7|apply J8|apply J9)|(with_reducible show _ ≠ _;first|omega|(simp;done)))) hbq; have C1 := Jc B1; have F1 := Jf B1)); (try (have B2 := Jb (b := w.heap.size + 1 + 1) (by repeat' (first|with_reducible (first|assumption|apply J0|apply J1|apply J2|apply J3|apply J4|apply J5|apply J6|apply J7|apply J8|apply J9)|(with_reducible show _ ≠ _;first|omega|(simp;done)))) hbq; have C2 := Jc B2; have F2 := Jf B2)))) | (go_at_call 79; ((with_reducible refine (within_yes _ _ _ _ (by omega) (by omega)).mono ?_); rintro e w' ⟨rfl, rfl⟩)))
  refine bodyPost_ret (v := .agg #[.int .i64 (x * n), .int .i64 (y * n), .int .i64 (z * n)]) (by simp [results, Tryz.results132, go_sem, *]) rfl ⟨vec_eq (by first | rfl | omega) (by first | rfl | omega) (by first | rfl | omega), ?_⟩; (repeat' (first|with_reducible (first|exact lowRefl _|apply lowSet|apply lowDrew|apply lowDrewN|apply lowAlloc)|(with_reducible refine lowCall ?_ (by assumption))|(show (_ : Nat) ≤ _;first|(simp;done)|(simp;omega)|omega)))
end Go.Proofs.YtegibpepdndocabGreat
