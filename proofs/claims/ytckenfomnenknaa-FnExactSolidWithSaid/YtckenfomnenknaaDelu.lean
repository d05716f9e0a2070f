import Derived.Maps.AppendAt
import Derived.Test.YtckenfomnenknaaPmku
import Derived.Test.YtckenfomnenknaaSoku
section
namespace Go.Proofs.Ytckenfomnenknaa
open Go.ChangeShapes Go.WideShapes Go.ChangeAt Go.RowKit
set_option linter.unusedSimpArgs false
set_option linter.unusedVariables false
set_option maxHeartbeats 4000000

attribute [local go_sem] VGo_value VGo_skip VGo_enter
theorem apartP {w w' : World} {B n n' s s' : Nat} {e e' : TypeId} {v x : Value} {xs ys : List Value} (h : w.ownsRow B e s v n xs) (k : w'.ownsRow w.heap.size e' s' x n' ys) :
    (v.ownBlock = none ∨ v.ownBlock ≠ x.ownBlock) ∧ (x.ownBlock = none ∨ x.ownBlock ≠ v.ownBlock) := by
  have h1 := h.lt
  have h2 := k.lt
  cases hv : v.ownBlock with
  | none => exact ⟨.inl rfl, by cases x.ownBlock <;> simp⟩
  | some g =>
    cases hx : x.ownBlock with
    | none => exact ⟨.inr (by simp), .inl rfl⟩
    | some g' =>
      have a := (h1 g hv).2
      have b := (h2 g' hx).1
      exact ⟨.inr (by simp; omega), .inr (by simp; omega)⟩
/- an argument of the law stays as it was where a row that was made since is written -/
theorem PIn.grownLow {w a b : World} {v x : Value} {l : List Pt} {row : Option Nat} (h : PIn w v l) (hb : Below w.heap.size w a) (hg : a.grownBy b row) {B n s : Nat} {e : TypeId} {ys : List Value} (hB : w.heap.size ≤ B) (k : a.ownsRow B e s x n ys) (hrow : row = x.ownBlock := by rfl) : PIn b v l := by
  subst hrow
  exact h.below (hb.grown hg hb.size (fun g hgx => Nat.le_trans hB (k.lt g hgx).1))
theorem pms_get (K : Int) (n k : Nat) (h : k < (pms K n).length) : (pms K n)[k] = pm (K + 27 * k) := by simp [pms]
set_option maxRecDepth 100000 in
theorem heldPartS_any (n : Nat) (v : Value) (K : Int) (w : World) (h0 : 0 ≤ K) (hl : K + 27 * n ≤ 9223372036854775807) (hA : PIn w v (pms K n)) :
    Calls Try.prog 40 #[v, .int .i64 K] w fun e w' => e = .returned (.int .i64 (K + 27 * n)) ∧ w = w' := by
  obtain ⟨A, c, rfl, fA⟩ := hA
  have FA2 : Hid (0 < n → ∃ b off, A = some ⟨b, off, none⟩ ∧ ∀ i, i < n → Pat w b (off + i * 27) (pm (K + 27 * i))) := Lib.hid fun h => by
    obtain ⟨b, off, hA, hf⟩ := fA (by rw [pms_len]; exact h)
    refine ⟨b, off, hA, fun i hi => ?_⟩
    have := hf i (by rw [pms_len]; exact hi)
    rwa [pms_get] at this
  clear fA
  rw [pms_len]
  go_enter Try.func40, Try.ntmps40
  go_wp2
  go_loop [1, 5] (fun k i => ∃ j : Nat, j ≤ n ∧ i = .int .i64 j ∧ k = .int .i64 (K + 27 * j)) (fun _ i => n - (intOf i).toNat)
  case atStart => exact ⟨0, by omega, rfl, by simp⟩
  case round =>
    obtain ⟨j, hj, rfl, rfl⟩ := hrel
    by_cases hc : j < n
    · obtain ⟨b, off, rfl, hf⟩ := FA2.out (by omega)
      have HP := Lib.hid (hf j hc)
      clear hf
      have hK1 : 0 ≤ K + 27 * (j : Int) := by omega
      have hK2 : K + 27 * (j : Int) + 27 ≤ 9223372036854775807 := by omega
      generalize hkj : K + 27 * (j : Int) = kj at HP hK1 hK2 ⊢
      have HKJ := Lib.hid hkj
      have hlb : (n : Int) ≤ 400000000000000000 := by omega
      clear hkj h0 hl FA2
      have q0 : w.cell? ⟨b, off + j * 27, none⟩ = some (.int .i64 kj) := HP.out 0 _ rfl
      go_upto_region 7 with fail
      clear q0
      have q1 : w.cell? ⟨b, off + j * 27 + 1, none⟩ = some (.int .i64 (kj + 1)) := HP.out 1 _ rfl
      go_upto_region 10 with fail
      clear q1
      rw [show kj + 1 + 1 = kj + 2 by omega]
      have q2 : w.cell? ⟨b, off + j * 27 + 2, none⟩ = some (.int .i64 (kj + 2)) := HP.out 2 _ rfl
      go_upto_region 13 with fail
      clear q2
      rw [show kj + 2 + 1 = kj + 3 by omega]
      have q3 : w.cell? ⟨b, off + j * 27 + 3, none⟩ = some (.int .i64 (kj + 3)) := HP.out 3 _ rfl
      go_upto_region 16 with fail
      clear q3
      rw [show kj + 3 + 1 = kj + 4 by omega]
      have q4 : w.cell? ⟨b, off + j * 27 + 4, none⟩ = some (.int .i64 (kj + 4)) := HP.out 4 _ rfl
      go_upto_region 19 with fail
      clear q4
      rw [show kj + 4 + 1 = kj + 5 by omega]
      have q5 : w.cell? ⟨b, off + j * 27 + 5, none⟩ = some (.int .i64 (kj + 5)) := HP.out 5 _ rfl
      go_upto_region 22 with fail
      clear q5
      rw [show kj + 5 + 1 = kj + 6 by omega]
      have q6 : w.cell? ⟨b, off + j * 27 + 6, none⟩ = some (.int .i64 (kj + 6)) := HP.out 6 _ rfl
      go_upto_region 25 with fail
      clear q6
      rw [show kj + 6 + 1 = kj + 7 by omega]
      have q7 : w.cell? ⟨b, off + j * 27 + 7, none⟩ = some (.int .i64 (kj + 7)) := HP.out 7 _ rfl
      go_upto_region 28 with fail
      clear q7
      rw [show kj + 7 + 1 = kj + 8 by omega]
      have q8 : w.cell? ⟨b, off + j * 27 + 8, none⟩ = some (.int .i64 (kj + 8)) := HP.out 8 _ rfl
      go_upto_region 31 with fail
      clear q8
      rw [show kj + 8 + 1 = kj + 9 by omega]
      have q9 : w.cell? ⟨b, off + j * 27 + 9, none⟩ = some (.int .i64 (kj + 9)) := HP.out 9 _ rfl
      go_upto_region 34 with fail
      clear q9
      rw [show kj + 9 + 1 = kj + 10 by omega]
      have q10 : w.cell? ⟨b, off + j * 27 + 10, none⟩ = some (.int .i64 (kj + 10)) := HP.out 10 _ rfl
      go_upto_region 37 with fail
      clear q10
      rw [show kj + 10 + 1 = kj + 11 by omega]
      have q11 : w.cell? ⟨b, off + j * 27 + 11, none⟩ = some (.int .i64 (kj + 11)) := HP.out 11 _ rfl
      go_upto_region 40 with fail
      clear q11
      rw [show kj + 11 + 1 = kj + 12 by omega]
      have q12 : w.cell? ⟨b, off + j * 27 + 12, none⟩ = some (.int .i64 (kj + 12)) := HP.out 12 _ rfl
      go_upto_region 43 with fail
      clear q12
      rw [show kj + 12 + 1 = kj + 13 by omega]
      have q13 : w.cell? ⟨b, off + j * 27 + 13, none⟩ = some (.int .i64 (kj + 13)) := HP.out 13 _ rfl
      go_upto_region 46 with fail
      clear q13
      rw [show kj + 13 + 1 = kj + 14 by omega]
      have q14 : w.cell? ⟨b, off + j * 27 + 14, none⟩ = some (.int .i64 (kj + 14)) := HP.out 14 _ rfl
      go_upto_region 49 with fail
      clear q14
      rw [show kj + 14 + 1 = kj + 15 by omega]
      go_wp2
      go_loop [1, 6] (fun kv tv => ∃ t : Nat, t ≤ 3 ∧ tv = .int .i64 t ∧ kv = .int .i64 (kj + 15 + t)) (fun _ tv => 3 - (intOf tv).toNat)
      case atStart => exact ⟨0, by omega, rfl, by simp⟩
      case round =>
        obtain ⟨t, ht, rfl, rfl⟩ := hrel
        by_cases h3 : t < 3
        · have qt := HP.out (15 + t) _ (pm_ax kj t h3)
          rw [← Nat.add_assoc] at qt
          go_wp2
          go_round
          case rel => exact ⟨t + 1, by omega, by go_num, by go_num⟩
          case measure => simp [intOf]; omega
        · obtain rfl : t = 3 := by omega
          rw [show kj + 15 + ((3 : Nat) : Int) = kj + 18 by omega]
          go_upto_region 55 with fail
          go_wp2
          go_loop [1, 7] (fun kv tv => ∃ t : Nat, t ≤ 3 ∧ tv = .int .i64 t ∧ kv = .int .i64 (kj + 18 + t)) (fun _ tv => 3 - (intOf tv).toNat)
          case atStart => exact ⟨0, by omega, rfl, by simp⟩
          case round =>
            obtain ⟨t, ht, rfl, rfl⟩ := hrel
            by_cases h3 : t < 3
            · have qt := HP.out (18 + t) _ (pm_bk kj t h3)
              simp only [b3] at qt
              rw [show off + j * 27 + (18 + t) = off + j * 27 + 15 + 3 + t by omega] at qt
              go_wp2
              go_round
              case rel => exact ⟨t + 1, by omega, by go_num, by go_num⟩
              case measure => simp [intOf]; omega
            · obtain rfl : t = 3 := by omega
              rw [show kj + 18 + ((3 : Nat) : Int) = kj + 21 by omega]
              go_upto_region 61 with fail
              have q21 : w.cell? ⟨b, off + j * 27 + 21, none⟩ = some (.int .i64 (kj + 21)) := HP.out 21 _ rfl
              go_upto_region 64 with fail
              clear q21
              rw [show kj + 21 + 1 = kj + 22 by omega]
              have q22 : w.cell? ⟨b, off + j * 27 + 22, none⟩ = some (.int .i64 (kj + 22)) := HP.out 22 _ rfl
              go_upto_region 67 with fail
              clear q22
              rw [show kj + 22 + 1 = kj + 23 by omega]
              have q23 : w.cell? ⟨b, off + j * 27 + 23, none⟩ = some (.int .i64 (kj + 23)) := HP.out 23 _ rfl
              go_upto_region 70 with fail
              clear q23
              rw [show kj + 23 + 1 = kj + 24 by omega]
              have q24 : w.cell? ⟨b, off + j * 27 + 24, none⟩ = some (.int .i64 (kj + 24)) := HP.out 24 _ rfl
              go_upto_region 73 with fail
              clear q24
              rw [show kj + 24 + 1 = kj + 25 by omega]
              have q25 : w.cell? ⟨b, off + j * 27 + 25, none⟩ = some (.int .i64 (kj + 25)) := HP.out 25 _ rfl
              go_upto_region 76 with fail
              clear q25
              rw [show kj + 25 + 1 = kj + 26 by omega]
              have q26 : w.cell? ⟨b, off + j * 27 + 26, none⟩ = some (.int .i64 (kj + 26)) := HP.out 26 _ rfl
              go_wp2
              go_round
              case rel => exact ⟨j + 1, by omega, by go_num, by have := HKJ.out; congr 1; omega⟩
              case measure => simp [intOf]; omega
    · obtain rfl : j = n := by omega
      go_wp2
      go_ret
      exact ⟨rfl, rfl⟩
end Go.Proofs.Ytckenfomnenknaa
end
section
namespace Go.Proofs.Ytckenfomnenknaa
open Go.ChangeShapes Go.WideShapes Go.ChangeAt Go.RowKit
set_option linter.unusedSimpArgs false
set_option linter.unusedVariables false
set_option maxHeartbeats 4000000

attribute [local go_sem] VGo_value VGo_skip VGo_enter
attribute [local go_sem] Pt.arr0 Pt.arr1 Pt.arr2 Pt.arr3 Pt.arr4 Pt.arr5 Pt.arr6 Pt.arr7 Pt.arr8 Pt.arr9 Pt.arr10 Pt.arr11 Pt.arr12 Pt.arr13 Pt.arr14 Pt.arr15 Pt.arr16 Pt.arr17 Pt.arr18 Pt.arr19 Pt.arr20 Pt.arr21 Pt.arr22 Pt.arr23 Pt.arr24 Pt.arr25 Pt.arr26
attribute [-go_sem] loadVar storeVar
attribute [local go_sem] lvA svA
attribute [local go_sem high] ptLoadNew ptStoreNew moStoreNew
attribute [local go_sem] Pt.arrSize Pt.fill
/- append_k that also says in which block the row lies afterwards -/
theorem append_kAt (wr : World) {ops : Array Oper} {rest : List Oper} {o : Oper} {a : Act} {Q : Exit → Act → World → Prop} (hgd : o.guard = none) (s x : Operand) (tS T : TypeId) (K bytes : Nat) (z : Value)
    (ho : o.op = .call { callee := .builtin .append, args := #[s, x], argTypes := #[tS, tS] }) (hu : Try.prog.underlying tS = some (.slice T)) (hinfo : (Try.prog.info? T).map (fun i => (i.zero, i.size, i.bytes)) = some (some z, K, bytes))
    (hz : z.cells.size = K) (hK0 : 0 < K) (B : Nat) (v : Value) (L : List (List Value)) (new : List Value) (hr : RowK wr B T K v L) (hs : a.eval s = v) (b : Nat) (hx : a.eval x = .slice (some ⟨b, 0, none⟩) 1 1) (cs : Array Value) (Tb : TypeId) (hb : Has wr b cs Tb)
    (hcs : cs.toList = new) (hnew : new.length = K) (h1 : ∀ u ∈ new, u.oneCell' = true) (hn : L.length < 1000000000) (hby : bytes ≤ 100000) (hB : B ≤ wr.heap.size)
    (hK : ∀ v' w', RowK w' B T K v' (L ++ [new]) → wr.grownBy w' v.ownBlock → (v'.ownBlock = v.ownBlock ∨ v'.ownBlock = some wr.heap.size) → wpList Try.prog ops Q rest (a.put o.dst v') w') :
    wpList Try.prog ops Q (o :: rest) a wr := by
  obtain ⟨i0, hi, hz0, hz1, hz2⟩ := info_parts hinfo
  refine wpList_append_own_at _ hgd s x tS ho B T i0 z K bytes hu hi hz0 hz1 hz2 hz hK0 v _ _ hs hr.own ⟨b, 0, none⟩ 1 1 new hx (by rw [hnew, Nat.one_mul]) ?_ h1 ?_ ?_ hB ?_
  · intro j u hu'
    rw [addr_add, cell_of_row wr b j cs Tb (0, 0) hb, ← hu', ← hcs]
    simp
  · unfold maxLen; omega
  · have : (L.length + 1) * bytes ≤ 1000000000 * 100000 := Nat.mul_le_mul (by omega) hby
    omega
  · intro v' w' h2 h3 _ h5
    refine hK v' w' ⟨?_, ?_⟩ h3 h5
    · simpa using h2
    · intro y hy
      rcases List.mem_append.1 hy with h4 | h4
      · exact hr.each y h4
      · rw [List.mem_singleton] at h4; rw [h4]; exact hnew
/- the leaves of a solid -/
def isLf (p : Pt) : Bool := decide (p.k ≤ 2)
def lfs (l : List Pt) : List Pt := (lvs l).filter isLf
theorem filt_yes (l : List Pt) (j : Nat) (hj : j < l.length) (h : l[j].k ≤ 2) : (l.take (j + 1)).filter isLf = (l.take j).filter isLf ++ [l[j]] := by
  rw [List.take_succ_eq_append_getElem hj, List.filter_append]
  simp [isLf, h]
theorem filt_no (l : List Pt) (j : Nat) (hj : j < l.length) (h : ¬ l[j].k ≤ 2) : (l.take (j + 1)).filter isLf = (l.take j).filter isLf := by
  rw [List.take_succ_eq_append_getElem hj, List.filter_append]
  simp [isLf, h]
set_option maxRecDepth 100000 in
theorem sSolidLeaves_no (l : List Pt) (v : Value) (w : World) (hl : PIn w v l) (hn : l.length ≤ 1048576) (hS : ¬ SolidP l) : Calls Try.prog 35 #[v] w fun e w' => ∃ v', e = .returned v' ∧ PRow w' w.heap.size v' [] ∧ Below w.heap.size w w' := by
  have HL := Lib.hid hl
  have HC : Hid (∀ w, PIn w v l → Calls Try.prog 79 #[v] w fun e w' => e = .returned (.bool false) ∧ Below w.heap.size w w') := Lib.hid fun w h => by have := sSolidOk_any l v w h hn; rwa [dec_no hS] at this
  clear hl
  go_enter Try.func35, Try.ntmps35
  go_upto_region 2 with fail
  have hr0 : PRow (w.alloc (.cells #[] 106)) w.heap.size (.slice (some ⟨w.heap.size, 0, none⟩) 0 0) [] := RowK.empty w _ _ _ (Nat.le_refl _)
  have hb0 := lowAlloc (lowRefl w) (.cells #[] 106)
  have hl0 := Lib.hid (HL.out.below hb0)
  generalize w.alloc (.cells #[] 106) = w1 at hr0 hb0 hl0 ⊢
  go_wp2_with ((go_at_call 79; ((with_reducible refine (HC.out _ hl0.out).mono ?_); rintro e w2 ⟨rfl, hbq⟩)))
  go_ret
  exact ⟨_, rfl, RowK.below hr0 hbq, lowCall hb0 hbq⟩
set_option maxRecDepth 100000 in
theorem sSolidLeaves_yes (l : List Pt) (v : Value) (w : World) (hl : PIn w v l) (hn : l.length ≤ 1048576) (hS : SolidP l) : Calls Try.prog 35 #[v] w fun e w' => ∃ v', e = .returned v' ∧ PRow w' w.heap.size v' (lfs l) ∧ Below w.heap.size w w' := by
  have HL := Lib.hid hl
  have HS := Lib.hid hS
  have HF : Hid (SForm l) := Lib.hid (SForm.solid hS)
  have HM := Lib.hid hS.2.1
  have HC : Hid (∀ w, PIn w v l → Calls Try.prog 79 #[v] w fun e w' => e = .returned (.bool true) ∧ Below w.heap.size w w') := Lib.hid fun w h => by have := sSolidOk_any l v w h hn; rwa [dec_yes hS] at this
  clear hl hS
  go_enter Try.func35, Try.ntmps35
  go_upto_region 2 with fail
  have hr0 : PRow (w.alloc (.cells #[] 106)) w.heap.size (.slice (some ⟨w.heap.size, 0, none⟩) 0 0) [] := RowK.empty w _ _ _ (Nat.le_refl _)
  have hb0 := lowAlloc (lowRefl w) (.cells #[] 106)
  have hl0 := Lib.hid (HL.out.below hb0)
  have hs0 : w.heap.size < (w.alloc (.cells #[] 106)).heap.size := by simp
  generalize w.alloc (.cells #[] 106) = w1 at hr0 hb0 hl0 hs0 ⊢
  go_upto_region 5 with (first | ((go_at_call 79; ((with_reducible refine (HC.out _ hl0.out).mono ?_); rintro e w2 ⟨rfl, hbq⟩)); have hl1 := hl0.out.below hbq) | (go_at_call 80; (with_reducible refine (l7Leaves_any l _ _ hl1 HF.out HM.out).mono ?_); rintro e w3 ⟨vl, rfl, hro, hbq3⟩))
  have h1 : 1 ≤ l.length := HS.out.1.1.1
  have hlen : (lvs l).length = l.length := by simp [lvs]
  have hb := lowCall (lowCall hb0 hbq) hbq3
  have hrr := RowK.below (RowK.below hr0 hbq) hbq3
  have hB1 : w.heap.size < w2.heap.size := by have := hbq.size; omega
  clear hr0 hb0 hl0 hl1 hs0 hbq hbq3 HC
  obtain ⟨A, c, rfl, hA, -⟩ := hro.shape
  rw [List.length_map, hlen] at hro hA
  obtain ⟨g, rfl, hg1, hg2⟩ := hA h1
  rw [List.length_map, hlen]
  clear hA
  generalize w2.heap.size = B at hro hg1 hB1
  have hng : (Value.slice (some ⟨w.heap.size, 0, none⟩) 0 0).ownBlock ≠ some g := by simp [Value.ownBlock]; omega
  go_wp2
  go_loopw [3, 5] (fun o i wr => ∃ (j : Nat) (vo : Value), j ≤ l.length ∧ i = .int .i64 j ∧ vo = o ∧ PRow wr w.heap.size vo (((lvs l).take j).filter isLf) ∧ vo.ownBlock ≠ some g ∧ PRow wr B (.slice (some ⟨g, 0, none⟩) l.length c) (lvs l) ∧ g < wr.heap.size ∧ Below w.heap.size w wr) (fun _ i _ => l.length - (intOf i).toNat)
  case atStart => exact ⟨0, _, by omega, rfl, rfl, by show PRow _ _ _ []; exact hrr, hng, hro, hg2, hb⟩
  case round =>
    clear hrr hro hb hg2 hng
    obtain ⟨j, vo, hj, rfl, rfl, hrr, hng, hro, hg2, hb⟩ := hrel
    have hbs := hb.size
    by_cases hc : j < l.length
    · have CK := (PRow.pat hro hlen.symm j (by omega)).k
      have LD := PRow.load hro hlen.symm j (by omega)
      have HY := Lib.hid (filt_yes (lvs l) j (by omega))
      have HN := Lib.hid (filt_no (lvs l) j (by omega))
      have HZ : Hid (((lvs l).take j).filter isLf = ((lvs l).take j).filter isLf ∧ (((lvs l).take j).filter isLf).length ≤ 1048576) := Lib.hid ⟨rfl, Nat.le_trans (List.length_filter_le _ _) (by simp; omega)⟩
      generalize (lvs l)[j]'(by omega) = p at CK LD HY HN
      generalize hzs : ((lvs l).take j).filter isLf = zs at hrr HY HN HZ
      clear hzs
      by_cases hk : p.k ≤ 2
      · have hr2 := RowK.alloc hrr (.cells p.arr 106)
        have ho2 := RowK.alloc hro (.cells p.arr 106)
        have hb2 := lowAlloc hb (.cells p.arr 106)
        go_wp2_with (at_builtin; refine append_kAt _ rfl _ _ _ 106 27 200 Pt.zero.val rfl Try.underlying70 infoPt rfl (by omega) w.heap.size _ _ p.cells hr2 rfl wr.heap.size rfl _ _ (Has.new _ _ _) (by simp [Pt.arr]) rfl p.one (by rw [List.length_map]; have := HZ.out.2; omega) (by omega) (by simp; omega) ?_; intro v' w3 hr3 hg3 hat)
        have hg3s := hg3.size
        simp at hg3s
        have hG2 : PRow w3 w.heap.size v' (((lvs l).take (j + 1)).filter isLf) := by rw [HY.out hk]; unfold PRow; rw [List.map_append]; exact hr3
        exact ⟨⟨j + 1, _, by omega, by go_num, rfl, hG2, fun e => by
          rcases hat with h | h
          · exact hng (h ▸ e)
          · rw [h] at e; injection e with e; simp at e; omega, RowK.kept ho2 hg3 (.inr fun e => hng e.symm), by omega, hb2.grown hg3 (by simp; omega) (fun k hk => (hrr.own.lt k hk).1)⟩, by simp [intOf]; omega⟩
      · go_wp2
        exact ⟨⟨j + 1, _, by omega, by go_num, rfl, by rw [HN.out hk]; exact hrr, hng, hro, hg2, hb⟩, by simp [intOf]; omega⟩
    · obtain rfl : j = l.length := by omega
      have e : (lvs l).take l.length = lvs l := List.take_of_length_le (by omega)
      rw [e] at hrr
      go_wp2
      go_ret
      exact ⟨_, rfl, hrr, hb⟩
theorem sSolidLeaves_any (l : List Pt) (v : Value) (w : World) (hl : PIn w v l) (hn : l.length ≤ 1048576) : Calls Try.prog 35 #[v] w fun e w' => ∃ v', e = .returned v' ∧ PRow w' w.heap.size v' (if dec (SolidP l) then lfs l else []) ∧ Below w.heap.size w w' := by
  by_cases h : SolidP l
  · rw [dec_yes h]; exact sSolidLeaves_yes l v w hl hn h
  · rw [dec_no h]; exact sSolidLeaves_no l v w hl hn h
end Go.Proofs.Ytckenfomnenknaa
end
section
namespace Go.Proofs.Ytckenfomnenknaa
open Go.ChangeShapes Go.WideShapes Go.ChangeAt Go.RowKit
set_option linter.unusedSimpArgs false
set_option linter.unusedVariables false
set_option maxHeartbeats 4000000

attribute [local go_sem] VGo_value VGo_skip VGo_enter
attribute [-go_sem] loadVar storeVar
attribute [local go_sem] lvA svA
/- slices.IndexFunc with isMade, over parts -/
def mdB (p : Pt) : Bool := decide (3 ≤ p.k ∧ p.k ≤ 6)
theorem isMade_any (p : Pt) (w : World) : Calls Try.prog 84 #[p.val] w fun e w' => e = .returned (.bool (mdB p)) ∧ Below w.heap.size w w' := by
  unfold mdB
  by_cases h : 3 ≤ p.k ∧ p.k ≤ 6
  · rw [decide_eq_true h]; exact isMade_yes p w h.1 h.2
  · rw [decide_eq_false h]; exact isMade_no p w (by omega)
set_option maxRecDepth 100000 in
theorem indexFunc_any (l : List Pt) (v : Value) (w : World) (hl : PIn w v l) (hn : l.length ≤ 1048576) :
    Calls Try.prog 127 #[v, .func (.func 84) #[] #[]] w fun e w' => ∃ k : Int, e = .returned (.int .i64 k) ∧ ((k = -1 ∧ ∀ p ∈ l, mdB p = false) ∨ ∃ j : Nat, ∃ h : j < l.length, k = j ∧ mdB l[j] = true ∧ ∀ p ∈ l.take j, mdB p = false) ∧ Below w.heap.size w w' := by
  obtain ⟨A, c, rfl, hf⟩ := hl
  have HF := Lib.hid hf
  clear hf
  go_enter Try.func127, Try.ntmps127
  go_wp2
  go_loopw [8] (fun i wr => ∃ j : Nat, j ≤ l.length ∧ i = .int .i64 j ∧ (∀ p ∈ l.take j, mdB p = false) ∧ Below w.heap.size w wr) (fun i _ => l.length - (intOf i).toNat)
  case atStart => exact ⟨0, by omega, rfl, fun p h => by simp at h, lowRefl w⟩
  case round =>
    obtain ⟨j, hj, rfl, ht, hb⟩ := hrel
    have HT := Lib.hid ht
    clear ht
    by_cases hc : j < l.length
    · obtain ⟨b, off, rfl, hr⟩ := HF.out (by omega)
      have LD := ((hr j hc).below hb).load
      have hsu : l.take (j + 1) = l.take j ++ [l[j]] := List.take_succ_eq_append_getElem hc
      have HSU := Lib.hid hsu
      have HPE : Hid (l[j] = l[j]) := Lib.hid rfl
      clear hr hsu
      obtain ⟨p, hp⟩ : ∃ p, l[j] = p := ⟨_, rfl⟩
      rw [hp] at LD
      have HP := Lib.hid hp
      clear hp HPE
      by_cases hm : mdB p = true
      · have HC : Hid (∀ w, Calls Try.prog 84 #[p.val] w fun e w' => e = .returned (.bool true) ∧ Below w.heap.size w w') := Lib.hid fun w => by have := isMade_any p w; rwa [hm] at this
        go_wp2_with ((go_at_call 84; ((with_reducible refine (HC.out _).mono ?_); rintro e w2 ⟨rfl, hbq⟩)))
        go_ret
        exact ⟨_, rfl, .inr ⟨j, hc, rfl, by rw [HP.out]; exact hm, HT.out⟩, lowCall hb hbq⟩
      · have hm := Bool.eq_false_iff.2 hm
        have HC : Hid (∀ w, Calls Try.prog 84 #[p.val] w fun e w' => e = .returned (.bool false) ∧ Below w.heap.size w w') := Lib.hid fun w => by have := isMade_any p w; rwa [hm] at this
        go_wp2_with ((go_at_call 84; ((with_reducible refine (HC.out _).mono ?_); rintro e w2 ⟨rfl, hbq⟩)))
        exact ⟨⟨j + 1, by omega, by go_num, fun q hq => by
          rw [HSU.out, HP.out] at hq
          rcases List.mem_append.1 hq with h | h
          · exact HT.out q h
          · rw [List.mem_singleton.1 h]; exact hm, lowCall hb hbq⟩, by simp [intOf]; omega⟩
    · obtain rfl : j = l.length := by omega
      go_wp2
      go_ret
      exact ⟨_, rfl, .inl ⟨rfl, fun p hp => HT.out p (by rwa [List.take_length])⟩, hb⟩
end Go.Proofs.Ytckenfomnenknaa
end
