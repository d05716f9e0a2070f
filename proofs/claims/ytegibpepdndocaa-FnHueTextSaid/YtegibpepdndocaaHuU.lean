
import Derived.Test.YtegibpepdndocaaHuV
import Derived.Test.YtegibpepdndocaaHuR
import Derived.Test.YtegibpepdndocaaHuE
import Derived.Test.YtegibpepdndocaaHueB
import Derived.Deep.Cut
namespace Go.Proofs.Ytegibpepdndocaa
open Go.ChangeShapes Go.WideShapes Go.ChangeAt Go.RowKit
set_option linter.unusedSimpArgs false
set_option linter.unusedVariables false
set_option maxHeartbeats 8000000
set_option maxRecDepth 8000

theorem hdx_fin : ∀ n : Fin 16, Lib.indexByte hexL (hexT.getD n.val 0) = (n.val : Int) := by decide +kernel
theorem hd_hx (i : Int) (h0 : 0 ≤ i) (h1 : i < 16) : hd (hx i) = i := by
  have := hdx_fin ⟨i.toNat, by omega⟩
  unfold hd hx
  rw [this]
  show ((i.toNat : Nat) : Int) = i
  omega
theorem hxd_fin : ∀ n : Fin 256, 0 ≤ Lib.indexByte hexL (UInt8.ofNat n.val) → hexT.getD (Lib.indexByte hexL (UInt8.ofNat n.val)).toNat 0 = UInt8.ofNat n.val := by decide +kernel
theorem hx_hd (b : UInt8) (h : 0 ≤ hd b) : hx (hd b) = b := by
  have k := hxd_fin ⟨b.toNat, b.toNat_lt⟩
  simp only [UInt8.ofNat_toNat] at k
  exact k h
def TxtP (x y z : Int) (T : ByteArray) (G B1 B2 B3 : Int) (F : Bool) : Prop :=
  (∀ w, Calls Try.prog 36 #[.agg #[.int .i64 (x), .int .i64 (y), .int .i64 (z)]] w fun e w' => e = .returned (.string T) ∧ Below w.heap.size w w') ∧ (∀ w, Calls Try.prog 35 #[.agg #[.int .i64 (x), .int .i64 (y), .int .i64 (z)]] w fun e w' => e = .returned (.string T) ∧ Below w.heap.size w w') ∧
  (∀ w, Calls Try.prog 40 #[.agg #[.int .i64 (x), .int .i64 (y), .int .i64 (z)]] w fun e w' => e = .returned (.int .i64 G) ∧ Below w.heap.size w w') ∧ (∀ w, Calls Try.prog 39 #[.agg #[.int .i64 (x), .int .i64 (y), .int .i64 (z)]] w fun e w' => e = .returned (.int .i64 G) ∧ Below w.heap.size w w') ∧
  (∀ w, Calls Try.prog 38 #[.string T] w fun e w' => e = .returned (.tuple #[.agg #[.int .i64 (B1), .int .i64 (B2), .int .i64 (B3)], .bool F]) ∧ Below w.heap.size w w') ∧ (∀ w, Calls Try.prog 18 #[.agg #[.int .i64 (x), .int .i64 (y), .int .i64 (z)]] w fun e w' => e = .returned (.bool F) ∧ Below w.heap.size w w') ∧
  (F = false ∨ (F = true ∧ B1 = x ∧ B2 = y ∧ B3 = z))
theorem txt_all (x y z : Int) : ∃ T G B1 B2 B3 F, TxtP x y z T G B1 B2 B3 F := by
  by_cases h : Hok x y z
  · obtain ⟨a1, a2, a3, a4, a5, a6⟩ := id h
    refine ⟨_, _, x, y, z, true, fun w => iHueText_yes x y z w h, fun w => sHueText_yes x y z w h, fun w => iHueGrey_yes x y z w h, fun w => sHueGrey_yes x y z w h, fun w => ?_, fun w => ihueOk_yes x y z w h, .inr ⟨rfl, rfl, rfl, rfl⟩⟩
    have e : ∀ i : Int, 0 ≤ i → i ≤ 255 → hd (hx (i / 16)) = i / 16 ∧ hd (hx (i % 16)) = i % 16 := fun i h0 h1 => ⟨hd_hx _ (by omega) (by omega), hd_hx _ (by omega) (by omega)⟩
    have ex := e x a1 a2
    have ey := e y a3 a4
    have ez := e z a5 a6
    have k := iHueRead_good (hx (x / 16)) (hx (x % 16)) (hx (y / 16)) (hx (y % 16)) (hx (z / 16)) (hx (z % 16)) w (by rw [ex.1]; omega) (by rw [ex.2]; omega) (by rw [ey.1]; omega) (by rw [ey.2]; omega) (by rw [ez.1]; omega) (by rw [ez.2]; omega)
    rw [ex.1, ex.2, ey.1, ey.2, ez.1, ez.2, show 16 * (x / 16) + x % 16 = x by omega, show 16 * (y / 16) + y % 16 = y by omega, show 16 * (z / 16) + z % 16 = z by omega] at k
    exact k
  · exact ⟨_, _, 0, 0, 0, false, fun w => iHueText_no x y z w h, fun w => sHueText_no x y z w h, fun w => iHueGrey_no x y z w h, fun w => sHueGrey_no x y z w h, fun w => iHueRead_long ⟨#[]⟩ w (by decide) (by decide), fun w => ihueOk_no x y z w h, .inl rfl⟩
def RdP (s : ByteArray) (X Y Z : Int) (K : Bool) : Prop :=
  (∀ w, Calls Try.prog 38 #[.string s] w fun e w' => e = .returned (.tuple #[.agg #[.int .i64 (X), .int .i64 (Y), .int .i64 (Z)], .bool K]) ∧ Below w.heap.size w w') ∧ (∀ w, Calls Try.prog 37 #[.string s] w fun e w' => e = .returned (.tuple #[.agg #[.int .i64 (X), .int .i64 (Y), .int .i64 (Z)], .bool K]) ∧ Below w.heap.size w w') ∧
  (K = false ∨ (K = true ∧ ∀ w, Calls Try.prog 36 #[.agg #[.int .i64 (X), .int .i64 (Y), .int .i64 (Z)]] w fun e w' => e = .returned (.string s) ∧ Below w.heap.size w w'))
theorem rd_all (s : ByteArray) (hs : s.size ≤ 1048576) : ∃ X Y Z K, RdP s X Y Z K := by
  by_cases h : s.size = 6
  · obtain ⟨b0, b1, b2, b3, b4, b5, rfl⟩ := six_of s h
    by_cases h0 : hd b0 < 0
    · exact ⟨0, 0, 0, false, fun w => iHueRead_bad0 b0 b1 b2 b3 b4 b5 w  h0, fun w => sHueRead_bad0 b0 b1 b2 b3 b4 b5 w  h0, .inl rfl⟩
    by_cases h1 : hd b1 < 0
    · exact ⟨0, 0, 0, false, fun w => iHueRead_bad1 b0 b1 b2 b3 b4 b5 w (by omega) h1, fun w => sHueRead_bad1 b0 b1 b2 b3 b4 b5 w (by omega) h1, .inl rfl⟩
    by_cases h2 : hd b2 < 0
    · exact ⟨0, 0, 0, false, fun w => iHueRead_bad2 b0 b1 b2 b3 b4 b5 w (by omega) (by omega) h2, fun w => sHueRead_bad2 b0 b1 b2 b3 b4 b5 w (by omega) (by omega) h2, .inl rfl⟩
    by_cases h3 : hd b3 < 0
    · exact ⟨0, 0, 0, false, fun w => iHueRead_bad3 b0 b1 b2 b3 b4 b5 w (by omega) (by omega) (by omega) h3, fun w => sHueRead_bad3 b0 b1 b2 b3 b4 b5 w (by omega) (by omega) (by omega) h3, .inl rfl⟩
    by_cases h4 : hd b4 < 0
    · exact ⟨0, 0, 0, false, fun w => iHueRead_bad4 b0 b1 b2 b3 b4 b5 w (by omega) (by omega) (by omega) (by omega) h4, fun w => sHueRead_bad4 b0 b1 b2 b3 b4 b5 w (by omega) (by omega) (by omega) (by omega) h4, .inl rfl⟩
    by_cases h5 : hd b5 < 0
    · exact ⟨0, 0, 0, false, fun w => iHueRead_bad5 b0 b1 b2 b3 b4 b5 w (by omega) (by omega) (by omega) (by omega) (by omega) h5, fun w => sHueRead_bad5 b0 b1 b2 b3 b4 b5 w (by omega) (by omega) (by omega) (by omega) (by omega) h5, .inl rfl⟩
    refine ⟨_, _, _, true, fun w => iHueRead_good b0 b1 b2 b3 b4 b5 w (by omega) (by omega) (by omega) (by omega) (by omega) (by omega), fun w => ?_, .inr ⟨rfl, fun w => ?_⟩⟩
    · have k := sHueRead_good b0 b1 b2 b3 b4 b5 w (by omega) (by omega) (by omega) (by omega) (by omega) (by omega)
      rwa [Int.mul_comm (hd b0), Int.mul_comm (hd b2), Int.mul_comm (hd b4)] at k
    · have d0 := hd_bd b0
      have d1 := hd_bd b1
      have d2 := hd_bd b2
      have d3 := hd_bd b3
      have d4 := hd_bd b4
      have d5 := hd_bd b5
      have k := iHueText_yes (16 * hd b0 + hd b1) (16 * hd b2 + hd b3) (16 * hd b4 + hd b5) w (by unfold Hok; omega)
      rw [show (16 * hd b0 + hd b1) / 16 = hd b0 by omega, show (16 * hd b0 + hd b1) % 16 = hd b1 by omega, show (16 * hd b2 + hd b3) / 16 = hd b2 by omega, show (16 * hd b2 + hd b3) % 16 = hd b3 by omega, show (16 * hd b4 + hd b5) / 16 = hd b4 by omega, show (16 * hd b4 + hd b5) % 16 = hd b5 by omega,
        hx_hd b0 (by omega), hx_hd b1 (by omega), hx_hd b2 (by omega), hx_hd b3 (by omega), hx_hd b4 (by omega), hx_hd b5 (by omega)] at k
      exact k
  · exact ⟨0, 0, 0, false, fun w => iHueRead_long s w h hs, fun w => sHueRead_long s w h hs, .inl rfl⟩
theorem drawHueOk_any (A : Option Addr) (n c : Nat) (w : World) (hnc : n ≤ c) (hcap : c ≤ 9223372036854775807) (hcode : Code w w.heap.size A n) :
    Calls Try.prog 65 #[.slice A n c] w fun e w' => ∃ x y z, e = .returned (.agg #[.int .i64 (x), .int .i64 (y), .int .i64 (z)]) ∧ Below w.heap.size w w' := by
  go_enter Try.func65, Try.ntmps65
  go_upto_region 1 with fail
  have B0 : Has (w.alloc (.cells #[.int .i64 0, .int .i64 0, .int .i64 0] 25)) w.heap.size #[.int .i64 0, .int .i64 0, .int .i64 0] 25 := by (refine Has.as (by repeat' (first | with_reducible assumption | with_reducible apply Has.new | with_reducible apply Has.new1 | with_reducible apply Has.new2 | with_reducible apply Has.new3 | with_reducible apply Has.new4 | with_reducible apply Has.drew | with_reducible apply Has.drewN | with_reducible apply Has.alloc | with_reducible apply Has.same | with_reducible apply Has.other | (with_reducible show _ ≠ _; first | omega | (simp; done)))) ?_; first | (with_reducible rfl) | (simp only [List.setIfInBounds_toArray, List.set_cons_zero, List.set_cons_succ]; done) | (simp only [List.setIfInBounds_toArray, List.set_cons_zero, List.set_cons_succ]; rfl) | rfl | (simp; done))
  have hcode2 := HCode.alloc hcode (.cells #[.int .i64 0, .int .i64 0, .int .i64 0] 25)
  have hS : (w.alloc (.cells #[.int .i64 0, .int .i64 0, .int .i64 0] 25)).heap.size = w.heap.size + 1 := by simp
  have hL : Below w.heap.size w (w.alloc (.cells #[.int .i64 0, .int .i64 0, .int .i64 0] 25)) := by repeat' (first | with_reducible exact lowRefl _ | with_reducible apply lowSet | with_reducible apply lowDrew | with_reducible apply lowDrewN | with_reducible apply lowAlloc | (with_reducible refine lowCall ?_ (by assumption)) | (show (_ : Nat) ≤ _; first | (simp; done) | (simp; omega) | omega))
  clear hcode
  generalize hW : w.alloc (.cells #[.int .i64 0, .int .i64 0, .int .i64 0] 25) = w0 at *
  clear hW
  go_wp2_with (first | (go_at_call 60; refine (open_any _ _ _ _ hnc hcap hcode2).mono ?_; rintro e w1 ⟨g, n', rfl, hrd, hlow⟩; have hlo := hrd.lo; have B01 := B0.below hlow; have hL1 := lowCall hL hlow) | (go_at_call 61; (with_reducible refine (l9Hue_any w0.heap.size g n' c _ A _ hrd (by omega)).mono ?_); rintro e w2 ⟨x, y, z, rfl, hrd2, hby⟩; have B02 := B01.by_ hby (by omega); have hL2 := lowBy hL1 hby hL1.size (by omega); have C0 := Has.cell B02; have F0 := Has.frozen B02))
  refine bodyPost_has (b := w.heap.size) (T := 25) (cs := #[.int .i64 _, .int .i64 _, .int .i64 _]) (by (refine Has.as (by repeat' (first | with_reducible assumption | with_reducible apply Has.new | with_reducible apply Has.new1 | with_reducible apply Has.new2 | with_reducible apply Has.new3 | with_reducible apply Has.new4 | with_reducible apply Has.drew | with_reducible apply Has.drewN | with_reducible apply Has.alloc | with_reducible apply Has.same | with_reducible apply Has.other | (with_reducible show _ ≠ _; first | omega | (simp; done)))) ?_; first | (with_reducible rfl) | (simp only [List.setIfInBounds_toArray, List.set_cons_zero, List.set_cons_succ]; done) | (simp only [List.setIfInBounds_toArray, List.set_cons_zero, List.set_cons_succ]; rfl) | rfl | (simp; done))) (fun wE hE => ?_) rfl ⟨_, _, _, rfl, ?_⟩
  · (have cE := Has.cell hE; simp only [results, Try.results65, go_sem]; (try simp [go_sem, cE]); done)
  · repeat' (first | with_reducible exact lowRefl _ | with_reducible apply lowSet | with_reducible apply lowDrew | with_reducible apply lowDrewN | with_reducible apply lowAlloc | (with_reducible refine lowCall ?_ (by assumption)) | (show (_ : Nat) ≤ _; first | (simp; done) | (simp; omega) | omega))
theorem drawHueText_any (A : Option Addr) (n c : Nat) (w : World) (hnc : n ≤ c) (hcap : c ≤ 9223372036854775807) (hcode : Code w w.heap.size A n) :
    Calls Try.prog 43 #[.slice A n c] w fun e w' => ∃ x y z, e = .returned (.agg #[.int .i64 (x), .int .i64 (y), .int .i64 (z)]) ∧ Below w.heap.size w w' := by
  go_enter Try.func43, Try.ntmps43
  go_wp2_with (go_at_call 65; (with_reducible refine (drawHueOk_any A n c _ hnc hcap (HCode.alloc hcode _)).mono ?_); rintro e w2 ⟨x, y, z, rfl, hlow⟩; have B0 := (Has.new w _ _).below hlow; have C0 := Has.cell B0; have F0 := Has.frozen B0; have hL := lowCall (lowAlloc (lowRefl w) _) hlow)
  refine bodyPost_has (b := w.heap.size) (T := 25) (cs := #[.int .i64 _, .int .i64 _, .int .i64 _]) (by (refine Has.as (by repeat' (first | with_reducible assumption | with_reducible apply Has.new | with_reducible apply Has.new1 | with_reducible apply Has.new2 | with_reducible apply Has.new3 | with_reducible apply Has.new4 | with_reducible apply Has.drew | with_reducible apply Has.drewN | with_reducible apply Has.alloc | with_reducible apply Has.same | with_reducible apply Has.other | (with_reducible show _ ≠ _; first | omega | (simp; done)))) ?_; first | (with_reducible rfl) | (simp only [List.setIfInBounds_toArray, List.set_cons_zero, List.set_cons_succ]; done) | (simp only [List.setIfInBounds_toArray, List.set_cons_zero, List.set_cons_succ]; rfl) | rfl | (simp; done))) (fun wE hE => ?_) rfl ⟨_, _, _, rfl, ?_⟩
  · (have cE := Has.cell hE; simp only [results, Try.results43, go_sem]; (try simp [go_sem, cE]); done)
  · repeat' (first | with_reducible exact lowRefl _ | with_reducible apply lowSet | with_reducible apply lowDrew | with_reducible apply lowDrewN | with_reducible apply lowAlloc | (with_reducible refine lowCall ?_ (by assumption)) | (show (_ : Nat) ≤ _; first | (simp; done) | (simp; omega) | omega))
end Go.Proofs.Ytegibpepdndocaa
