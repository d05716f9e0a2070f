
import Derived.Test.YtegibpepdndocaaHuW
import Derived.Test.YtegibpepdndocaaHuF
namespace Go.Proofs.Ytegibpepdndocaa
open Go.ChangeShapes Go.WideShapes Go.ChangeAt Go.RowKit
set_option linter.unusedSimpArgs false
set_option linter.unusedVariables false
set_option maxHeartbeats 4000000
set_option maxRecDepth 8000

theorem bodyPost_hasL {P : Program} {fn : Func} {R : Ending → World → Prop} {a : Act} {w : World} {b : Nat} {cs : Array Value} {v : Value} {T : TypeId} (hB : Has w b cs T)
    (hr : ∀ w, Has w b cs T → (results fn a.tmps).run P w = .ok (.tuple #[v, .agg cs]) w) (hd : a.defers = []) (hR : R (.returned (.tuple #[v, .agg cs])) w) : bodyPost P fn R .ret a w := bodyPost_ret (hr w hB) hd hR
theorem drawHueNear_any (A : Option Addr) (n c : Nat) (w : World) (hnc : n ≤ c) (hcap : c ≤ 9223372036854775807) (hcode : Code w w.heap.size A n) :
    Calls Try.prog 42 #[.slice A n c] w fun e w' => ∃ v l x y z, e = .returned (.tuple #[v, .agg #[.int .i64 (x), .int .i64 (y), .int .i64 (z)]]) ∧ l.length ≤ 17 ∧ HuRow w' w.heap.size v l ∧ Below w.heap.size w w' := by
  go_enter Try.func42, Try.ntmps42
  go_upto_region 1 with fail
  have B0 : Has (w.alloc (.cells #[.int .i64 0, .int .i64 0, .int .i64 0] 25)) w.heap.size #[.int .i64 0, .int .i64 0, .int .i64 0] 25 := by (refine Has.as (by repeat' (first | with_reducible assumption | with_reducible apply Has.new | with_reducible apply Has.new1 | with_reducible apply Has.new2 | with_reducible apply Has.new3 | with_reducible apply Has.new4 | with_reducible apply Has.drew | with_reducible apply Has.drewN | with_reducible apply Has.alloc | with_reducible apply Has.same | with_reducible apply Has.other | (with_reducible show _ ≠ _; first | omega | (simp; done)))) ?_; first | (with_reducible rfl) | (simp only [List.setIfInBounds_toArray, List.set_cons_zero, List.set_cons_succ]; done) | (simp only [List.setIfInBounds_toArray, List.set_cons_zero, List.set_cons_succ]; rfl) | rfl | (simp; done))
  have hcode2 := HCode.alloc hcode (.cells #[.int .i64 0, .int .i64 0, .int .i64 0] 25)
  have hS : (w.alloc (.cells #[.int .i64 0, .int .i64 0, .int .i64 0] 25)).heap.size = w.heap.size + 1 := by simp
  have hL : Below w.heap.size w (w.alloc (.cells #[.int .i64 0, .int .i64 0, .int .i64 0] 25)) := by repeat' (first | with_reducible exact lowRefl _ | with_reducible apply lowSet | with_reducible apply lowDrew | with_reducible apply lowDrewN | with_reducible apply lowAlloc | (with_reducible refine lowCall ?_ (by assumption)) | (show (_ : Nat) ≤ _; first | (simp; done) | (simp; omega) | omega))
  clear hcode
  generalize hW : w.alloc (.cells #[.int .i64 0, .int .i64 0, .int .i64 0] 25) = w0 at *
  clear hW
  go_upto_region 2 with (go_at_call 60; refine (open_any _ _ _ _ hnc hcap hcode2).mono ?_; rintro e w1 ⟨g, n', rfl, hrd, hlow⟩)
  have hlo := hrd.lo
  have B01 := B0.below hlow
  have hL1 := lowCall hL hlow
  have hgl := hL1.size
  clear hcode2 hL hlow B0
  go_upto_region 3 with (first | (go_at_call 64; refine (num_rdP (fun z => ∃ k : Nat, z = (k : Int) ∧ k ≤ 17) hrd (by omega) (by omega) (by omega) (by simp only [AllI]; repeat' (first | exact trivial | refine ⟨⟨_, rfl, (by first | exact ⟨0, rfl, by omega⟩ | exact ⟨1, rfl, by omega⟩ | exact ⟨2, rfl, by omega⟩ | exact ⟨4, rfl, by omega⟩ | exact ⟨8, rfl, by omega⟩ | exact ⟨16, rfl, by omega⟩ | exact ⟨17, rfl, by omega⟩)⟩, ?_⟩)) (by rfl)).mono ?_; rintro e w2 ⟨zn, rfl, ⟨k, rfl, hk⟩, hrd2, hby2⟩; have hG2 := by_trans (gAlloc (World.grownBy.refl w1 (some g)) _) hby2) | (go_at_call 63; (with_reducible refine (l9List_any w0.heap.size g n' c _ A k _ hrd2 (by omega) hk).mono ?_); rintro e w3 ⟨v, l, rfl, hlen, hr, hrd3, hby3⟩; have hG3 := by_trans hG2 hby3))
  have B03 := B01.by_ hG3 (by omega)
  have hL3 := lowBy hL1 hG3 hL1.size (by omega)
  have hne : some w.heap.size ≠ v.ownBlock := own_lo hr.own (Nat.lt_of_lt_of_le (Has.lt B01) hG2.size)
  have hr3 := RowK.mono hr (Nat.le_trans hL1.size hG2.size)
  have hlt3 := hL3.size
  clear B01 hL1 hr hby2 hby3 hG3 hrd hrd2
  go_wp2_with (go_at_call 61; (with_reducible refine (l9Hue_any w0.heap.size g n' c _ A _ hrd3 (by omega)).mono ?_); rintro e w4 ⟨x, y, z, rfl, hrd4, hby⟩; have B04 := B03.by_ hby (by omega); have C0 := Has.cell B04; have F0 := Has.frozen B04; have hr4 := RowK.pick hr3 hrd3 (by decide) hby; have hL4 := lowBy hL3 hby hL3.size (by omega))
  refine bodyPost_hasL (b := w.heap.size) (T := 25) (cs := #[.int .i64 _, .int .i64 _, .int .i64 _]) (v := v) (by (refine Has.as (by repeat' (first | with_reducible assumption | with_reducible apply Has.new | with_reducible apply Has.new1 | with_reducible apply Has.new2 | with_reducible apply Has.new3 | with_reducible apply Has.new4 | with_reducible apply Has.drew | with_reducible apply Has.drewN | with_reducible apply Has.alloc | with_reducible apply Has.same | with_reducible apply Has.other | (with_reducible show _ ≠ _; first | omega | (simp; done)))) ?_; first | (with_reducible rfl) | (simp only [List.setIfInBounds_toArray, List.set_cons_zero, List.set_cons_succ]; done) | (simp only [List.setIfInBounds_toArray, List.set_cons_zero, List.set_cons_succ]; rfl) | rfl | (simp; done))) (fun wE hE => ?_) rfl ⟨v, l, _, _, _, rfl, by omega, ?_, ?_⟩
  · have cE := Has.cell hE
    simp only [results, Try.results42, go_sem]
    (try simp [go_sem, cE])
    done
  · exact RowK.set (RowK.set (RowK.set hr4 hne) hne) hne
  · repeat' (first | with_reducible exact lowRefl _ | with_reducible apply lowSet | with_reducible apply lowDrew | with_reducible apply lowDrewN | with_reducible apply lowAlloc | (with_reducible refine lowCall ?_ (by assumption)) | (show (_ : Nat) ≤ _; first | (simp; done) | (simp; omega) | omega))
end Go.Proofs.Ytegibpepdndocaa
