
import Derived.Test.YtegibpepdndocaaHuD
import Derived.Test.YtegibpepdndocaaOpen
namespace Go.Proofs.Ytegibpepdndocaa
open Go.ChangeShapes Go.WideShapes Go.ChangeAt Go.RowKit
set_option linter.unusedSimpArgs false
set_option maxHeartbeats 4000000
set_option maxRecDepth 8000

theorem HCode.alloc {w : World} {n : Nat} {A : Option Addr} (h : Code w w.heap.size A n) (o : Obj) : Code (w.alloc o) (w.alloc o).heap.size A n := fun hn => by
  obtain ⟨b, off, rfl, hb, hc⟩ := h hn
  refine ⟨b, off, rfl, by rw [World.size_alloc]; omega, fun j hj => ?_⟩
  obtain ⟨x, h0, h1, h2⟩ := hc j hj
  exact ⟨x, h0, h1, by rw [World.cell?_alloc_past _ _ _ hb]; exact h2⟩
theorem HCode.low {w w' : World} {n : Nat} {A : Option Addr} (h : Code w w.heap.size A n) (hb : Below w.heap.size w w') (hs : w.heap.size ≤ w'.heap.size) : Code w' w'.heap.size A n := fun hn => by
  obtain ⟨b, off, rfl, hb', hc⟩ := h hn
  refine ⟨b, off, rfl, by omega, fun j hj => ?_⟩
  obtain ⟨x, h0, h1, h2⟩ := hc j hj
  exact ⟨x, h0, h1, (hb.cell (p := ⟨b, off + j, none⟩) hb').trans h2⟩
theorem bodyPost_has3 {P : Program} {fn : Func} {R : Ending → World → Prop} {a : Act} {w : World} {b b' : Nat} {cs cs' : Array Value} {v : Value} {T T' : TypeId} (hB : Has w b cs T) (hB' : Has w b' cs' T')
    (hr : ∀ w, Has w b cs T → Has w b' cs' T' → (results fn a.tmps).run P w = .ok (.tuple #[.agg cs, .agg cs', v]) w) (hd : a.defers = []) (hR : R (.returned (.tuple #[.agg cs, .agg cs', v])) w) : bodyPost P fn R .ret a w := bodyPost_ret (hr w hB hB') hd hR
theorem drawHueMix_any (A : Option Addr) (n c : Nat) (w : World) (hnc : n ≤ c) (hcap : c ≤ 9223372036854775807) (hcode : Code w w.heap.size A n) :
    Calls Try.prog 41 #[.slice A n c] w fun e w' => ∃ x1 y1 z1 x2 y2 z2 v, e = .returned (.tuple #[.agg #[.int .i64 (x1), .int .i64 (y1), .int .i64 (z1)], .agg #[.int .i64 (x2), .int .i64 (y2), .int .i64 (z2)], .int .i64 v]) ∧ Below w.heap.size w w' := by
  go_enter Try.func41, Try.ntmps41
  go_upto_region 1 with fail
  have B0 : Has ((w.alloc (.cells #[.int .i64 0, .int .i64 0, .int .i64 0] 25)).alloc (.cells #[.int .i64 0, .int .i64 0, .int .i64 0] 25)) w.heap.size #[.int .i64 0, .int .i64 0, .int .i64 0] 25 := by (refine Has.as (by repeat' (first | with_reducible assumption | with_reducible apply Has.new | with_reducible apply Has.new1 | with_reducible apply Has.new2 | with_reducible apply Has.new3 | with_reducible apply Has.new4 | with_reducible apply Has.drew | with_reducible apply Has.drewN | with_reducible apply Has.alloc | with_reducible apply Has.same | with_reducible apply Has.other | (with_reducible show _ ≠ _; first | omega | (simp; done)))) ?_; first | (with_reducible rfl) | (simp only [List.setIfInBounds_toArray, List.set_cons_zero, List.set_cons_succ]; done) | (simp only [List.setIfInBounds_toArray, List.set_cons_zero, List.set_cons_succ]; rfl) | rfl | (simp; done))
  have B1 : Has ((w.alloc (.cells #[.int .i64 0, .int .i64 0, .int .i64 0] 25)).alloc (.cells #[.int .i64 0, .int .i64 0, .int .i64 0] 25)) (w.heap.size + 1) #[.int .i64 0, .int .i64 0, .int .i64 0] 25 := by (refine Has.as (by repeat' (first | with_reducible assumption | with_reducible apply Has.new | with_reducible apply Has.new1 | with_reducible apply Has.new2 | with_reducible apply Has.new3 | with_reducible apply Has.new4 | with_reducible apply Has.drew | with_reducible apply Has.drewN | with_reducible apply Has.alloc | with_reducible apply Has.same | with_reducible apply Has.other | (with_reducible show _ ≠ _; first | omega | (simp; done)))) ?_; first | (with_reducible rfl) | (simp only [List.setIfInBounds_toArray, List.set_cons_zero, List.set_cons_succ]; done) | (simp only [List.setIfInBounds_toArray, List.set_cons_zero, List.set_cons_succ]; rfl) | rfl | (simp; done))
  have hcode2 := HCode.alloc (HCode.alloc hcode (.cells #[.int .i64 0, .int .i64 0, .int .i64 0] 25)) (.cells #[.int .i64 0, .int .i64 0, .int .i64 0] 25)
  have hS : ((w.alloc (.cells #[.int .i64 0, .int .i64 0, .int .i64 0] 25)).alloc (.cells #[.int .i64 0, .int .i64 0, .int .i64 0] 25)).heap.size = w.heap.size + 1 + 1 := by simp
  have hL : Below w.heap.size w ((w.alloc (.cells #[.int .i64 0, .int .i64 0, .int .i64 0] 25)).alloc (.cells #[.int .i64 0, .int .i64 0, .int .i64 0] 25)) := by repeat' (first | with_reducible exact lowRefl _ | with_reducible apply lowSet | with_reducible apply lowDrew | with_reducible apply lowDrewN | with_reducible apply lowAlloc | (with_reducible refine lowCall ?_ (by assumption)) | (show (_ : Nat) ≤ _; first | (simp; done) | (simp; omega) | omega))
  clear hcode
  generalize hW : (w.alloc (.cells #[.int .i64 0, .int .i64 0, .int .i64 0] 25)).alloc (.cells #[.int .i64 0, .int .i64 0, .int .i64 0] 25) = w0 at *
  clear hW
  go_upto_region 2 with (go_at_call 60; refine (open_any _ _ _ _ hnc hcap hcode2).mono ?_; rintro e w1 ⟨g, n', rfl, hrd, hlow⟩)
  have hlo := hrd.lo
  have B01 := B0.below hlow
  have B11 := B1.below hlow
  have hL1 := lowCall hL hlow
  have hgl := hL1.size
  clear hcode2 hL hlow B0 B1
  go_wp2_with (first | ((go_at_call 61; (with_reducible refine (l9Hue_any w0.heap.size g n' c _ A _ hrd (by omega)).mono ?_); rintro e w2 ⟨x1, y1, z1, rfl, hrd2, hby⟩; have B12 := B01.by_ hby (by omega); have B22 := B11.by_ hby (by omega); have hL2 := lowBy hL1 hby hL1.size (by omega))) | ((go_at_call 61; (with_reducible refine (l9Hue_any w0.heap.size g n' c _ A _ hrd2 (by omega)).mono ?_); rintro e w2 ⟨x2, y2, z2, rfl, hrd3, hby⟩; have B13 := B12.by_ hby (by omega); have B23 := B22.by_ hby (by omega); have hL3 := lowBy hL2 hby hL2.size (by omega))) | (go_at_call 62; (with_reducible refine (l9Parts_any w0.heap.size g n' c _ A _ hrd3 (by omega)).mono ?_); rintro e w4 ⟨v, rfl, hrd4, hby⟩; have B14 := B13.by_ hby (by omega); have B24 := B23.by_ hby (by omega); have hL4 := lowBy hL3 hby hL3.size (by omega); have C0 := Has.cell B14; have F0 := Has.frozen B14; have C1 := Has.cell B24; have F1 := Has.frozen B24))
  refine bodyPost_has3 (b := w.heap.size) (b' := w.heap.size + 1) (T := 25) (T' := 25) (cs := #[.int .i64 _, .int .i64 _, .int .i64 _]) (cs' := #[.int .i64 _, .int .i64 _, .int .i64 _]) (v := .int .i64 v) (by (refine Has.as (by repeat' (first | with_reducible assumption | with_reducible apply Has.new | with_reducible apply Has.new1 | with_reducible apply Has.new2 | with_reducible apply Has.new3 | with_reducible apply Has.new4 | with_reducible apply Has.drew | with_reducible apply Has.drewN | with_reducible apply Has.alloc | with_reducible apply Has.same | with_reducible apply Has.other | (with_reducible show _ ≠ _; first | omega | (simp; done)))) ?_; first | (with_reducible rfl) | (simp only [List.setIfInBounds_toArray, List.set_cons_zero, List.set_cons_succ]; done) | (simp only [List.setIfInBounds_toArray, List.set_cons_zero, List.set_cons_succ]; rfl) | rfl | (simp; done))) (by (refine Has.as (by repeat' (first | with_reducible assumption | with_reducible apply Has.new | with_reducible apply Has.new1 | with_reducible apply Has.new2 | with_reducible apply Has.new3 | with_reducible apply Has.new4 | with_reducible apply Has.drew | with_reducible apply Has.drewN | with_reducible apply Has.alloc | with_reducible apply Has.same | with_reducible apply Has.other | (with_reducible show _ ≠ _; first | omega | (simp; done)))) ?_; first | (with_reducible rfl) | (simp only [List.setIfInBounds_toArray, List.set_cons_zero, List.set_cons_succ]; done) | (simp only [List.setIfInBounds_toArray, List.set_cons_zero, List.set_cons_succ]; rfl) | rfl | (simp; done))) (fun wE hE hE2 => ?_) rfl ⟨_, _, _, _, _, _, _, rfl, ?_⟩
  · have cE := Has.cell hE
    have cE2 := Has.cell hE2
    simp only [results, Try.results41, go_sem]
    (try simp [go_sem, cE, cE2])
    done
  · repeat' (first | with_reducible exact lowRefl _ | with_reducible apply lowSet | with_reducible apply lowDrew | with_reducible apply lowDrewN | with_reducible apply lowAlloc | (with_reducible refine lowCall ?_ (by assumption)) | (show (_ : Nat) ≤ _; first | (simp; done) | (simp; omega) | omega))
end Go.Proofs.Ytegibpepdndocaa
