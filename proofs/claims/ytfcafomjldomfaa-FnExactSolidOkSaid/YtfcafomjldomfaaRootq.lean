import Derived.BigQuiet
import Derived.Deep.QuietTactic
import Derived.LoopTactic
import Derived.Outline
import Derived.Shelf.Small.Bits
import Derived.Shelf.Strconv.Itoa0
import Derived.Test.YtfcafomjldomfaaHeldq
import Derived.Test.YtfcafomjldomfaaIntsq
import Derived.Test.YtfcafomjldomfaaProg
import Derived.Test.YtfcafomjldomfaaRowq
section
namespace Go.Proofs.Ytfcafomjldomfaa
open Go Go.RowKit
/- a result that lies in a block that is known whole -/
theorem bodyPost_has {P : Program} {fn : Func} {R : Ending → World → Prop} {a : Act} {w : World} {b : Nat} {cs : Array Value} {T : TypeId} (hB : Has w b cs T)
    (hr : ∀ w, Has w b cs T → (results fn a.tmps).run P w = .ok (.agg cs) w) (hd : a.defers = []) (hR : R (.returned (.agg cs)) w) : bodyPost P fn R .ret a w := bodyPost_ret (hr w hB) hd hR
end Go.Proofs.Ytfcafomjldomfaa
end
section
namespace Go.Proofs.Ytfcafomjldomfaa
open Go.ChangeShapes Go.WideShapes Go.ChangeAt Go.RowKit
set_option maxHeartbeats 1000000
set_option linter.unusedSimpArgs false

/- four integers that stand in a row: half-spaces, keys -/
structure Qd where
  f : Int
  t : Int
  i : Int
  o : Int
def Qd.cells (s : Qd) : List Value := [.int .i64 s.f, .int .i64 s.t, .int .i64 s.i, .int .i64 s.o]
abbrev Qd.val (s : Qd) : Value := .agg #[.int .i64 (s.f), .int .i64 (s.t), .int .i64 (s.i), .int .i64 (s.o)]
def Quad (w : World) (b k : Nat) (s : Qd) : Prop :=
  w.cell? ⟨b, k, none⟩ = some (.int .i64 s.f) ∧ w.cell? ⟨b, k + 1, none⟩ = some (.int .i64 s.t) ∧ w.cell? ⟨b, k + 2, none⟩ = some (.int .i64 s.i) ∧ w.cell? ⟨b, k + 3, none⟩ = some (.int .i64 s.o)
theorem qcell_lift {w w' : World} {a : Addr} {u : Value} (h : w.cell? a = some u) (he : w'.heap[a.block]? = w.heap[a.block]?) : w'.cell? a = some u := by rw [World.cell?_of_block he]; exact h
theorem Quad.lift {w w' : World} {b k : Nat} {s : Qd} (h : Quad w b k s) (he : w'.heap[b]? = w.heap[b]?) : Quad w' b k s := by
  obtain ⟨h0, h1, h2, h3⟩ := h
  exact ⟨qcell_lift h0 he, qcell_lift h1 he, qcell_lift h2 he, qcell_lift h3 he⟩
theorem Quad.lt {w : World} {b k : Nat} {s : Qd} (h : Quad w b k s) : b < w.heap.size := block_lt_of_cell h.1
theorem Quad.below {w w' : World} {b k : Nat} {s : Qd} (h : Quad w b k s) (hb : Below w.heap.size w w') : Quad w' b k s := h.lift (hb.block b h.lt)
def QIn (w : World) (v : Value) (l : List Qd) : Prop := ∃ A c, v = .slice A l.length c ∧ (0 < l.length → ∃ b off, A = some ⟨b, off, none⟩ ∧ ∀ i (h : i < l.length), Quad w b (off + i * 4) l[i])
theorem QIn.lift {w w' : World} {v : Value} {l : List Qd} (h : QIn w v l) (he : ∀ b, v.ownBlock = some b → b < w.heap.size → w'.heap[b]? = w.heap[b]?) : QIn w' v l := by
  obtain ⟨A, c, rfl, h⟩ := h
  refine ⟨A, c, rfl, fun h0 => ?_⟩
  obtain ⟨b, off, rfl, hf⟩ := h h0
  exact ⟨b, off, rfl, fun i hi => (hf i hi).lift (he b rfl (hf i hi).lt)⟩
theorem QIn.below {w w' : World} {v : Value} {l : List Qd} (h : QIn w v l) (hb : Below w.heap.size w w') : QIn w' v l := h.lift fun b _ hlt => hb.block b hlt
end Go.Proofs.Ytfcafomjldomfaa
end
section
namespace Go.Proofs.Ytfcafomjldomfaa
open Go.ChangeShapes Go.WideShapes Go.ChangeAt Go.RowKit

def p0 (n : Nat) : Nat := 2 ^ ((Lib.bitLen n + 1) / 2)
end Go.Proofs.Ytfcafomjldomfaa
end
