/- The law of order: what stands in memory while it is worked out. -/
import Derived.Test.YthbnhplkoomdhaaDoorOpTell
import Derived.Test.YthbnhplkoomdhaaDoorQuiet
import Derived.Test.YthbnhplkoomdhaaDoorLong
import Derived.Test.YthbnhplkoomdhaaDoorRefChk
namespace Go.Proofs.YthbnhplkoomdhaaDoor
open Go Go.RowKit
structure HasV (w W : World) (H ob X : Nat) (rx ry : Array Value) : Prop where
  heap : HeapAt W H ob (.slice none 0 0) 0 0
  x : W.heap[X]? = some (.cells rx 24 (0, 0))
  y : W.heap[X + 1]? = some (.cells ry 24 (0, 0))
  bel : Below w.heap.size w W
theorem HasV.grow {w W W' : World} {H ob X : Nat} {rx ry : Array Value} (h : HasV w W H ob X rx ry) (hb : Below W.heap.size W W') : HasV w W' H ob X rx ry :=
  ⟨h.heap.below hb, (hb.block _ (hlt h.x)).trans h.x, (hb.block _ (hlt h.y)).trans h.y, h.bel.trans (hb.mono h.bel.size)⟩
theorem HasV.alloc {w W : World} {H ob X : Nat} {rx ry : Array Value} (h : HasV w W H ob X rx ry) (o : Obj) : HasV w (W.alloc o) H ob X rx ry := h.grow (below_alloc _ _)
theorem so_one (w : World) : Calls Tryd.prog 16 #[.agg #[.int .i64 1, .int .i64 1, .string { data := #[] }]] w fun e w' => e = .returned (.bool true) ∧ Below w.heap.size w w' := so_bool true w
theorem so_zero (w : World) : Calls Tryd.prog 16 #[.agg #[.int .i64 1, .int .i64 0, .string { data := #[] }]] w fun e w' => e = .returned (.bool false) ∧ Below w.heap.size w w' := so_bool false w
end Go.Proofs.YthbnhplkoomdhaaDoor
