/- An instruction, by definition: the head. -/
import Derived.Test.YtccofgdcpmplmaaGreatDoorReg
namespace Go.Proofs.YtccofgdcpmplmaaGreatDoor
open Go Go.RowKit Go.Shelf
theorem three_boxes (w : World) (a b c : Array Value) (t u v : TypeId) : (((w.alloc (.cells a t)).alloc (.cells b u)).alloc (.cells c v)).heap[w.heap.size]? = some (.cells a t (0, 0)) ∧ (((w.alloc (.cells a t)).alloc (.cells b u)).alloc (.cells c v)).heap[w.heap.size + 1]? = some (.cells b u (0, 0)) ∧ (((w.alloc (.cells a t)).alloc (.cells b u)).alloc (.cells c v)).heap[w.heap.size + 2]? = some (.cells c v (0, 0)) ∧ Below w.heap.size w (((w.alloc (.cells a t)).alloc (.cells b u)).alloc (.cells c v)) := by
  have h1 := heap_alloc_new w (.cells a t)
  have h2 := heap_alloc_new (w.alloc (.cells a t)) (.cells b u)
  have h3 := heap_alloc_new ((w.alloc (.cells a t)).alloc (.cells b u)) (.cells c v)
  have b1 := below_new w (.cells a t)
  have b2 := below_new (w.alloc (.cells a t)) (.cells b u)
  have b3 := below_new ((w.alloc (.cells a t)).alloc (.cells b u)) (.cells c v)
  have e1 : (w.alloc (.cells a t)).heap.size = w.heap.size + 1 := Array.size_push _
  have e2 : ((w.alloc (.cells a t)).alloc (.cells b u)).heap.size = w.heap.size + 2 := (Array.size_push _).trans (by rw [e1])
  have h3' := h3
  rw [e2] at h3'
  have h2' := (b3.block _ (Array.getElem?_eq_some_iff.1 h2).1).trans h2
  rw [e1] at h2'
  have h1' := (b2.block _ (Array.getElem?_eq_some_iff.1 h1).1).trans h1
  have h1'' := (b3.block _ (Array.getElem?_eq_some_iff.1 h1').1).trans h1'
  exact ⟨h1'', h2', h3', (b1.trans (b2.mono b1.size)).trans (b3.mono (b1.trans (b2.mono b1.size)).size)⟩
/-- What an instruction is asked in: three boxes. -/
structure IB (g : Pg) (p : Pr) (x : Ins) (n : Nat) (W : World) : Prop where
  b0 : W.heap[n]? = some (.cells g.vals 26 (0, 0))
  b1 : W.heap[n + 1]? = some (.cells p.vals 39 (0, 0))
  b2 : W.heap[n + 2]? = some (.cells x.vals 42 (0, 0))
theorem IB.below {g : Pg} {p : Pr} {x : Ins} {n : Nat} {W W' : World} (h : IB g p x n W) (hb : Below W.heap.size W W') : IB g p x n W' := ⟨(hb.block _ (Array.getElem?_eq_some_iff.1 h.b0).1).trans h.b0, (hb.block _ (Array.getElem?_eq_some_iff.1 h.b1).1).trans h.b1, (hb.block _ (Array.getElem?_eq_some_iff.1 h.b2).1).trans h.b2⟩
theorem IB.pc {g : Pg} {p : Pr} {x : Ins} {n : Nat} {W : World} (h : IB g p x n W) : (W.cell? ⟨n + 1, 0, none⟩ = some (.int .i64 p.params) ∧ W.cell? ⟨n + 1, 1, none⟩ = some (.int .i64 p.regs) ∧ W.cell? ⟨n + 1, 2, none⟩ = some (.slice p.A p.code.length p.cap)) ∧ W.cell? ⟨n + 2, 0, none⟩ = some (.int .i64 x.op) ∧ W.cell? ⟨n + 2, 1, none⟩ = some (.int .i64 x.a) ∧ W.cell? ⟨n + 2, 2, none⟩ = some (.int .i64 x.b) ∧ W.cell? ⟨n + 2, 3, none⟩ = some (.int .i64 x.c) := ⟨cell3 h.b1, cell4 h.b2⟩
theorem IB.gc {g : Pg} {p : Pr} {x : Ins} {n : Nat} {W : World} (h : IB g p x n W) : W.cell? ⟨n, 0, none⟩ = some (.slice g.PA g.ps.length g.Pc) ∧ W.cell? ⟨n, 1, none⟩ = some (.slice g.IA g.is.length g.Ic) ∧ W.cell? ⟨n, 2, none⟩ = some (.slice g.TA g.ts.length g.Tc) := cell3 h.b0
end Go.Proofs.YtccofgdcpmplmaaGreatDoor
