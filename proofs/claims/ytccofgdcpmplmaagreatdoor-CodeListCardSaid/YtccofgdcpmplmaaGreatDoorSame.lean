/- Are two functions, two programs the same: the program's answer. -/
import Derived.Test.YtccofgdcpmplmaaGreatDoorEqs
import Derived.Deep.CutRange
import Derived.Shelf.Abstract
namespace Go.Proofs.YtccofgdcpmplmaaGreatDoor
open Go Go.RowKit Go.Shelf
/-- What of a function is compared. -/
def Pr.core (p : Pr) : Int × Int × List Ins := (p.params, p.regs, p.code)
theorem core_dec (p q : Pr) : decide (p.core = q.core) = (decide (p.params = q.params) && decide (p.regs = q.regs) && decide (p.code = q.code)) := by
  unfold Pr.core
  simp [Prod.ext_iff, Bool.and_assoc]
theorem int_eqs {a b : Int} (h : a = b) : (a == b) = true ∧ (a != b) = false := by subst h; simp
theorem int_nes {a b : Int} (h : a ≠ b) : (a == b) = false ∧ (a != b) = true := by simp [h]
theorem wrap_in {z : Int} (h : inI z) : IntKind.i64.wrap z = z := IntWalk.i64_in z (by unfold inI at h; omega)
theorem map_take_next {a b : List Pr} {k : Nat} (ha : k < a.length) (hb : k < b.length) (h : (a.map Pr.core).take k = (b.map Pr.core).take k) (he : a[k].core = b[k].core) : (a.map Pr.core).take (k + 1) = (b.map Pr.core).take (k + 1) :=
  take_eq_next (by simpa using ha) (by simpa using hb) h (by simpa using he)
def gPr (W : World) (l : List Pr) : Prop := ∀ p ∈ l, RdI W p.A p.code
theorem gPr.below {W W' : World} {l : List Pr} (h : gPr W l) (hb : Below W.heap.size W W') : gPr W' l := fun p hp => (h p hp).below hb
def smallP (l : List Pr) : Prop := ∀ p ∈ l, p.code.length ≤ 1000000000000
/-- Two programs are the same. -/
def sameG (g h : Pg) : Bool := decide (g.ps.map Pr.core = h.ps.map Pr.core) && decide (g.is = h.is) && decide (g.ts = h.ts)
/-- A program that is no greater than is asked. -/
structure Pg.small (g : Pg) : Prop where
  p : g.ps.length ≤ 1000000000000
  c : smallP g.ps
  i : g.is.length ≤ 1000000000000
  t : g.ts.length ≤ 1000000000000
theorem cell3 {W : World} {b : Nat} {u v x : Value} {t : TypeId} (h : W.heap[b]? = some (.cells #[u, v, x] t (0, 0))) : W.cell? ⟨b, 0, none⟩ = some u ∧ W.cell? ⟨b, 1, none⟩ = some v ∧ W.cell? ⟨b, 2, none⟩ = some x := by
  refine ⟨?_, ?_, ?_⟩ <;> (simp only [World.cell?, h]; rfl)
theorem two_boxes (w : World) (a b : Array Value) (t : TypeId) : ((w.alloc (.cells a t)).alloc (.cells b t)).heap[w.heap.size]? = some (.cells a t (0, 0)) ∧ ((w.alloc (.cells a t)).alloc (.cells b t)).heap[w.heap.size + 1]? = some (.cells b t (0, 0)) ∧ Below w.heap.size w ((w.alloc (.cells a t)).alloc (.cells b t)) := by
  have h1 := heap_alloc_new w (.cells a t)
  have h2 := heap_alloc_new (w.alloc (.cells a t)) (.cells b t)
  have b1 := below_new w (.cells a t)
  have b2 := below_new (w.alloc (.cells a t)) (.cells b t)
  have s1 : (w.alloc (.cells a t)).heap.size = w.heap.size + 1 := by simp
  rw [s1] at h2
  exact ⟨(b2.block _ (by omega)).trans h1, h2, b1.trans (b2.mono (by omega))⟩
end Go.Proofs.YtccofgdcpmplmaaGreatDoor
