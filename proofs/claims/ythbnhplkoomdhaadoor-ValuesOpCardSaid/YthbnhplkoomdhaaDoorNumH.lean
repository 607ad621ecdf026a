/- The law of numbers, way by way. -/
import Derived.Test.YthbnhplkoomdhaaDoorBase
import Derived.Deep.RegionHeld3
namespace Go.Proofs.YthbnhplkoomdhaaDoor
open Go Go.RowKit
/-- What a heap that New made tells of an operator. -/
def OpC (k : Array UInt8) (x y V : Value) (why : Array UInt8) : Prop :=
  ∀ W H ob tb c s0, HeapAt W H ob tb c s0 → Calls Tryd.prog 10 #[.pointer (some ⟨H, 0, none⟩), .string { data := k }, x, y] W fun e w' => e = .returned (.tuple #[V, .string { data := why }]) ∧ Below W.heap.size W w'
/-- What stands in memory while the law is worked out: the heap, the two numbers' boxes. -/
structure Has (w W : World) (H ob X Y : Nat) (a b : Int) : Prop where
  heap : HeapAt W H ob (.slice none 0 0) 0 0
  x : W.heap[X]? = some (.cells #[.int .i64 2, .int .i64 a, .string { data := #[] }] 24 (0, 0))
  y : W.heap[Y]? = some (.cells #[.int .i64 2, .int .i64 b, .string { data := #[] }] 24 (0, 0))
  bel : Below w.heap.size w W
theorem Has.grow {w W W' : World} {H ob X Y : Nat} {a b : Int} (h : Has w W H ob X Y a b) (hb : Below W.heap.size W W') : Has w W' H ob X Y a b :=
  ⟨h.heap.below hb, (hb.block _ (hlt h.x)).trans h.x, (hb.block _ (hlt h.y)).trans h.y, h.bel.trans (hb.mono h.bel.size)⟩
theorem Has.alloc {w W : World} {H ob X Y : Nat} {a b : Int} (h : Has w W H ob X Y a b) (o : Obj) : Has w (W.alloc o) H ob X Y a b := h.grow ((Below.refl _ _).alloc (Nat.le_refl _) o)
theorem below_alloc (W : World) (o : Obj) : Below W.heap.size W (W.alloc o) := (Below.refl _ _).alloc (Nat.le_refl _) o
theorem eq24 (n : Int) (w : World) : (Op.equalIn 10000 24 (.agg #[.int .i64 2, .int .i64 n, .string { data := #[] }]) (.agg #[.int .i64 2, .int .i64 n, .string { data := #[] }])).run Tryd.prog w = .ok true w := by
  have hS : Tryd.prog.underlying 24 = some (.struct (Tryd.prog.fieldsOf 24)) := by kernel_rfl
  have hp : Tryd.prog.stoodInHeld 24 = false := by kernel_rfl
  have z2 := Tryd.sizeOf2
  have z22 := Tryd.sizeOf22
  have z9 := Tryd.sizeOf9
  rw [show (10000 : Nat) = 9999 + 1 from rfl, run_equalIn_agg w 9999 24 _ _ hS hp]
  simp only [Program.fieldsOf, Tryd.underlying24]
  go_simp
theorem eq24no (w : World) : (Op.equalIn 10000 24 (.agg #[.int .i64 0, .int .i64 0, .string { data := #[] }]) (.agg #[.int .i64 0, .int .i64 0, .string { data := #[] }])).run Tryd.prog w = .ok true w := by
  have hS : Tryd.prog.underlying 24 = some (.struct (Tryd.prog.fieldsOf 24)) := by kernel_rfl
  have hp : Tryd.prog.stoodInHeld 24 = false := by kernel_rfl
  have z2 := Tryd.sizeOf2
  have z22 := Tryd.sizeOf22
  have z9 := Tryd.sizeOf9
  rw [show (10000 : Nat) = 9999 + 1 from rfl, run_equalIn_agg w 9999 24 _ _ hS hp]
  simp only [Program.fieldsOf, Tryd.underlying24]
  go_simp
theorem below_drew (W : World) : Below W.heap.size W W.drew := (Below.refl _ _).drew
abbrev Z24 : Obj := .cells #[.int .i64 0, .int .i64 0, .string { data := #[] }] 24
/-- What stands behind a call of the last two: no box of theirs, or one of noughts. -/
structure I0 (w W : World) (H ob X PN : Nat) (a b : Int) (NR : Array Value) : Prop where
  has : Has w W H ob X (X + 1) a b
  n : W.heap[PN]? = some (.cells NR 24 (0, 0))
structure I1 (w W : World) (H ob X PN : Nat) (a b : Int) (NR : Array Value) (G : Nat) : Prop where
  has : Has w W H ob X (X + 1) a b
  n : W.heap[PN]? = some (.cells NR 24 (0, 0))
  z : W.heap[G]? = some (.cells #[.int .i64 0, .int .i64 0, .string { data := #[] }] 24 (0, 0))
  ne : ¬ X = G
  ge : w.heap.size ≤ G
  nep : PN ≠ G
theorem callI_a {w wN : World} {H ob X PN : Nat} {a b : Int} {NR : Array Value} (hS : Has w wN H ob X (X + 1) a b) (hN : wN.heap[PN]? = some (.cells NR 24 (0, 0))) :
    Calls Tryd.prog 13 #[.int .i64 0] wN.drew fun e wi => e = .returned (valI 0) ∧ I0 w wi H ob X PN a b NR :=
  (int_any 0 _).mono fun _ wi ⟨he, hbi⟩ => ⟨he, have hb : Below wN.heap.size wN wi := (below_drew wN).trans hbi; ⟨hS.grow hb, (hb.block _ (hlt hN)).trans hN⟩⟩
theorem callI_b {w wN : World} {H ob X PN : Nat} {a b : Int} {NR : Array Value} (hS : Has w wN H ob X (X + 1) a b) (hN : wN.heap[PN]? = some (.cells NR 24 (0, 0))) :
    Calls Tryd.prog 13 #[.int .i64 0] (wN.alloc Z24).drew fun e wi => e = .returned (valI 0) ∧ I1 w wi H ob X PN a b NR wN.heap.size :=
  (int_any 0 _).mono fun _ wi ⟨he, hbi⟩ => ⟨he,
    have hb1 : Below (wN.alloc Z24).heap.size (wN.alloc Z24) wi := (below_drew _).trans hbi
    have hn1 : (wN.alloc Z24).heap[PN]? = some (.cells NR 24 (0, 0)) := alloc_at hN
    ⟨(hS.alloc _).grow hb1, (hb1.block _ (hlt hn1)).trans hn1, (hb1.block _ (hlt (new_at wN _))).trans (new_at wN _), by have := hlt hS.x; omega, hS.bel.size, by have := hlt hN; omega⟩⟩
theorem callM_0 {w wi : World} {H ob X PN : Nat} {a b : Int} {NR : Array Value} {V : Value} {why : Array UInt8} (hO : OpC #[45] (valI 0) (valI a) V why) (h : I0 w wi H ob X PN a b NR) :
    Calls Tryd.prog 10 #[.pointer (some ⟨H, 0, none⟩), .string { data := #[45] }, valI 0, valI a] wi fun e wm => e = .returned (.tuple #[V, .string { data := why }]) ∧ I0 w wm H ob X PN a b NR :=
  (hO wi H ob _ 0 0 h.has.heap).mono fun _ _ ⟨he, hb⟩ => ⟨he, h.has.grow hb, (hb.block _ (hlt h.n)).trans h.n⟩
theorem callM_1 {w wi : World} {H ob X PN G : Nat} {a b : Int} {NR : Array Value} {V : Value} {why : Array UInt8} (hO : OpC #[45] (valI 0) (valI a) V why) (h : I1 w wi H ob X PN a b NR G) :
    Calls Tryd.prog 10 #[.pointer (some ⟨H, 0, none⟩), .string { data := #[45] }, valI 0, valI a] wi fun e wm => e = .returned (.tuple #[V, .string { data := why }]) ∧ I1 w wm H ob X PN a b NR G :=
  (hO wi H ob _ 0 0 h.has.heap).mono fun _ _ ⟨he, hb⟩ => ⟨he, h.has.grow hb, (hb.block _ (hlt h.n)).trans h.n, (hb.block _ (hlt h.z)).trans h.z, h.ne, h.ge, h.nep⟩
theorem callM_2 {w wi : World} {H ob X PN : Nat} {a b : Int} {NR : Array Value} {V : Value} {why : Array UInt8} (hO : OpC #[45] (valI 0) (valI a) V why) (h : I0 w wi H ob X PN a b NR) :
    Calls Tryd.prog 10 #[.pointer (some ⟨H, 0, none⟩), .string { data := #[45] }, valI 0, valI a] (wi.alloc Z24) fun e wm => e = .returned (.tuple #[V, .string { data := why }]) ∧ I1 w wm H ob X PN a b NR wi.heap.size :=
  (hO _ H ob _ 0 0 (h.has.alloc _).heap).mono fun _ _ ⟨he, hb⟩ => ⟨he,
    have hn1 : (wi.alloc Z24).heap[PN]? = some (.cells NR 24 (0, 0)) := alloc_at h.n
    ⟨(h.has.alloc _).grow hb, (hb.block _ (hlt hn1)).trans hn1, (hb.block _ (hlt (new_at wi _))).trans (new_at wi _), by have := hlt h.has.x; omega, h.has.bel.size, by have := hlt h.n; omega⟩⟩
def store3W (W : World) (g : Nat) (x y z : Value) : World := ((W.setCell ⟨g, 0, none⟩ x).setCell ⟨g, 1, none⟩ y).setCell ⟨g, 2, none⟩ z
/-- What stands behind the region: both boxes. -/
structure Fin (w W : World) (X PN M : Nat) (a : Int) (NR : Array Value) : Prop where
  x : W.heap[X]? = some (.cells #[.int .i64 2, .int .i64 a, .string { data := #[] }] 24 (0, 0))
  n : W.heap[PN]? = some (.cells NR 24 (0, 0))
  m : W.heap[M]? = some (.cells NR 24 (0, 0))
  bel : Below w.heap.size w W
theorem fin_0 {w W : World} {H ob X PN : Nat} {a b : Int} {NR : Array Value} (h : I0 w W H ob X PN a b NR) : Fin w (W.alloc (.cells NR 24)) X PN W.heap.size a NR :=
  ⟨(h.has.alloc _).x, alloc_at h.n, new_at _ _, (h.has.alloc _).bel⟩
theorem fin_1 {w W : World} {H ob X PN G : Nat} {a b : Int} {x y z : Value} (h : I1 w W H ob X PN a b #[x, y, z] G) : Fin w (store3W W G x y z) X PN G a #[x, y, z] := by
  have h1 := heap_setCell_same W G 0 _ 24 x h.z
  have h2 := heap_setCell_same _ G 1 _ 24 y h1
  have h3 := heap_setCell_same _ G 2 _ 24 z h2
  refine ⟨?_, ?_, h3, ?_⟩
  · exact ((heap_setCell_other _ _ X _ h.ne).trans ((heap_setCell_other _ _ X _ h.ne).trans (heap_setCell_other _ _ X _ h.ne))).trans h.has.x
  · exact ((heap_setCell_other _ _ PN _ h.nep).trans ((heap_setCell_other _ _ PN _ h.nep).trans (heap_setCell_other _ _ PN _ h.nep))).trans h.n
  · exact ((h.has.bel.setCell (p := ⟨G, 0, none⟩) h.ge _).setCell (p := ⟨G, 1, none⟩) h.ge _).setCell (p := ⟨G, 2, none⟩) h.ge _
theorem eqFin {w W : World} {X PN M : Nat} {a : Int} (n : Int) (_h : Fin w W X PN M a #[.int .i64 2, .int .i64 n, .string { data := #[] }]) : (Op.equalIn 10000 24 (.agg #[.int .i64 2, .int .i64 n, .string { data := #[] }]) (.agg #[.int .i64 2, .int .i64 n, .string { data := #[] }])).run Tryd.prog W = .ok true W := eq24 n W
theorem eqFin0 {w W : World} {X PN M : Nat} {a : Int} (_h : Fin w W X PN M a #[.int .i64 0, .int .i64 0, .string { data := #[] }]) : (Op.equalIn 10000 24 (.agg #[.int .i64 0, .int .i64 0, .string { data := #[] }]) (.agg #[.int .i64 0, .int .i64 0, .string { data := #[] }])).run Tryd.prog W = .ok true W := eq24no W
end Go.Proofs.YthbnhplkoomdhaaDoor
