/- What stands while a request is read. -/
import Derived.Test.YtglicojojpggmaaDoorDoor
namespace Go.Proofs.YtglicojojpggmaaDoor
open Go Go.RowKit
theorem only_below {G B : Nat} {w w' : World} (h : Only G w w') (hB : B ≤ G) (hs : B ≤ w.heap.size) : Below B w w' :=
  ⟨h.os, h.tape, h.output, h.size, fun k hk => h.block k (by omega) (fun e => by injection e with e; omega)⟩
/-- The results' variables, the first with its texts; the taker's box; the input. -/
structure PS (w W : World) (G B : Nat) (A : Option Addr) (n c : Nat) (l : List UInt8) (v : Value) (ls : List ByteArray) (a : Nat) (tx : Int) : Prop where
  v0 : W.heap[w.heap.size]? = some (.cells #[v] 22 (0, 0))
  v1 : W.heap[w.heap.size + 1]? = some (.cells #[.int .i64 0] 3 (0, 0))
  v2 : W.heap[w.heap.size + 2]? = some (.cells #[.int .i64 0] 26 (0, 0))
  bel : Below w.heap.size w W
  box : W.heap[B]? = some (.cells (takerV G) 81 (0, 0))
  inp : Inp W G A n c l a tx 65536 0
  own : W.ownsRow (B + 1) 9 1 v ls.length (cellsS ls)
  gb : G < B
  g3 : w.heap.size + 3 ≤ G
section
variable {w W W' : World} {G B : Nat} {A : Option Addr} {n c : Nat} {l : List UInt8} {v : Value} {ls : List ByteArray} {a a' : Nat} {tx tx' : Int}
theorem PS.only (h : PS w W G B A n c l v ls a tx) (ho : Only G W W') (hi : Inp W' G A n c l a' tx' 65536 0) : PS w W' G B A n c l v ls a' tx' := by
  have hB := lt_of_block h.box
  have h3 := h.g3
  have hg := h.gb
  have st : ∀ k, k < W.heap.size → k ≠ G → W'.heap[k]? = W.heap[k]? := fun k hk hn => ho.block k hk (fun e => hn (by injection e))
  refine ⟨(st _ (by omega) (by omega)).trans h.v0, (st _ (by omega) (by omega)).trans h.v1, (st _ (by omega) (by omega)).trans h.v2, h.bel.trans (only_below ho (by omega) (by omega)), (st _ hB (by omega)).trans h.box, hi, h.own.kept ho (.inr (fun e => by have := (h.own.lt _ e).1; omega)), hg, h3⟩
theorem PS.drew (h : PS w W G B A n c l v ls a tx) (q : Nat) : PS w (W.drewN q) G B A n c l v ls a tx := h.only (only_drew G W q) (h.inp.drew q)
theorem PS.stop (h : PS w W G B A n c l v ls a tx) (ho : Only G W W') (R : Int × List ByteArray × Nat) (k : Int) (hk : k ≠ 0) (hr : R = (k, [], 0)) (tmps : Array Value) (t2 : tmps.getD 2 undef = .pointer (some ⟨w.heap.size, 0, none⟩)) (t3 : tmps.getD 3 undef = .pointer (some ⟨w.heap.size + 1, 0, none⟩)) (t4 : tmps.getD 4 undef = .pointer (some ⟨w.heap.size + 2, 0, none⟩)) :
    bodyPostD Tryd.prog Tryd.f18 (ParseEnd w R) (.panic (stopP k)) { tmps := tmps, defers := [D3 w.heap.size] } W' := by
  have hB := lt_of_block h.box
  have h3 := h.g3
  have hg := h.gb
  have st : ∀ k, k < W.heap.size → k ≠ G → W'.heap[k]? = W.heap[k]? := fun k hk hn => ho.block k hk (fun e => hn (by injection e))
  exact door_stop w W' k hk _ _ _ tmps t2 t3 t4 ((st _ (by omega) (by omega)).trans h.v0) ((st _ (by omega) (by omega)).trans h.v1) ((st _ (by omega) (by omega)).trans h.v2) (h.bel.trans (only_below ho (by omega) (by omega))) R hr
/-- The taker's cells. -/
theorem PS.takes (h : PS w W G B A n c l v ls a tx) : W.cell? ⟨B, 0, none⟩ = some (mv 61 G) ∧ W.cell? ⟨B, 1, none⟩ = some (mv 62 G) ∧ W.cell? ⟨B, 2, none⟩ = some (mv 63 G) ∧ W.cell? ⟨B, 4, none⟩ = some (mv 65 G) := by
  refine ⟨?_, ?_, ?_, ?_⟩
  · simp only [World.cell?, h.box]; rfl
  · simp only [World.cell?, h.box]; rfl
  · simp only [World.cell?, h.box]; rfl
  · simp only [World.cell?, h.box]; rfl
end
end Go.Proofs.YtglicojojpggmaaDoor
