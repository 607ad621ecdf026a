/- A deque whose arguments are overwritten. -/
import Derived.Test.YtnnlfhdjakabmaaDt
namespace Go.Proofs.Ytnnlfhdjakabmaa
open Go Go.RowKit
open Go.Shelf
/-- The world while the row in block g is overwritten: the deque stays, and all blocks below B but g. -/
def PU (w V : World) (B g D : Nat) (L : List ByteArray) (W : World) : Prop := (∃ r, Dq D r L W ∧ Far B D r) ∧ Below w.heap.size w W ∧ B ≤ W.heap.size ∧ ∀ k, k < B → k ≠ g → W.heap[k]? = V.heap[k]?
theorem pu_start {w V W : World} {D g : Nat} {L : List ByteArray} (h : DS V D L W) (hb : Below w.heap.size w V) : PU w V V.heap.size g D L W :=
  ⟨h.1, hb.trans (h.2.mono hb.size), h.2.size, fun k hk _ => h.2.block k hk⟩
theorem pu_step {w V W W2 : World} {B g D : Nat} {L : List ByteArray} (h : PU w V B g D L W) (hg : W.grownBy W2 (some g)) (h1 : w.heap.size ≤ g) (h2 : g < B) : PU w V B g D L W2 := by
  obtain ⟨⟨r, hd, hf⟩, hb, hs, hk⟩ := h
  refine ⟨⟨r, hd.frame (hg.block D hd.lt.1 (fun e => ?_)) (fun k e => hg.block k (hd.lt.2 k e).1 (fun e2 => ?_)), hf⟩, hb.grown hg hb.size (fun k e => by cases e; exact h1), Nat.le_trans hs hg.size, fun k hk1 hk2 => (hg.block k (by omega) (fun e => hk2 (by cases e; rfl))).trans (hk k hk1 hk2)⟩
  · cases e; have := hf.1; omega
  · cases e2; have := hf.2 _ e; omega
theorem pu_ds {w V W : World} {B g D : Nat} {L : List ByteArray} (h : PU w V B g D L W) (hB : w.heap.size ≤ B) : DS w D L W := by
  obtain ⟨⟨r, hd, hf⟩, hb, hs, hk⟩ := h
  exact ⟨⟨r, hd, hf.mono hB⟩, hb⟩
theorem rdV_block {V W : World} {g c : Nat} {xs : List Value} (h : RdV V (some ⟨g, 0, none⟩) xs) (hk : W.heap[g]? = V.heap[g]?) (hs : g < W.heap.size) : RdV W (some ⟨g, 0, none⟩) xs := by
  intro h0
  obtain ⟨b, off, e, hlt, hc⟩ := h h0
  cases e
  exact ⟨g, 0, rfl, hs, fun j hj => by rw [← hc j hj]; simp only [World.cell?, hk]⟩
theorem RdV.front' {W : World} {A : Option Addr} {t : ByteArray} {L : List ByteArray} (h : RdV W A (cellsS (L ++ [t]))) : RdV W A (cellsS L) := by
  intro h0
  obtain ⟨b, off, e, hlt, hc⟩ := h (by rw [cellsS_len]; simp)
  refine ⟨b, off, e, hlt, fun j hj => ?_⟩
  rw [cellsS_len] at hj
  rw [hc j (by rw [cellsS_len]; simp; omega)]
  simp [cellsS, List.getElem?_append_left, hj, List.getElem_append_left]
end Go.Proofs.Ytnnlfhdjakabmaa
