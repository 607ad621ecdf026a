/- A ring's places; a deque while it is changed. -/
import Derived.Test.YtnnlfhdjakabmaaDq
namespace Go.Proofs.Ytnnlfhdjakabmaa
open Go Go.RowKit
theorem md (a N : Nat) (h : a < 2 * N) : a % N = if a < N then a else a - N := by
  split
  · exact Nat.mod_eq_of_lt ‹_›
  · rw [Nat.mod_eq_sub_mod (by omega), Nat.mod_eq_of_lt (by omega)]
theorem md_inj {f i j N : Nat} (hf : f < N) (hi : i < N) (hj : j < N) (h : (f + i) % N = (f + j) % N) : i = j := by
  rw [md (f + i) N (by omega), md (f + j) N (by omega)] at h
  split at h <;> split at h <;> omega
theorem md_lt {a N : Nat} (h : 0 < N) : a % N < N := Nat.mod_lt _ h
theorem md_front {f i N : Nat} (hf : f < N) (hi : i + 1 < N) : ((f + (N - 1)) % N + (i + 1)) % N = (f + i) % N := by
  have h0 : 0 < N := by omega
  have h1 := md_lt (a := f + (N - 1)) h0
  rw [md _ N (by omega), md (f + (N - 1)) N (by omega), md (f + i) N (by omega)]
  split <;> split <;> split <;> omega
theorem md_next {f i N : Nat} (hf : f < N) (hi : i + 1 < N) : ((f + 1) % N + i) % N = (f + (i + 1)) % N := by
  have h0 : 0 < N := by omega
  have h1 := md_lt (a := f + 1) h0
  rw [md _ N (by omega), md (f + 1) N (by omega), md (f + (i + 1)) N (by omega)]
  split <;> split <;> split <;> omega
theorem md_self {f N : Nat} (hf : f < N) : (f + 0) % N = f := Nat.mod_eq_of_lt hf
theorem slot_x (D f i N c x : Nat) (A : Option Addr) (w : World) (h1 : w.cell? ⟨D, 1, none⟩ = some (.slice A N c)) (h2 : w.cell? ⟨D, 2, none⟩ = some (.int .i64 f)) (hN : 0 < N) (hf : f ≤ 1000000) (hi : i ≤ 1000000) (hNb : N ≤ 1000000) (hx : (f + i) % N = x) :
    Calls Try.prog 41 #[.pointer (some ⟨D, 0, none⟩), .int .i64 i] w fun e w' => e = .returned (.int .i64 x) ∧ ∃ q, w' = w.drewN q := by
  subst hx
  exact slot_at D f i N c A w h1 h2 hN hf hi hNb
structure St (D g c N : Nat) (f n : Nat) (ys : List Value) (w0 W : World) : Prop where
  box : W.heap[D]? = some (.cells #[.bool true, .slice (some ⟨g, 0, none⟩) N c, .int .i64 f, .int .i64 n] 68 (0, 0))
  row : W.ownsRow 0 9 1 (.slice (some ⟨g, 0, none⟩) N c) N ys
  keep : Keeps D (some g) w0 W
  ne : g ≠ D
section
variable {D g c N f n : Nat} {ys : List Value} {w0 W : World}
theorem St.start {l : List ByteArray} (h : DqI D l (.slice (some ⟨g, 0, none⟩) N c) N f ys W) : St D g c N f l.length ys W W := ⟨h.box, h.row, Keeps.refl _ _ _, (h.lt.2 g rfl).2⟩
theorem St.drewN (h : St D g c N f n ys w0 W) (q : Nat) : St D g c N f n ys w0 (W.drewN q) := ⟨h.box, h.row, ⟨h.keep.os, h.keep.tape, h.keep.output, h.keep.size, h.keep.block⟩, h.ne⟩
theorem St.drew (h : St D g c N f n ys w0 W) : St D g c N f n ys w0 W.drew := ⟨h.box, h.row, ⟨h.keep.os, h.keep.tape, h.keep.output, h.keep.size, h.keep.block⟩, h.ne⟩
theorem St.box_set (h : St D g c N f n ys w0 W) (j : Nat) (u : Value) : (W.setCell ⟨D, j, none⟩ u).heap[D]? = some (.cells ((#[.bool true, .slice (some ⟨g, 0, none⟩) N c, .int .i64 f, .int .i64 n] : Array Value).setIfInBounds j u) 68 (0, 0)) ∧ (W.setCell ⟨D, j, none⟩ u).ownsRow 0 9 1 (.slice (some ⟨g, 0, none⟩) N c) N ys ∧ Keeps D (some g) w0 (W.setCell ⟨D, j, none⟩ u) := by
  refine ⟨by simp [World.setCell, Array.getElem?_modify, h.box], ?_, ⟨h.keep.os, h.keep.tape, h.keep.output, by simp [World.setCell]; exact h.keep.size, fun k hk h1 h2 => (Below.heap_setCell W ⟨D, j, none⟩ u k h1).trans (h.keep.block k hk h1 h2)⟩⟩
  exact ownsRow_setCell_other h.row (a := ⟨D, j, none⟩) (by simp [Value.ownBlock]; exact h.ne) u
theorem St.setF (h : St D g c N f n ys w0 W) (x : Nat) : St D g c N x n ys w0 (W.setCell ⟨D, 2, none⟩ (.int .i64 x)) := by
  obtain ⟨h1, h2, h3⟩ := h.box_set 2 (.int .i64 x)
  exact ⟨h1, h2, h3, h.ne⟩
theorem St.setN (h : St D g c N f n ys w0 W) (x : Nat) : St D g c N f x ys w0 (W.setCell ⟨D, 3, none⟩ (.int .i64 x)) := by
  obtain ⟨h1, h2, h3⟩ := h.box_set 3 (.int .i64 x)
  exact ⟨h1, h2, h3, h.ne⟩
theorem St.setY (h : St D g c N f n ys w0 W) (j : Nat) (u : Value) : St D g c N f n (ys.set j u) w0 (W.setCell ⟨g, j, none⟩ u) := by
  obtain ⟨h1, h2⟩ := h.row.stored j u
  refine ⟨(h2.block D (Array.getElem?_eq_some_iff.1 h.box).1 (by simp; exact fun e => h.ne e.symm)).trans h.box, h1, ⟨h2.os.trans h.keep.os, h2.tape.trans h.keep.tape, h2.output.trans h.keep.output, Nat.le_trans h.keep.size h2.size, fun k hk e1 e2 => (h2.block k (Nat.lt_of_lt_of_le hk h.keep.size) (fun e => e2 e.symm)).trans (h.keep.block k hk e1 e2)⟩, h.ne⟩
theorem St.c1 (h : St D g c N f n ys w0 W) : W.cell? ⟨D, 1, none⟩ = some (.slice (some ⟨g, 0, none⟩) N c) := by simp [World.cell?, h.box]
theorem St.c2 (h : St D g c N f n ys w0 W) : W.cell? ⟨D, 2, none⟩ = some (.int .i64 f) := by simp [World.cell?, h.box]
theorem St.c3 (h : St D g c N f n ys w0 W) : W.cell? ⟨D, 3, none⟩ = some (.int .i64 n) := by simp [World.cell?, h.box]
theorem St.fr (h : St D g c N f n ys w0 W) (j : Nat) : W.frozen? ⟨D, j, none⟩ = false := by simp [World.frozen?, h.box]
theorem St.frg (h : St D g c N f n ys w0 W) (j : Nat) : W.frozen? ⟨g, j, none⟩ = false := h.row.frozenAt j
theorem St.cg (h : St D g c N f n ys w0 W) {j : Nat} {u : Value} (hj : ys[j]? = some u) : W.cell? ⟨g, j, none⟩ = some u := by
  have := h.row.cells (g := g) rfl j u hj
  rwa [add0] at this
theorem St.cx (h : St D g c N f n ys w0 W) {j : Nat} (hj : j < N) : ∃ u, W.cell? ⟨g, j, none⟩ = some u := by
  have hy := h.row.1
  exact ⟨_, h.cg (j := j) (List.getElem?_eq_getElem (by omega))⟩
theorem St.finish (h : St D g c N f n ys w0 W) {l : List ByteArray} (hn : l.length = n) (hl : n ≤ N) (hf : f < N) (hc : N ≤ 500000) (hi : ∀ i (h : i < l.length), ys[(f + i) % N]? = some (.string l[i])) : Dq D (some g) l W ∧ Keeps D (some g) w0 W :=
  ⟨⟨_, N, f, ys, rfl, ⟨by rw [hn]; exact h.box, h.row, by omega, .inl hf, hi, hc⟩⟩, h.keep⟩
end
section
variable {D N c g f : Nat} {l : List ByteArray} {ys : List Value} {W : World}
theorem items_last (h : DqI D l (.slice (some ⟨g, 0, none⟩) N c) N f ys W) (hlt : l.length < N) (hf : f < N) (t : ByteArray) : ∀ i (h : i < (l ++ [t]).length), (ys.set ((f + l.length) % N) (.string t))[(f + i) % N]? = some (.string (l ++ [t])[i]) := by
  intro i hi
  have hy : ys.length = N := by have := h.row.1; omega
  by_cases e : i = l.length
  · subst e
    rw [List.getElem?_set_self (by rw [hy]; exact md_lt (by omega))]
    simp
  · have hi' : i < l.length := by simp at hi; omega
    rw [List.getElem?_set_ne (fun e2 => e (md_inj hf (by omega) (by omega) e2).symm), h.item i hi', List.getElem_append_left hi']
theorem items_first (h : DqI D l (.slice (some ⟨g, 0, none⟩) N c) N f ys W) (hlt : l.length < N) (hf : f < N) (t : ByteArray) : ∀ i (h : i < (t :: l).length), (ys.set ((f + (N - 1)) % N) (.string t))[((f + (N - 1)) % N + i) % N]? = some (.string (t :: l)[i]) := by
  intro i hi
  have hy : ys.length = N := by have := h.row.1; omega
  cases i with
  | zero =>
    rw [md_self (md_lt (by omega)), List.getElem?_set_self (by rw [hy]; exact md_lt (by omega))]
    rfl
  | succ i =>
    have hi' : i < l.length := by simp at hi; omega
    rw [md_front hf (by omega), List.getElem?_set_ne (fun e => by have := md_inj hf (by omega) (by omega) e; omega), h.item i hi']
    rfl
theorem items_tail {a : ByteArray} (h : DqI D (a :: l) (.slice (some ⟨g, 0, none⟩) N c) N f ys W) (hf : f < N) (u : Value) : ∀ i (h : i < l.length), (ys.set f u)[((f + 1) % N + i) % N]? = some (.string l[i]) := by
  intro i hi
  have hl := h.len
  simp at hl
  rw [md_next hf (by omega), List.getElem?_set_ne (fun e => by
    have := md_inj (i := 0) (j := i + 1) hf (by omega) (by omega) (by rw [md_self hf]; exact e)
    omega), h.item (i + 1) (by simp; omega)]
  rfl
theorem items_init {a : ByteArray} (h : DqI D (l ++ [a]) (.slice (some ⟨g, 0, none⟩) N c) N f ys W) (hf : f < N) (u : Value) : ∀ i (h : i < l.length), (ys.set ((f + l.length) % N) u)[(f + i) % N]? = some (.string l[i]) := by
  intro i hi
  have hl := h.len
  simp at hl
  rw [List.getElem?_set_ne (fun e => by have := md_inj hf (by omega) (by omega) e; omega), h.item i (by simp; omega), List.getElem_append_left hi]
end
end Go.Proofs.Ytnnlfhdjakabmaa
