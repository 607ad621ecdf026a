/- A deque as it lies. -/
import Derived.Test.YtnnlfhdjakabmaaBase
import Derived.Test.YtnnlfhdjakabmaaSpan
namespace Go.Proofs.Ytnnlfhdjakabmaa
open Go Go.RowKit
/-- A deque in block D, whose ring is the row v of N cells, the front at f. -/
structure DqI (D : Nat) (l : List ByteArray) (v : Value) (N f : Nat) (ys : List Value) (W : World) : Prop where
  box : W.heap[D]? = some (.cells #[.bool true, v, .int .i64 f, .int .i64 l.length] 68 (0, 0))
  row : W.ownsRow 0 9 1 v N ys
  len : l.length ≤ N
  fst : f < N ∨ (N = 0 ∧ f = 0)
  item : ∀ i (h : i < l.length), ys[(f + i) % N]? = some (.string l[i])
  cap : N ≤ 500000
/-- A deque in block D, with these texts; its ring is in block r. -/
def Dq (D : Nat) (r : Option Nat) (l : List ByteArray) (W : World) : Prop := ∃ v N f ys, r = v.ownBlock ∧ DqI D l v N f ys W
/-- What stays but for the deque's two blocks. -/
structure Keeps (D : Nat) (r : Option Nat) (W W' : World) : Prop where
  os : W'.os = W.os
  tape : W'.tape = W.tape
  output : W'.output = W.output
  size : W.heap.size ≤ W'.heap.size
  block : ∀ k, k < W.heap.size → k ≠ D → r ≠ some k → W'.heap[k]? = W.heap[k]?
/-- The ring's block behind a call: the same one, or a new one. -/
def Next (W : World) (r r' : Option Nat) : Prop := r' = r ∨ ∀ k, r' = some k → W.heap.size ≤ k
theorem Keeps.refl (D : Nat) (r : Option Nat) (W : World) : Keeps D r W W := ⟨rfl, rfl, rfl, Nat.le_refl _, fun _ _ _ _ => rfl⟩
theorem Keeps.of_below {D : Nat} {r : Option Nat} {W W' : World} (h : Below W.heap.size W W') : Keeps D r W W' := ⟨h.os, h.tape, h.output, h.size, fun k hk _ _ => h.block k hk⟩
theorem Keeps.trans {D : Nat} {r r' : Option Nat} {W W' V : World} (h : Keeps D r W W') (k : Keeps D r' W' V) (hn : Next W r r') : Keeps D r W V :=
  ⟨k.os.trans h.os, k.tape.trans h.tape, k.output.trans h.output, Nat.le_trans h.size k.size, fun j hj h1 h2 => (k.block j (Nat.lt_of_lt_of_le hj h.size) h1 (by
    rcases hn with rfl | hn
    · exact h2
    · intro e; have := hn j e; omega)).trans (h.block j hj h1 h2)⟩
theorem Next.trans {W W' : World} {r r' r2 : Option Nat} (h : Next W r r') (k : Next W' r' r2) (hs : W.heap.size ≤ W'.heap.size) : Next W r r2 := by
  rcases k with rfl | k
  · exact h
  · exact .inr fun j e => Nat.le_trans hs (k j e)
theorem Next.refl (W : World) (r : Option Nat) : Next W r r := .inl rfl
/-- The blocks of a deque lie behind B. -/
def Far (B D : Nat) (r : Option Nat) : Prop := B ≤ D ∧ ∀ k, r = some k → B ≤ k
theorem Far.next {B D : Nat} {r r' : Option Nat} {W : World} (h : Far B D r) (hn : Next W r r') (hB : B ≤ W.heap.size) : Far B D r' := by
  refine ⟨h.1, fun k e => ?_⟩
  rcases hn with rfl | hn
  · exact h.2 k e
  · exact Nat.le_trans hB (hn k e)
theorem Far.mono {B B' D : Nat} {r : Option Nat} (h : Far B D r) (hb : B' ≤ B) : Far B' D r := ⟨Nat.le_trans hb h.1, fun k e => Nat.le_trans hb (h.2 k e)⟩
theorem Keeps.below {B D : Nat} {r : Option Nat} {W W' : World} (h : Keeps D r W W') (hf : Far B D r) (hB : B ≤ W.heap.size) : Below B W W' :=
  ⟨h.os, h.tape, h.output, h.size, fun k hk => h.block k (by omega) (by have := hf.1; omega) (fun e => by have := hf.2 k e; omega)⟩
theorem DqI.frame {D : Nat} {l : List ByteArray} {v : Value} {N f : Nat} {ys : List Value} {W W' : World} (h : DqI D l v N f ys W) (h1 : W'.heap[D]? = W.heap[D]?) (h2 : ∀ k, v.ownBlock = some k → W'.heap[k]? = W.heap[k]?) : DqI D l v N f ys W' := by
  refine ⟨h1.trans h.box, ⟨h.row.1, ?_⟩, h.len, h.fst, h.item, h.cap⟩
  rcases h.row.2 with h3 | ⟨g, cap, cur, rfl, hb, hg, rest⟩
  · exact .inl h3
  · exact .inr ⟨g, cap, cur, rfl, hb, (h2 g rfl).trans hg, rest⟩
theorem DqI.lt {D : Nat} {l : List ByteArray} {v : Value} {N f : Nat} {ys : List Value} {W : World} (h : DqI D l v N f ys W) : D < W.heap.size ∧ ∀ k, v.ownBlock = some k → k < W.heap.size ∧ k ≠ D := by
  refine ⟨(Array.getElem?_eq_some_iff.1 h.box).1, fun k hk => ⟨(h.row.lt k hk).2, ?_⟩⟩
  rintro rfl
  rcases h.row.2 with ⟨rfl, _⟩ | ⟨g, cap, cur, rfl, hb, hg, _⟩
  · cases hk
  · cases hk
    rw [h.box] at hg
    cases hg
theorem Dq.lt {D : Nat} {r : Option Nat} {l : List ByteArray} {W : World} (h : Dq D r l W) : D < W.heap.size ∧ ∀ k, r = some k → k < W.heap.size ∧ k ≠ D := by
  obtain ⟨v, N, f, ys, rfl, h⟩ := h
  exact h.lt
theorem Dq.frame {D : Nat} {r : Option Nat} {l : List ByteArray} {W W' : World} (h : Dq D r l W) (h1 : W'.heap[D]? = W.heap[D]?) (h2 : ∀ k, r = some k → W'.heap[k]? = W.heap[k]?) : Dq D r l W' := by
  obtain ⟨v, N, f, ys, rfl, h⟩ := h
  exact ⟨v, N, f, ys, rfl, h.frame h1 h2⟩
theorem Dq.below {D : Nat} {r : Option Nat} {l : List ByteArray} {W W' : World} (h : Dq D r l W) (hb : Below W.heap.size W W') : Dq D r l W' :=
  h.frame (hb.block D h.lt.1) (fun k e => hb.block k (h.lt.2 k e).1)
/-- Another deque's calls. -/
theorem Dq.keeps {D D' : Nat} {r r' : Option Nat} {l : List ByteArray} {W W' : World} (h : Dq D r l W) (hk : Keeps D' r' W W') (h1 : D ≠ D') (h2 : r' ≠ some D) (h3 : r ≠ some D') (h4 : ∀ k, r = some k → r' ≠ some k) : Dq D r l W' :=
  h.frame (hk.block D h.lt.1 h1 h2) (fun k e => hk.block k (h.lt.2 k e).1 (fun e2 => h3 (by rw [e, e2])) (h4 k e))
section
variable {D : Nat} {l : List ByteArray} {v : Value} {N f : Nat} {ys : List Value} {W : World}
theorem DqI.c0 (h : DqI D l v N f ys W) : W.cell? ⟨D, 0, none⟩ = some (.bool true) := by simp [World.cell?, h.box]
theorem DqI.c1 (h : DqI D l v N f ys W) : W.cell? ⟨D, 1, none⟩ = some v := by simp [World.cell?, h.box]
theorem DqI.c2 (h : DqI D l v N f ys W) : W.cell? ⟨D, 2, none⟩ = some (.int .i64 f) := by simp [World.cell?, h.box]
theorem DqI.c3 (h : DqI D l v N f ys W) : W.cell? ⟨D, 3, none⟩ = some (.int .i64 l.length) := by simp [World.cell?, h.box]
theorem DqI.fr (h : DqI D l v N f ys W) (j : Nat) : W.frozen? ⟨D, j, none⟩ = false := by simp [World.frozen?, h.box]
theorem DqI.form (h : DqI D l v N f ys W) : ∃ A c, v = .slice A N c := by
  obtain ⟨A, c, hv, _⟩ := own_rdV h.row
  exact ⟨A, c, hv⟩
end
theorem row_form {W : World} {B : Nat} {v : Value} {n : Nat} {ys : List Value} (h : W.ownsRow B 9 1 v n ys) (h0 : 0 < n) : ∃ g c, v = .slice (some ⟨g, 0, none⟩) n c ∧ n ≤ c ∧ B ≤ g ∧ g < W.heap.size ∧ v.ownBlock = some g ∧ (∀ j u, ys[j]? = some u → W.cell? ⟨g, j, none⟩ = some u) ∧ ∀ j, W.frozen? ⟨g, j, none⟩ = false := by
  have hl := h.1
  rcases h.2 with ⟨rfl, rfl⟩ | ⟨g, cap, cur, rfl, hb, hg, hn, _⟩
  · simp at hl; omega
  · refine ⟨g, cap, rfl, hn, hb, (Array.getElem?_eq_some_iff.1 hg).1, rfl, fun j u hu => ?_, fun j => by simp [World.frozen?, hg]⟩
    have := h.cells (g := g) rfl j u hu
    rwa [add0] at this
theorem none_any (D : Nat) (r : Option Nat) (l : List ByteArray) (w : World) (h : Dq D r l w) :
    Calls Try.prog 42 #[.pointer (some ⟨D, 0, none⟩)] w fun e w' => e = .returned (.bool false) ∧ w' = w := by
  obtain ⟨v, N, f, ys, rfl, h⟩ := h
  have h0 := h.c0
  clear h
  go_enter Try.func42, Try.ntmps42
  go_wp2
  go_ret
  exact ⟨rfl, rfl⟩
theorem none_nil (w : World) : Calls Try.prog 42 #[.pointer none] w fun e w' => e = .returned (.bool true) ∧ w' = w := by
  go_enter Try.func42, Try.ntmps42
  go_wp2
  go_ret
  exact ⟨rfl, rfl⟩
theorem len_any (D : Nat) (r : Option Nat) (l : List ByteArray) (w : World) (h : Dq D r l w) :
    Calls Try.prog 37 #[.pointer (some ⟨D, 0, none⟩)] w fun e w' => e = .returned (.int .i64 l.length) ∧ w' = w := by
  have HN := Lib.hid (none_any D r l w h)
  obtain ⟨v, N, f, ys, rfl, h⟩ := h
  have h3 := h.c3
  clear h
  go_enter Try.func37, Try.ntmps37
  go_wp2_with fail
  refine HN.out.mono ?_
  rintro e w' ⟨rfl, rfl⟩
  go_wp2
  go_ret
  exact ⟨rfl, rfl⟩
theorem len_nil (w : World) : Calls Try.prog 37 #[.pointer none] w fun e w' => e = .returned (.int .i64 0) ∧ w' = w := by
  go_enter Try.func37, Try.ntmps37
  go_wp2_with fail
  refine (none_nil w).mono ?_
  rintro e w' ⟨rfl, rfl⟩
  go_wp2
  go_ret
  exact ⟨rfl, rfl⟩
theorem num_any (n : Int) (w : World) : Calls Try.prog 21 #[.int .i64 n] w fun e w' => e = .returned (.int .i64 n) ∧ w = w' := by
  go_enter Try.func21, Try.ntmps21
  go_wp2
  go_ret
  exact ⟨rfl, rfl⟩
/-- Where an item stands in the ring. -/
theorem slot_at (D f i N c : Nat) (A : Option Addr) (w : World) (h1 : w.cell? ⟨D, 1, none⟩ = some (.slice A N c)) (h2 : w.cell? ⟨D, 2, none⟩ = some (.int .i64 f)) (hN : 0 < N) (hf : f ≤ 1000000) (hi : i ≤ 1000000) (hNb : N ≤ 1000000) :
    Calls Try.prog 41 #[.pointer (some ⟨D, 0, none⟩), .int .i64 i] w fun e w' => e = .returned (.int .i64 ((f + i) % N : Nat)) ∧ ∃ q, w' = w.drewN q := by
  have e1 : ((N : Int) == 0) = false := by simp; omega
  have e2 : (N == 0) = false := by simp; omega
  have e3 : ¬ (N = 0) := by omega
  go_enter Try.func41, Try.ntmps41
  go_wp2
  go_quiet (fail)
  go_wp2
  go_ret
  refine ⟨ret_i64 ?_, _, rfl⟩
  simp
end Go.Proofs.Ytnnlfhdjakabmaa
