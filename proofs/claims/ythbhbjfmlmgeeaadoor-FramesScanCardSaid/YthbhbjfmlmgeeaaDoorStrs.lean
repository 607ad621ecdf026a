/- Texts of a slice: their bytes, counted. -/
import Derived.Test.YthbhbjfmlmgeeaaDoorBase
namespace Go.Proofs.YthbhbjfmlmgeeaaDoor
open Go Go.RowKit
theorem RdV.at {w : World} {A : Option Addr} {xs : List Value} (h : RdV w A xs) {k : Nat} (hk : k < xs.length) : ∃ b off, A = some ⟨b, off, none⟩ ∧ b < w.heap.size ∧ w.cell? ⟨b, off + k, none⟩ = some xs[k] := by
  obtain ⟨b, off, rfl, hlt, hc⟩ := h (by omega)
  exact ⟨b, off, rfl, hlt, hc k hk⟩
theorem rdS_at {w : World} {A : Option Addr} {ls : List ByteArray} (h : RdV w A (cellsS ls)) {k : Nat} (hk : k < ls.length) : ∃ b off, A = some ⟨b, off, none⟩ ∧ b < w.heap.size ∧ w.cell? ⟨b, off + k, none⟩ = some (.string ls[k]) := by
  obtain ⟨b, off, rfl, hlt, hc⟩ := h.at (k := k) (by rw [cellsS_len]; exact hk)
  exact ⟨b, off, rfl, hlt, by rw [hc]; simp [cellsS]⟩
theorem list_at {α : Type} {ls : List α} {k : Nat} (hk : k < ls.length) : ∃ x, ls[k] = x ∧ ls.take (k + 1) = ls.take k ++ [x] := ⟨_, rfl, List.take_succ_eq_append_getElem hk⟩
/-- How many bytes the texts have, each with four ahead. -/
def szS : List ByteArray → Nat
  | [] => 0
  | s :: l => 4 + s.size + szS l
theorem szS_snoc (l : List ByteArray) (s : ByteArray) : szS (l ++ [s]) = szS l + (4 + s.size) := by
  induction l with
  | nil => simp [szS]
  | cons x l ih => simp [szS, ih]; omega
theorem szS_app (l m : List ByteArray) : szS (l ++ m) = szS l + szS m := by
  induction l with
  | nil => simp [szS]
  | cons x l ih => simp [szS, ih]; omega
theorem szS_take (l : List ByteArray) (k : Nat) : szS (l.take k) ≤ szS l := by
  have := szS_app (l.take k) (l.drop k)
  rw [List.take_append_drop] at this
  omega
theorem szS_mem {l : List ByteArray} {s : ByteArray} (h : s ∈ l) : 4 + s.size ≤ szS l := by
  induction l with
  | nil => cases h
  | cons x l ih =>
    rcases List.mem_cons.1 h with rfl | h
    · simp [szS]
    · have := ih h; simp [szS]; omega
theorem szS_len (l : List ByteArray) : 4 * l.length ≤ szS l := by
  induction l with
  | nil => simp [szS]
  | cons x l ih => simp [szS]; omega
theorem tx_size (l : List ByteArray) : (tx (bl l)).length = szS l := by
  induction l with
  | nil => rfl
  | cons s l ih =>
    have h1 : tx (bl (s :: l)) = by4 s.data.toList.length ++ s.data.toList ++ tx (bl l) := rfl
    have h2 : s.data.toList.length = s.size := by rw [Array.length_toList]; rfl
    rw [h1, List.length_append, List.length_append, ih, by4_len, h2, szS]
theorem body_size (l : List ByteArray) : (bodyL (bl l)).length = 4 + szS l := by rw [bodyL_len, tx_size]
theorem may_iff (l : List ByteArray) : mayL (bl l) = (decide (l.length ≤ 65536) && decide (4 + szS l ≤ 1048576)) := by rw [mayL, bl_len, body_size]
theorem szS_next {ls : List ByteArray} {k m : Nat} {x : ByteArray} (ht : ls.take (k + 1) = ls.take k ++ [x]) (hm : m = szS (ls.take k)) : m + 4 + x.size = szS (ls.take (k + 1)) := by rw [ht, szS_snoc, ← hm]; omega
end Go.Proofs.YthbhbjfmlmgeeaaDoor
