/- Texts of a slice: their bytes, counted. -/
import Derived.Test.YtglicojojpggmaaDoorBase
namespace Go.Proofs.YtglicojojpggmaaDoor
open Go Go.RowKit
theorem RdV.at {w : World} {A : Option Addr} {xs : List Value} (h : RdV w A xs) {k : Nat} (hk : k < xs.length) : ∃ b off, A = some ⟨b, off, none⟩ ∧ b < w.heap.size ∧ w.cell? ⟨b, off + k, none⟩ = some xs[k] := by
  obtain ⟨b, off, rfl, hlt, hc⟩ := h (by omega)
  exact ⟨b, off, rfl, hlt, hc k hk⟩
/-- How many bytes the texts have, each with four ahead. -/
def szS : List ByteArray → Nat
  | [] => 0
  | s :: l => 5 + s.size + szS l
theorem szS_snoc (l : List ByteArray) (s : ByteArray) : szS (l ++ [s]) = szS l + (5 + s.size) := by
  induction l with
  | nil => simp [szS]
  | cons x l ih => simp [szS, ih]; omega
theorem szS_app (l m : List ByteArray) : szS (l ++ m) = szS l + szS m := by
  induction l with
  | nil => simp [szS]
  | cons x l ih => simp [szS, ih]; omega
theorem szS_take (l : List ByteArray) (k : Nat) : szS (l.take k) ≤ szS l := by
  have := szS_app (l.take k) (l.drop k)
  rw [List.take_append_drop] at this
  omega
theorem szS_mem {l : List ByteArray} {s : ByteArray} (h : s ∈ l) : 5 + s.size ≤ szS l := by
  induction l with
  | nil => cases h
  | cons x l ih =>
    rcases List.mem_cons.1 h with rfl | h
    · simp [szS]
    · have := ih h; simp [szS]; omega
theorem szS_len (l : List ByteArray) : 5 * l.length ≤ szS l := by
  induction l with
  | nil => simp [szS]
  | cons x l ih => simp [szS]; omega
theorem szS_next {ls : List ByteArray} {k m : Nat} {x : ByteArray} (ht : ls.take (k + 1) = ls.take k ++ [x]) (hm : m = szS (ls.take k)) : m + 5 + x.size = szS (ls.take (k + 1)) := by rw [ht, szS_snoc, ← hm]; omega
end Go.Proofs.YtglicojojpggmaaDoor
