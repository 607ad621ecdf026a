/- Many texts, long texts. -/
import Derived.Test.YthbhbjfmlmgeeaaDoorBack
namespace Go.Proofs.YthbhbjfmlmgeeaaDoor
open Go Go.RowKit
def em : ByteArray := ⟨#[]⟩
/-- A text of noughts. -/
def zs (n : Nat) : ByteArray := ⟨(List.replicate n 0).toArray⟩
theorem zs_size (n : Nat) : (zs n).size = n := by show (List.replicate n (0 : UInt8)).toArray.size = n; simp
theorem zs_cut (n k : Nat) (h : k ≤ n) : (zs n).extract 0 k = zs k := by
  apply ByteArray.ext
  rw [ByteArray.data_extract]
  apply Array.toList_inj.1
  simp [zs, List.take_replicate, Nat.min_eq_left h]
theorem szS_rep (n : Nat) : szS (List.replicate n em) = 4 * n := by
  induction n with
  | zero => rfl
  | succ n ih => rw [List.replicate_succ, szS, ih]; have : em.size = 0 := rfl; omega
section
variable {w : World} {ops : Array Oper} {rest : List Oper} {o : Oper} {a : Act} {Q : Exit → Act → World → Prop}
theorem wpList_manyS (hg : o.guard = none) (C : Int) (ho : o.op = .makeSlice 22 (.const (.int .i64 C)) (.const (.int .i64 C))) (n : Nat) (hC : C = (n : Int)) (hn : n ≤ 2000000)
    (hK : ∀ w', RdV w' (some ⟨w.heap.size, 0, none⟩) (cellsS (List.replicate n em)) → Below w.heap.size w w' → w.heap.size < w'.heap.size → wpList Tryd.prog ops Q rest (a.put o.dst (.slice (some ⟨w.heap.size, 0, none⟩) n n)) w') : wpList Tryd.prog ops Q (o :: rest) a w := by
  obtain ⟨i0, hi, hz0, hz1, hz2⟩ := info_parts str_info
  refine wpList_make_full w hg _ _ 22 ho w.heap.size 9 i0 _ 1 Tryd.underlying22 hi hz0 hz1 .i64 .i64 C C n rfl rfl hC hC (by rw [hz2]; omega) (by simp only [maxLen]; omega) (Nat.le_refl _) (fun w' h1 h2 => hK w' ?_ ?_ ?_)
  · have h3 : w'.ownsRow w.heap.size 9 1 (.slice (some ⟨w.heap.size, 0, none⟩) n n) n (cellsS (List.replicate n em)) := by
      have e : (madeCells (Value.string ⟨#[]⟩).cells (n * 1)).toList = cellsS (List.replicate n em) := by
        rw [Nat.mul_one]
        show (madeCells #[Value.string ⟨#[]⟩] n).toList = _
        rw [toList_madeCells_one]
        simp [cellsS, em]
      rw [← e]
      exact h1
    obtain ⟨A, c, e, _, _, _, h4⟩ := own_rdV h3
    cases e
    exact h4
  · exact (Below.refl _ w).grown h2 (Nat.le_refl _) (fun k hk => by cases hk)
  · exact (h1.lt w.heap.size rfl).2
theorem wpList_manyB (hg : o.guard = none) (C : Int) (ho : o.op = .makeSlice 25 (.const (.int .i64 C)) (.const (.int .i64 C))) (n : Nat) (hC : C = (n : Int)) (hn : n ≤ 2000000)
    (hK : ∀ w', Rd w' (some ⟨w.heap.size, 0, none⟩) (List.replicate n 0) → Below w.heap.size w w' → w.heap.size < w'.heap.size → wpList Tryd.prog ops Q rest (a.put o.dst (.slice (some ⟨w.heap.size, 0, none⟩) n n)) w') : wpList Tryd.prog ops Q (o :: rest) a w := by
  obtain ⟨i0, hi, hz0, hz1, hz2⟩ := info_parts u8_info
  refine wpList_make_full w hg _ _ 25 ho w.heap.size 5 i0 _ 1 Tryd.underlying25 hi hz0 hz1 .i64 .i64 C C n rfl rfl hC hC (by rw [hz2]; omega) (by simp only [maxLen]; omega) (Nat.le_refl _) (fun w' h1 h2 => hK w' ?_ ?_ ?_)
  · have h3 : w'.ownsRow w.heap.size 5 1 (.slice (some ⟨w.heap.size, 0, none⟩) n n) n (cellsB (List.replicate n 0)) := by
      have e : (madeCells (Value.int .u8 0).cells (n * 1)).toList = cellsB (List.replicate n 0) := by
        rw [Nat.mul_one]
        show (madeCells #[Value.int .u8 0] n).toList = _
        rw [toList_madeCells_one]
        simp [cellsB, cellB]
      rw [← e]
      exact h1
    obtain ⟨A, c, e, _, _, _, h4⟩ := own_rdV h3
    cases e
    exact h4.rd
  · exact (Below.refl _ w).grown h2 (Nat.le_refl _) (fun k hk => by cases hk)
  · exact (h1.lt w.heap.size rfl).2
end
theorem ReadEnd.back0 {w w' : World} {ls : List ByteArray} {e : Ending} {L : Nat} (h : ReadEnd w (frameL (bl ls)) e w') (hm : mayL (bl ls) = true) (hL : (frameL (bl ls)).length = L) :
    ∃ A c n, e = .returned (.tuple #[.slice A n c, .int .i64 L, .int .i64 0]) ∧ ls.length = n ∧ RdV w' A (cellsS ls) ∧ Below w.heap.size w w' := by
  have h' := h
  rw [← List.append_nil (frameL (bl ls))] at h'
  exact h'.back hm hL
def nine : List UInt8 := [1, 0, 16, 0, 0, 0, 0, 0, 0]
theorem read_nine : (readL nine).2.2 = 121 := by decide
end Go.Proofs.YthbhbjfmlmgeeaaDoor
