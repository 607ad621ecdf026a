/- A copy with room behind it. -/
import Derived.Test.YthbhbjfmlmgeeaaDoorWorks
namespace Go.Proofs.YthbhbjfmlmgeeaaDoor
open Go Go.RowKit
section
variable {w : World} {ops : Array Oper} {rest : List Oper} {o : Oper} {a : Act} {Q : Exit → Act → World → Prop}
/-- A slice made longer or shorter, within its room. -/
theorem wpList_up (hw : Region.wanted o (yielded ops a.tmps) = true) (x y : Operand) (ho : o.op = .slice 25 x none (some y) none)
    (A : Option Addr) (n c : Nat) (hx : a.eval x = .slice A n c) (H : Nat) (hy : a.eval y = .int .i64 (H : Int)) (hH : H ≤ c)
    (hK : wpList Tryd.prog ops Q rest (a.put o.dst (.slice A H c)) w) : wpList Tryd.prog ops Q (o :: rest) a w := by
  refine wpList_want hw fun K hK' => ?_
  have he : Tryd.prog.elem 25 = 5 := by simp [Program.elem, Tryd.underlying25]
  have hrun := run_slice_h (P := Tryd.prog) w 25 A n c (by rw [he]; exact Tryd.underlying25) .i64 (H : Int) (by omega) (by omega)
  rw [he, sz5] at hrun
  have hz : (if c = 0 then A else Option.map (fun x => x.add 0) A) = A := by
    split
    · rfl
    · cases A <;> simp [add_zero]
  unfold Oper.wp
  simp only [execOp, ho, Sem.run_bind, Sem.run_pure, Result.andThen_ok, hx, Option.map_none, Option.map_some, hy]
  rw [run_sliceAt_slice (h := by rw [he]; exact Tryd.underlying25)]
  rw [hrun]
  simp only [Result.andThen_ok, sliced, Nat.zero_mul, hz, Nat.sub_zero, Int.toNat_natCast, Oper.upon_value]
  exact hK' _ _ hK
end
theorem conv_n {w : World} {A : Option Addr} {n c : Nat} {l : List UInt8} (hl : l.length = n) (hn : A = none → c = 0) (hc : n ≤ c) (h : Rd w A l) : (convert 25 9 (.slice A n c)).run Tryd.prog w = .ok (.string ⟨l.toArray⟩) w := by
  subst hl
  exact conv_rd hn hc h
/-- A copy of bytes with one more behind it. -/
theorem copy_form {w : World} {base : Nat} {v : Value} {l : List UInt8} {x : UInt8} {n : Nat} (h : OwnB w base v ([] ++ l ++ [x])) (hn : l.length = n) :
    ∃ b off c, v = .slice (some ⟨b, off, none⟩) (n + 1) c ∧ n + 1 ≤ c ∧ b < w.heap.size ∧ base ≤ b ∧ Rd w (some ⟨b, off, none⟩) l ∧ w.cell? ⟨b, off + n, none⟩ = some (.int .u8 x.toNat) := by
  obtain ⟨A, c, rfl, h1, h2, h3⟩ := h.form (n := n + 1) (by simp [hn])
  obtain ⟨b, off, rfl, hlt, hc⟩ := h3 (by simp)
  have hb : base ≤ b := (h.lt b rfl).1
  refine ⟨b, off, c, rfl, h1, hlt, hb, ?_, ?_⟩
  · have := h3.take n
    rwa [List.nil_append, List.take_left' hn] at this
  · have := hc n (by simp [hn])
    rw [this]
    simp [hn]
theorem readEnd_same {w1 w2 w1' w2' : World} {l : List UInt8} {e1 e2 : Ending} (h1 : ReadEnd w1 l e1 w1') (h2 : ReadEnd w2 l e2 w2') : ∃ v1 v2 ls, e1 = .returned (.tuple #[v1, .int .i64 ((readL l).2.1 : Nat), .int .i64 ((readL l).2.2 : Nat)]) ∧ e2 = .returned (.tuple #[v2, .int .i64 ((readL l).2.1 : Nat), .int .i64 ((readL l).2.2 : Nat)]) ∧ w1'.ownsRow w1.heap.size 9 1 v1 ls.length (cellsS ls) ∧ w2'.ownsRow w2.heap.size 9 1 v2 ls.length (cellsS ls) ∧ Below w1.heap.size w1 w1' ∧ Below w2.heap.size w2 w2' := by
  obtain ⟨v1, ls1, he1, hl1, ho1, hb1⟩ := h1
  obtain ⟨v2, ls2, he2, hl2, ho2, hb2⟩ := h2
  obtain rfl := bl_inj (hl1.symm.trans hl2)
  exact ⟨v1, v2, ls1, he1, he2, ho1, ho2, hb1, hb2⟩
/-- How 'Read' ends: the slice's form. -/
theorem ReadEnd.form {w w' : World} {l : List UInt8} {e : Ending} (h : ReadEnd w l e w') : ∃ A c ls n, e = .returned (.tuple #[.slice A n c, .int .i64 ((readL l).2.1 : Nat), .int .i64 ((readL l).2.2 : Nat)]) ∧ (readL l).1 = bl ls ∧ ls.length = n ∧ n ≤ 9223372036854775807 ∧ RdV w' A (cellsS ls) ∧ Below w.heap.size w w' := by
  obtain ⟨v, ls, he, hl, ho, hb⟩ := h
  obtain ⟨A, c, rfl, h1, _, h2, h3⟩ := own_rdV ho
  exact ⟨A, c, ls, _, he, hl, rfl, by simp only [maxLen] at h2; omega, h3, hb⟩
theorem eqS_refl (a : List ByteArray) : eqS a a = true := by simp [eqS]
end Go.Proofs.YthbhbjfmlmgeeaaDoor
