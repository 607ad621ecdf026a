/- Bytes cut out of bytes. -/
import Derived.Test.YthbhbjfmlmgeeaaDoorStrs
namespace Go.Proofs.YthbhbjfmlmgeeaaDoor
open Go Go.RowKit
section
variable {w : World} {ops : Array Oper} {rest : List Oper} {o : Oper} {a : Act} {Q : Exit → Act → World → Prop} {P : Program}
theorem wpList_want (hw : Region.wanted o (yielded ops a.tmps) = true)
    (h : ∀ K : Act → World → Prop, (∀ a w, wpList P ops Q rest a w → K a w) → o.wp P a w K Q) : wpList P ops Q (o :: rest) a w := by
  unfold wpList
  rw [if_pos hw]
  exact .inl (h _ fun _ _ h => h)
theorem sz5 (w : World) : (sizeOf 5).run Tryd.prog w = .ok 1 w := by simp [sizeOf, typeInfo, go_sem]; rfl
/-- What is left behind the first elements. -/
theorem wpList_cut_lo (hw : Region.wanted o (yielded ops a.tmps) = true) (x y : Operand) (ho : o.op = .slice 25 x (some y) none none)
    (A : Option Addr) (n c : Nat) (l : List UInt8) (hn : l.length = n) (hnc : n ≤ c) (hA : A = none → c = 0) (hr : Rd w A l) (hx : a.eval x = .slice A n c) (L m : Nat) (hy : a.eval y = .int .i64 (L : Int)) (hL : L + m = n)
    (hK : ∀ A' c', Rd w A' (l.drop L) → (A' = none → c' = 0) → m ≤ c' → wpList Tryd.prog ops Q rest (a.put o.dst (.slice A' m c')) w) : wpList Tryd.prog ops Q (o :: rest) a w := by
  refine wpList_want hw fun K hK' => ?_
  have he : Tryd.prog.elem 25 = 5 := by simp [Program.elem, Tryd.underlying25]
  have hrun := run_slice_l (P := Tryd.prog) w 25 A n c (by rw [he]; exact Tryd.underlying25) .i64 (L : Int) (by omega) (by omega)
  rw [he, sz5] at hrun
  unfold Oper.wp
  simp only [execOp, ho, Sem.run_bind, Sem.run_pure, Result.andThen_ok, hx, Option.map_none, Option.map_some, hy]
  rw [run_sliceAt_slice (h := by rw [he]; exact Tryd.underlying25)]
  rw [hrun]
  simp only [Result.andThen_ok, sliced, Nat.mul_one, Int.toNat_natCast, Oper.upon_value]
  have h1 := hK (subA A L c) (c - L) (hr.drop L c (by omega)) (subA_none hA) (by omega)
  rw [show m = n - L by omega] at h1
  exact hK' _ _ h1
/-- A piece. -/
theorem wpList_cut_lh (hw : Region.wanted o (yielded ops a.tmps) = true) (x y z : Operand) (ho : o.op = .slice 25 x (some y) (some z) none)
    (A : Option Addr) (n c : Nat) (l : List UInt8) (hn : l.length = n) (hnc : n ≤ c) (hA : A = none → c = 0) (hr : Rd w A l) (hx : a.eval x = .slice A n c) (L H m : Nat) (hy : a.eval y = .int .i64 (L : Int)) (hz : a.eval z = .int .i64 (H : Int)) (hL : L + m = H) (hH : H ≤ n)
    (hK : ∀ A' c', Rd w A' ((l.drop L).take m) → (A' = none → c' = 0) → m ≤ c' → wpList Tryd.prog ops Q rest (a.put o.dst (.slice A' m c')) w) : wpList Tryd.prog ops Q (o :: rest) a w := by
  refine wpList_want hw fun K hK' => ?_
  have he : Tryd.prog.elem 25 = 5 := by simp [Program.elem, Tryd.underlying25]
  have hrun := run_slice_lh (P := Tryd.prog) w 25 A n c (by rw [he]; exact Tryd.underlying25) .i64 .i64 (L : Int) (H : Int) (by omega) (by omega) (by omega)
  rw [he, sz5] at hrun
  unfold Oper.wp
  simp only [execOp, ho, Sem.run_bind, Sem.run_pure, Result.andThen_ok, hx, Option.map_none, Option.map_some, hy, hz]
  rw [run_sliceAt_slice (h := by rw [he]; exact Tryd.underlying25)]
  rw [hrun]
  simp only [Result.andThen_ok, sliced, Nat.mul_one, Int.toNat_natCast, Oper.upon_value]
  have h1 := hK (subA A L c) (c - L) ((hr.drop L c (by omega)).take m) (subA_none hA) (by omega)
  rw [show m = H - L by omega] at h1
  exact hK' _ _ h1
/-- The first elements. -/
theorem wpList_cut_hi (hw : Region.wanted o (yielded ops a.tmps) = true) (x y : Operand) (ho : o.op = .slice 25 x none (some y) none)
    (A : Option Addr) (n c : Nat) (l : List UInt8) (hn : l.length = n) (hnc : n ≤ c) (hr : Rd w A l) (hx : a.eval x = .slice A n c) (H : Nat) (hy : a.eval y = .int .i64 (H : Int)) (hH : H ≤ n)
    (hK : Rd w A (l.take H) → H ≤ c → wpList Tryd.prog ops Q rest (a.put o.dst (.slice A H c)) w) : wpList Tryd.prog ops Q (o :: rest) a w := by
  refine wpList_want hw fun K hK' => ?_
  have he : Tryd.prog.elem 25 = 5 := by simp [Program.elem, Tryd.underlying25]
  have hrun := run_slice_h (P := Tryd.prog) w 25 A n c (by rw [he]; exact Tryd.underlying25) .i64 (H : Int) (by omega) (by omega)
  rw [he, sz5] at hrun
  have hz : (if c = 0 then A else Option.map (fun x => x.add 0) A) = A := by
    split
    · rfl
    · cases A <;> simp [add_zero]
  unfold Oper.wp
  simp only [execOp, ho, Sem.run_bind, Sem.run_pure, Result.andThen_ok, hx, Option.map_none, Option.map_some, hy]
  rw [run_sliceAt_slice (h := by rw [he]; exact Tryd.underlying25)]
  rw [hrun]
  simp only [Result.andThen_ok, sliced, Nat.zero_mul, hz, Nat.sub_zero, Int.toNat_natCast, Oper.upon_value]
  exact hK' _ _ (hK (hr.take H) (by omega))
end
end Go.Proofs.YthbhbjfmlmgeeaaDoor
