/- A copy with room behind it: of texts, of bytes. -/
import Derived.Test.YtglicojojpggmaaDoorWorks
import Derived.Test.YtglicojojpggmaaDoorOne
namespace Go.Proofs.YtglicojojpggmaaDoor
open Go Go.RowKit
theorem new_rdB (w : World) (l : List UInt8) : Rd (w.alloc (.cells (cellsB l).toArray 5)) (some ⟨w.heap.size, 0, none⟩) l := by
  refine RdV.rd fun h0 => ⟨_, 0, rfl, by simp, fun j hj => ?_⟩
  have h := heap_alloc_new w (.cells (cellsB l).toArray 5)
  unfold World.cell?
  rw [h]
  simp [hj]
theorem own_max {w : World} {base : Nat} {e : TypeId} {v : Value} {n : Nat} {xs : List Value} (h : w.ownsRow base e 1 v n xs) : n ≤ 9223372036854775807 := by
  obtain ⟨A, c, _, h1, _, h2, _⟩ := own_rdV h
  simp only [maxLen] at h2
  omega
section
variable {w : World} {ops : Array Oper} {rest : List Oper} {o : Oper} {a : Act} {Q : Exit → Act → World → Prop}
/-- A slice made longer or shorter, within its room. -/
theorem wpList_up (hw : Region.wanted o (yielded ops a.tmps) = true) (x y : Operand) (ho : o.op = .slice 25 x none (some y) none)
    (A : Option Addr) (n c : Nat) (hx : a.eval x = .slice A n c) (H : Nat) (hy : a.eval y = .int .i64 (H : Int)) (hH : H ≤ c)
    (hK : wpList Tryd.prog ops Q rest (a.put o.dst (.slice A H c)) w) : wpList Tryd.prog ops Q (o :: rest) a w := by
  refine wpList_want hw fun K hK' => ?_
  have he : Tryd.prog.elem 25 = 5 := by simp [Program.elem, Tryd.underlying25]
  have hrun := run_slice_h (P := Tryd.prog) w 25 A n c (by rw [he]; exact Tryd.underlying25) .i64 (H : Int) (by omega) (by omega)
  rw [he, sz5] at hrun
  have hz : (if c = 0 then A else Option.map (fun x => x.add 0) A) = A := by
    split
    · rfl
    · cases A <;> simp [add_zero]
  unfold Oper.wp
  simp only [execOp, ho, Sem.run_bind, Sem.run_pure, Result.andThen_ok, hx, Option.map_none, Option.map_some, hy]
  rw [run_sliceAt_slice (h := by rw [he]; exact Tryd.underlying25)]
  rw [hrun]
  simp only [Result.andThen_ok, sliced, Nat.zero_mul, hz, Nat.sub_zero, Int.toNat_natCast, Oper.upon_value]
  exact hK' _ _ hK
end
theorem conv_n {w : World} {A : Option Addr} {n c : Nat} {l : List UInt8} (hl : l.length = n) (hn : A = none → c = 0) (hc : n ≤ c) (h : Rd w A l) : (convert 25 9 (.slice A n c)).run Tryd.prog w = .ok (.string ⟨l.toArray⟩) w := by
  subst hl
  exact conv_rd hn hc h
/-- A copy of bytes with one more behind it. -/
theorem copy_form {w : World} {base : Nat} {v : Value} {l : List UInt8} {x : UInt8} {n : Nat} (h : OwnB w base v ([] ++ l ++ [x])) (hn : l.length = n) :
    ∃ b off c, v = .slice (some ⟨b, off, none⟩) (n + 1) c ∧ n + 1 ≤ c ∧ b < w.heap.size ∧ base ≤ b ∧ Rd w (some ⟨b, off, none⟩) l ∧ w.cell? ⟨b, off + n, none⟩ = some (.int .u8 x.toNat) := by
  obtain ⟨A, c, rfl, h1, h2, h3, _⟩ := h.form (n := n + 1) (by simp [hn])
  obtain ⟨b, off, rfl, hlt, hc⟩ := h3 (by simp)
  have hb : base ≤ b := (h.lt b rfl).1
  refine ⟨b, off, c, rfl, h1, hlt, hb, ?_, ?_⟩
  · have := h3.take n
    rwa [List.nil_append, List.take_left' hn] at this
  · have := hc n (by simp [hn])
    rw [this]
    simp [hn]
def spare : ByteArray := { data := #[115, 112, 97, 114, 101] }
section
variable {w : World} {ops : Array Oper} {rest : List Oper} {o : Oper} {a : Act} {Q : Exit → Act → World → Prop}
/-- A slice of texts made longer or shorter, within its room. -/
theorem wpList_upS (hw : Region.wanted o (yielded ops a.tmps) = true) (x y : Operand) (ho : o.op = .slice 22 x none (some y) none)
    (A : Option Addr) (n c : Nat) (hx : a.eval x = .slice A n c) (H : Nat) (hy : a.eval y = .int .i64 (H : Int)) (hH : H ≤ c)
    (hK : wpList Tryd.prog ops Q rest (a.put o.dst (.slice A H c)) w) : wpList Tryd.prog ops Q (o :: rest) a w := by
  refine wpList_want hw fun K hK' => ?_
  have he : Tryd.prog.elem 22 = 9 := by simp [Program.elem, Tryd.underlying22]
  have hrun := run_slice_h (P := Tryd.prog) w 22 A n c (by rw [he]; exact Tryd.underlying22) .i64 (H : Int) (by omega) (by omega)
  rw [he, sz9] at hrun
  have hz : (if c = 0 then A else Option.map (fun x => x.add 0) A) = A := by
    split
    · rfl
    · cases A <;> simp [add_zero]
  unfold Oper.wp
  simp only [execOp, ho, Sem.run_bind, Sem.run_pure, Result.andThen_ok, hx, Option.map_none, Option.map_some, hy]
  rw [run_sliceAt_slice (h := by rw [he]; exact Tryd.underlying22)]
  rw [hrun]
  simp only [Result.andThen_ok, sliced, Nat.zero_mul, hz, Nat.sub_zero, Int.toNat_natCast, Oper.upon_value]
  exact hK' _ _ hK
/-- Texts that are appended to a row of texts. -/
theorem wpList_strs (hg : o.guard = none) (s x : Operand) (ho : o.op = .call { callee := .builtin .append, args := #[s, x], argTypes := #[22, 22] })
    (base : Nat) (v : Value) (l : List ByteArray) (N : Nat) (hN : l.length = N) (hs : a.eval s = v) (hown : w.ownsRow base 9 1 v N (cellsS l)) (A : Option Addr) (n c : Nat) (m : List ByteArray) (hm : m.length = n) (hx : a.eval x = .slice A n c)
    (hr : RdV w A (cellsS m)) (hn : A = none → c = 0) (hc : n ≤ c) (b1 : N + n ≤ 1000000) (hb : base ≤ w.heap.size)
    (hK : ∀ v' w', w'.ownsRow base 9 1 v' (N + n) (cellsS (l ++ m)) → Below base w w' → w.heap.size ≤ w'.heap.size → wpList Tryd.prog ops Q rest (a.put o.dst v') w') : wpList Tryd.prog ops Q (o :: rest) a w := by
  obtain ⟨i0, hi, hz0, hz1, hz2⟩ := info_parts str_info
  have hcl := cellsS_len m
  refine wpList_append_src hg s x 22 ho base 9 i0 _ 16 Tryd.underlying22 hi hz0 hz1 hz2 rfl v N (cellsS l) hs hown A c (cellsS m) (by rw [hcl, hm]; exact hx) hr hn (by omega) (cellsS_one m) (by simp only [maxLen]; omega) (by omega) hb (fun v' w' h1 h2 => hK v' w' ?_ ?_ h2.size)
  · rw [cellsS_app, ← hm, ← hcl]
    exact h1
  · exact (Below.refl base w).grown h2 hb (fun k hk => (hown.lt k hk).1)
end
/-- A copy of texts with one more behind it. -/
theorem copy_formS {w : World} {base : Nat} {v : Value} {l : List ByteArray} {x : ByteArray} {n m : Nat} (h : w.ownsRow base 9 1 v m (cellsS ([] ++ l ++ [x]))) (hn : l.length = n) (hm : m = n + 1) :
    ∃ b off c, v = .slice (some ⟨b, off, none⟩) (n + 1) c ∧ n + 1 ≤ c ∧ b < w.heap.size ∧ base ≤ b ∧ RdV w (some ⟨b, off, none⟩) (cellsS l) ∧ w.cell? ⟨b, off + n, none⟩ = some (.string x) := by
  subst hm
  have hbase := fun b hb => (h.lt b hb).1
  obtain ⟨A, c, rfl, h1, h2, _, h3⟩ := own_rdV h
  obtain ⟨b, off, rfl, hlt, hc⟩ := h3 (by rw [cellsS_len]; simp)
  refine ⟨b, off, c, rfl, h1, hlt, hbase b rfl, ?_, ?_⟩
  · have := h3.take n
    rwa [List.nil_append, cellsS, ← List.map_take, List.take_left' hn] at this
  · have := hc n (by rw [cellsS_len]; simp [hn])
    rw [this]
    simp [cellsS, hn]
theorem eqS_refl (a : List ByteArray) : eqS a a = true := by simp [eqS]
end Go.Proofs.YtglicojojpggmaaDoor
