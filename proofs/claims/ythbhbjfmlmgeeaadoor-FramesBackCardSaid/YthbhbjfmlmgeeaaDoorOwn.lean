/- Bytes of a number in a row of one's own. -/
import Derived.Test.YthbhbjfmlmgeeaaDoorSum
import Derived.Test.YthbhbjfmlmgeeaaDoorSize
import Derived.Test.YthbhbjfmlmgeeaaDoorRSize
namespace Go.Proofs.YthbhbjfmlmgeeaaDoor
open Go Go.RowKit
theorem u8_info : (Tryd.prog.info? 5).map (fun i => (i.zero, i.size, i.bytes)) = some (some (.int .u8 0), 1, 1) := by kernel_rfl
/-- A row of one's own, with bytes. -/
def OwnB (w : World) (base : Nat) (v : Value) (l : List UInt8) : Prop := w.ownsRow base 5 1 v l.length (cellsB l)
theorem OwnB.below {w w' : World} {base : Nat} {v : Value} {l : List UInt8} (h : OwnB w base v l) (hb : Below w.heap.size w w') : OwnB w' base v l := own_below h hb
theorem OwnB.down {w : World} {base base' : Nat} {v : Value} {l : List UInt8} (h : OwnB w base v l) (hb : base' ≤ base) : OwnB w base' v l := own_down h hb
theorem OwnB.rd {w : World} {base : Nat} {v : Value} {l : List UInt8} (h : OwnB w base v l) : ∃ A c, v = .slice A l.length c ∧ l.length ≤ c ∧ (A = none → c = 0) ∧ c ≤ maxLen ∧ Rd w A l := by
  obtain ⟨A, c, rfl, h1, h2, h3, h4⟩ := own_rdV h
  exact ⟨A, c, rfl, h1, h2, h3, h4.rd⟩
theorem four_own (n : Nat) (w : World) (h : n < 4294967296) : OwnB (w.alloc (.cells (row4 n) 5)) w.heap.size (.slice (some ⟨w.heap.size, 0, none⟩) 4 4) (by4 n) := by
  rw [row4_by4 n h]
  have := own_new w 5 (cellsB (by4 n)) w.heap.size (Nat.le_refl _) (by simp [maxLen, cellsB_len, by4_len]) (by simp [cellsB_len, by4_len])
  rw [cellsB_len, by4_len] at this
  exact this
theorem below_new (w : World) (o : Obj) : Below w.heap.size w (w.alloc o) := (Below.refl _ _).alloc (Nat.le_refl _) _
def Is4 (w : World) (n : Nat) (e : Ending) (w' : World) : Prop := ∃ a, e = .returned (.slice (some a) 4 4) ∧ OwnB w' w.heap.size (.slice (some a) 4 4) (by4 n) ∧ Below w.heap.size w w'
theorem bytes_own (n : Nat) (w : World) (h : n < 4294967296) : Calls Tryd.prog 25 #[.int .u32 n] w (Is4 w n) :=
  (bytes_any n w h).mono fun e w' ⟨he, hw⟩ => by subst hw; exact ⟨_, he, four_own n w h, below_new w _⟩
theorem rbytes_own (n : Nat) (w : World) (h : n < 4294967296) : Calls Tryd.prog 30 #[.int .u32 n] w (Is4 w n) :=
  (rbytes_any n w h).mono fun e w' ⟨he, hw⟩ => by subst hw; exact ⟨_, he, four_own n w h, below_new w _⟩
theorem rfour_own (n : Nat) (w : World) (h : n < 4294967296) : Calls Tryd.prog 28 #[.int .i64 n] w (Is4 w n) :=
  (four_any n w h).mono fun e w' ⟨he, hw⟩ => by subst hw; exact ⟨_, he, four_own n w h, below_new w _⟩
theorem str_cells (s : ByteArray) : Lib.strCells s = cellsB s.data.toList := by simp [Lib.strCells, cellsB, cellB]
theorem tx_next {ls : List ByteArray} {k : Nat} {x : ByteArray} (ht : ls.take (k + 1) = ls.take k ++ [x]) : tx (bl (ls.take (k + 1))) = tx (bl (ls.take k)) ++ (by4 x.size ++ x.data.toList) := by
  have h2 : x.data.toList.length = x.size := by rw [Array.length_toList]; rfl
  rw [ht]
  unfold bl
  rw [List.map_append, List.map_cons, List.map_nil, tx_snoc, h2]
section
variable {P : Program} {w : World} {ops : Array Oper} {rest : List Oper} {o : Oper} {a : Act} {Q : Exit → Act → World → Prop}
/-- Bytes that are appended to a row of bytes. -/
theorem wpList_bytes (hg : o.guard = none) (s x : Operand) (ho : o.op = .call { callee := .builtin .append, args := #[s, x], argTypes := #[25, 25] })
    (base : Nat) (v : Value) (l : List UInt8) (hs : a.eval s = v) (hown : OwnB w base v l) (A : Option Addr) (n c : Nat) (m : List UInt8) (hm : m.length = n) (hx : a.eval x = .slice A n c)
    (hr : Rd w A m) (hn : A = none → c = 0) (hc : n ≤ c) (b1 : l.length + n ≤ 140737488355328) (hb : base ≤ w.heap.size)
    (hK : ∀ v' w', OwnB w' base v' (l ++ m) → Below base w w' → w.heap.size ≤ w'.heap.size → wpList Tryd.prog ops Q rest (a.put o.dst v') w') : wpList Tryd.prog ops Q (o :: rest) a w := by
  obtain ⟨i0, hi, hz0, hz1, hz2⟩ := info_parts u8_info
  have hcl := cellsB_len m
  refine wpList_append_src hg s x 25 ho base 5 i0 _ 1 Tryd.underlying25 hi hz0 hz1 hz2 rfl v l.length (cellsB l) hs hown A c (cellsB m) (by rw [hcl, hm]; exact hx) hr.rdV hn (by omega) (cellsB_one m) (by simp only [maxLen]; omega) (by omega) hb (fun v' w' h1 h2 => hK v' w' ?_ ?_ h2.size)
  · unfold OwnB
    rw [cellsB_app, List.length_append, ← hcl]
    exact h1
  · exact (Below.refl base w).grown h2 hb (fun k hk => (hown.lt k hk).1)
/-- A text's bytes that are appended to a row of bytes. -/
theorem wpList_text (hg : o.guard = none) (s x : Operand) (ho : o.op = .call { callee := .builtin .append, args := #[s, x], argTypes := #[25, 9] })
    (base : Nat) (v : Value) (l : List UInt8) (hs : a.eval s = v) (hown : OwnB w base v l) (t : ByteArray) (hx : a.eval x = .string t)
    (b1 : l.length + t.size ≤ 140737488355328) (hb : base ≤ w.heap.size)
    (hK : ∀ v' w', OwnB w' base v' (l ++ t.data.toList) → Below base w w' → w.heap.size ≤ w'.heap.size → wpList Tryd.prog ops Q rest (a.put o.dst v') w') : wpList Tryd.prog ops Q (o :: rest) a w := by
  obtain ⟨i0, hi, hz0, hz1, hz2⟩ := info_parts u8_info
  refine Lib.wpList_append_own_string w hg s x 25 9 ho base 5 i0 Tryd.underlying25 Tryd.underlying9 hi hz0 hz1 hz2 v l.length (cellsB l) hs hown t hx (by simp only [maxLen]; omega) b1 hb (fun v' w' h1 h2 _ => hK v' w' ?_ ?_ h2.size)
  · unfold OwnB
    have h2 : t.data.toList.length = t.size := by rw [Array.length_toList]; rfl
    rw [cellsB_app, List.length_append, h2, ← str_cells]
    exact h1
  · exact (Below.refl base w).grown h2 hb (fun k hk => (hown.lt k hk).1)
/-- A new row with room. -/
theorem wpList_make_bytes (hg : o.guard = none) (x : Operand) (ho : o.op = .makeSlice 25 (.const (.int .i64 0)) x) (C : Int) (n : Nat) (hx : a.eval x = .int .i64 C) (hC : C = (n : Int)) (hn : n ≤ 281474976710656)
    (hK : ∀ v' w', OwnB w' w.heap.size v' [] → Below w.heap.size w w' → w.heap.size ≤ w'.heap.size → wpList Tryd.prog ops Q rest (a.put o.dst v') w') : wpList Tryd.prog ops Q (o :: rest) a w := by
  obtain ⟨i0, hi, hz0, hz1, hz2⟩ := info_parts u8_info
  refine wpList_make_own w hg (.const (.int .i64 0)) x 25 ho w.heap.size 5 i0 _ 1 Tryd.underlying25 hi hz0 hz1 .i64 .i64 C n rfl hx hC (by rw [hz2]; omega) (by simp only [maxLen]; omega) (Nat.le_refl _) (fun w' h1 h2 => hK _ w' h1 ?_ h2.size)
  exact (Below.refl _ w).grown h2 (Nat.le_refl _) (fun k hk => by cases hk)
end
end Go.Proofs.YthbhbjfmlmgeeaaDoor
