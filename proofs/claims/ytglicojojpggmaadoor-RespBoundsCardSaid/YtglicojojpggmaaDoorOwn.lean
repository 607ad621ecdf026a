/- Bytes that grow in a row of one's own; numbers as texts; a line that is laid. -/
import Derived.Test.YtglicojojpggmaaDoorOne
import Derived.Test.YtglicojojpggmaaDoorFew
import Derived.Test.YtglicojojpggmaaDoorShelf
import Derived.Lib.SmallJoins
import Derived.Lib.ItoaLen
namespace Go.Proofs.YtglicojojpggmaaDoor
open Go Go.RowKit
/-- A row of one's own, with bytes. -/
def OwnB (w : World) (base : Nat) (v : Value) (l : List UInt8) : Prop := w.ownsRow base 5 1 v l.length (cellsB l)
theorem OwnB.below {w w' : World} {base : Nat} {v : Value} {l : List UInt8} (h : OwnB w base v l) (hb : Below w.heap.size w w') : OwnB w' base v l := own_below h hb
theorem OwnB.down {w : World} {base base' : Nat} {v : Value} {l : List UInt8} (h : OwnB w base v l) (hb : base' ≤ base) : OwnB w base' v l := own_down h hb
theorem OwnB.rd {w : World} {base : Nat} {v : Value} {l : List UInt8} (h : OwnB w base v l) : ∃ A c, v = .slice A l.length c ∧ l.length ≤ c ∧ (A = none → c = 0) ∧ c ≤ maxLen ∧ Rd w A l := by
  obtain ⟨A, c, rfl, h1, h2, h3, h4⟩ := own_rdV h
  exact ⟨A, c, rfl, h1, h2, h3, h4.rd⟩
theorem str_cells (s : ByteArray) : Lib.strCells s = cellsB s.data.toList := by simp [Lib.strCells, cellsB, cellB]
section
variable {P : Program} {w : World} {ops : Array Oper} {rest : List Oper} {o : Oper} {a : Act} {Q : Exit → Act → World → Prop}
/-- Bytes that are appended to a row of bytes. -/
theorem wpList_bytes (hg : o.guard = none) (s x : Operand) (ho : o.op = .call { callee := .builtin .append, args := #[s, x], argTypes := #[25, 25] })
    (base : Nat) (v : Value) (l : List UInt8) (hs : a.eval s = v) (hown : OwnB w base v l) (A : Option Addr) (n c : Nat) (m : List UInt8) (hm : m.length = n) (hx : a.eval x = .slice A n c)
    (hr : Rd w A m) (hn : A = none → c = 0) (hc : n ≤ c) (b1 : l.length + n ≤ 140737488355328) (hb : base ≤ w.heap.size)
    (hK : ∀ v' w', OwnB w' base v' (l ++ m) → Below base w w' → w.heap.size ≤ w'.heap.size → wpList Tryd.prog ops Q rest (a.put o.dst v') w') : wpList Tryd.prog ops Q (o :: rest) a w := by
  obtain ⟨i0, hi, hz0, hz1, hz2⟩ := info_parts u8_info
  have hcl := cellsB_len m
  refine wpList_append_src hg s x 25 ho base 5 i0 _ 1 Tryd.underlying25 hi hz0 hz1 hz2 rfl v l.length (cellsB l) hs hown A c (cellsB m) (by rw [hcl, hm]; exact hx) hr.rdV hn (by omega) (cellsB_one m) (by simp only [maxLen]; omega) (by omega) hb (fun v' w' h1 h2 => hK v' w' ?_ ?_ h2.size)
  · unfold OwnB
    rw [cellsB_app, List.length_append, ← hcl]
    exact h1
  · exact (Below.refl base w).grown h2 hb (fun k hk => (hown.lt k hk).1)
/-- A text's bytes that are appended to a row of bytes. -/
theorem wpList_text (hg : o.guard = none) (s x : Operand) (ho : o.op = .call { callee := .builtin .append, args := #[s, x], argTypes := #[25, 9] })
    (base : Nat) (v : Value) (l : List UInt8) (hs : a.eval s = v) (hown : OwnB w base v l) (t : ByteArray) (hx : a.eval x = .string t)
    (b1 : l.length + t.size ≤ 140737488355328) (hb : base ≤ w.heap.size)
    (hK : ∀ v' w', OwnB w' base v' (l ++ t.data.toList) → Below base w w' → w.heap.size ≤ w'.heap.size → wpList Tryd.prog ops Q rest (a.put o.dst v') w') : wpList Tryd.prog ops Q (o :: rest) a w := by
  obtain ⟨i0, hi, hz0, hz1, hz2⟩ := info_parts u8_info
  refine Lib.wpList_append_own_string w hg s x 25 9 ho base 5 i0 Tryd.underlying25 Tryd.underlying9 hi hz0 hz1 hz2 v l.length (cellsB l) hs hown t hx (by simp only [maxLen]; omega) b1 hb (fun v' w' h1 h2 _ => hK v' w' ?_ ?_ h2.size)
  · unfold OwnB
    have h2 : t.data.toList.length = t.size := by rw [Array.length_toList]; rfl
    rw [cellsB_app, List.length_append, h2, ← str_cells]
    exact h1
  · exact (Below.refl base w).grown h2 hb (fun k hk => (hown.lt k hk).1)
/-- A new row with room. -/
theorem wpList_make_bytes (hg : o.guard = none) (x : Operand) (ho : o.op = .makeSlice 25 (.const (.int .i64 0)) x) (C : Int) (n : Nat) (hx : a.eval x = .int .i64 C) (hC : C = (n : Int)) (hn : n ≤ 281474976710656)
    (hK : ∀ v' w', OwnB w' w.heap.size v' [] → Below w.heap.size w w' → w.heap.size ≤ w'.heap.size → wpList Tryd.prog ops Q rest (a.put o.dst v') w') : wpList Tryd.prog ops Q (o :: rest) a w := by
  obtain ⟨i0, hi, hz0, hz1, hz2⟩ := info_parts u8_info
  refine wpList_make_own w hg (.const (.int .i64 0)) x 25 ho w.heap.size 5 i0 _ 1 Tryd.underlying25 hi hz0 hz1 .i64 .i64 C n rfl hx hC (by rw [hz2]; omega) (by simp only [maxLen]; omega) (Nat.le_refl _) (fun w' h1 h2 => hK _ w' h1 ?_ h2.size)
  exact (Below.refl _ w).grown h2 (Nat.le_refl _) (fun k hk => by cases hk)
end

theorem below_growN (w : World) (k : Nat) (os : Array Obj) : Below w.heap.size w (Go.Sort.grow (w.drewN k) os) := by
  refine ⟨rfl, rfl, rfl, ?_, fun j hj => ?_⟩
  · show w.heap.size ≤ (w.heap ++ os).size
    simp
  · show (w.heap ++ os)[j]? = w.heap[j]?
    rw [Array.getElem?_append_left hj]
abbrev TAB (w : World) : Prop := Go.Lib.TabIs Tryd.prog w "internal/strconv.uint64pow10" .u64 Go.Lib.pow10Tab
theorem gPow' : Tryd.prog.globalNamed "internal/strconv.uint64pow10" = some 0 := by kernel_rfl
theorem tab_below {w w' : World} (h : TAB w) (hb : Below w.heap.size w w') : TAB w' := Go.Joins.tab_stays gPow' h hb (Nat.le_refl _)
/-- A number as a text. -/
def itL (n : Int) : List UInt8 := Go.Lib.itoa n
theorem itL_len (n : Int) (h0 : -9223372036854775808 ≤ n) (h1 : n ≤ 9223372036854775807) : (itL n).length ≤ 21 := Go.Lib.itoa_length_le n h0 h1
theorem itoa_any (n : Int) (w : World) (h0 : -9223372036854775808 ≤ n) (h1 : n ≤ 9223372036854775807) (ht : TAB w) :
    Calls Tryd.prog 36 #[.int .i64 n] w fun e w' => e = .returned (.string ⟨(itL n).toArray⟩) ∧ Below w.heap.size w w' := by
  refine (Go.Proofs.Tryd.strconv_Itoa n h0 h1 w ht).mono ?_
  rintro e w' ⟨rfl, k, os, rfl⟩
  exact ⟨rfl, below_growN w k os⟩
theorem num_any (n : Int) (w : World) : Calls Tryd.prog 16 #[.int .i64 n] w fun e w' => e = .returned (.int .i64 n) ∧ w' = w := by
  go_enter Tryd.func16, Tryd.ntmps16
  go_wp2
  go_ret
  exact ⟨rfl, rfl⟩
theorem rd_one (w : World) (x : UInt8) : Rd (w.alloc (.cells #[.int .u8 x.toNat] 5)) (some ⟨w.heap.size, 0, none⟩) [x] := fun _ => by
  have := heap_alloc_new w (.cells #[.int .u8 x.toNat] 5)
  refine ⟨w.heap.size, 0, rfl, lt_of_block this, fun j hj => ?_⟩
  have hj0 : j = 0 := by simp at hj; omega
  subst hj0
  simp only [World.cell?, this]
  rfl
theorem rd_crlf (w : World) : Rd (w.alloc (.cells #[.int .u8 13, .int .u8 10] 5)) (some ⟨w.heap.size, 0, none⟩) [13, 10] := fun _ => by
  have := heap_alloc_new w (.cells #[.int .u8 13, .int .u8 10] 5)
  refine ⟨w.heap.size, 0, rfl, lt_of_block this, fun j hj => ?_⟩
  have hj0 : j = 0 ∨ j = 1 := by simp at hj; omega
  rcases hj0 with rfl | rfl
  · simp only [World.cell?, this]
    rfl
  · simp only [World.cell?, this]
    rfl
/-- A line's end. -/
def crlf : List UInt8 := [13, 10]
def layL (s : UInt8) (t : List UInt8) : List UInt8 := s :: (t ++ crlf)
set_option maxRecDepth 100000 in
set_option maxHeartbeats 4000000 in
theorem lay_any (base : Nat) (A : Option Addr) (n c : Nat) (l : List UInt8) (s : UInt8) (t : ByteArray) (w : World) (hown : OwnB w base (.slice A n c) l) (hl : l.length = n) (bl1 : n ≤ 100000000) (bt : t.size ≤ 100000000) (hb : base ≤ w.heap.size) :
    Calls Tryd.prog 35 #[.slice A n c, .int .u8 s.toNat, .string t] w fun e w' => ∃ v, e = .returned v ∧ OwnB w' base v (l ++ layL s (bl t)) ∧ Below base w w' := by
  have HO := Lib.hid hown
  have HL := Lib.hid hl
  clear hown hl
  go_enter Tryd.func35, Tryd.ntmps35
  have HW := Lib.hid (below_new w (.cells #[.int .u8 s.toNat] 5))
  have HR1 := Lib.hid (rd_one w s)
  have HB1 := Lib.hid ((Below.refl base w).alloc hb (.cells #[.int .u8 s.toNat] 5))
  have HZ1 : Hid (base ≤ (w.alloc (.cells #[.int .u8 s.toNat] 5)).heap.size) := Lib.hid (Nat.le_trans hb HW.out.size)
  have HT : Hid ((bl t).length = t.size) := Lib.hid (by rw [Array.length_toList]; rfl)
  go_wp2_with (first
    | (at_builtin; refine wpList_bytes rfl (.tmp 7) (.tmp 9) rfl base _ l rfl (HO.out.below HW.out) (some ⟨w.heap.size, 0, none⟩) 1 1 [s] rfl rfl HR1.out (fun e => by cases e) (Nat.le_refl _) (by have := HL.out; omega) HZ1.out ?_; intro v7 w7 ho7 hb7 hs7; have HO7 := Lib.hid ho7; have HB7 := Lib.hid (HB1.out.trans hb7); have HS7 := Lib.hid (Nat.le_trans HZ1.out hs7); clear ho7 hb7 hs7)
    | (at_builtin; refine wpList_text rfl (.tmp 10) (.tmp 11) rfl base v7 _ rfl HO7.out t rfl (by have := HL.out; simp; omega) HS7.out ?_; intro v8 w8 ho8 hb8 hs8; have HO8 := Lib.hid ho8; have HB8 := Lib.hid (HB7.out.trans hb8); have HS8 := Lib.hid (Nat.le_trans HS7.out hs8); have HR8 := Lib.hid (rd_crlf w8); have HW8 := Lib.hid (below_new w8 (.cells #[.int .u8 13, .int .u8 10] 5)); clear ho8 hb8 hs8)
    | (at_builtin; refine wpList_bytes rfl (.tmp 12) (.tmp 13) rfl base v8 _ rfl (HO8.out.below HW8.out) (some ⟨w8.heap.size, 0, none⟩) 2 2 [13, 10] rfl rfl HR8.out (fun e => by cases e) (Nat.le_refl _) (by have := HL.out; have := HT.out; simp at *; omega) (Nat.le_trans HS8.out HW8.out.size) ?_; intro v9 w9 ho9 hb9 hs9; have HO9 := Lib.hid ho9; have HB9 := Lib.hid ((HB8.out.trans (HW8.out.mono HS8.out)).trans hb9); clear ho9 hb9 hs9)
    | fail)
  go_ret
  refine ⟨_, rfl, ?_, HB9.out⟩
  have h := HO9.out
  unfold layL crlf
  simpa [List.append_assoc] using h
end Go.Proofs.YtglicojojpggmaaDoor
