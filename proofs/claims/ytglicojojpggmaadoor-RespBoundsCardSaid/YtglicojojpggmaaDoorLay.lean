/- A line that is laid: what is no row of bytes stays. -/
import Derived.Test.YtglicojojpggmaaDoorOwn
namespace Go.Proofs.YtglicojojpggmaaDoor
open Go Go.RowKit
theorem lt_of_block' {W : World} {g : Nat} {o : Obj} (h : W.heap[g]? = some o) : g < W.heap.size := (Array.getElem?_eq_some_iff.1 h).1
/-- What is no row of bytes stays. -/
def Frg (w w' : World) : Prop := ∀ (x : Nat) (o : Obj), w.heap[x]? = some o → (∀ cs, o ≠ Obj.cells cs 5 (0, 0)) → w'.heap[x]? = some o
theorem Frg.refl (w : World) : Frg w w := fun _ _ h _ => h
theorem Frg.trans {a b c : World} (h : Frg a b) (k : Frg b c) : Frg a c := fun x o hx hn => k x o (h x o hx hn) hn
theorem Frg.of {w w' : World} (h : Below w.heap.size w w') : Frg w w' := fun x o hx _ => (h.block x (lt_of_block' hx)).trans hx
theorem OwnB.frg {w w' : World} {base : Nat} {v : Value} {l : List UInt8} (h : OwnB w base v l) (hg : w.grownBy w' v.ownBlock) : Frg w w' := fun x o hx hn => by
  refine (hg.block x (lt_of_block' hx) fun e => ?_).trans hx
  rcases h.2 with ⟨rfl, _⟩ | ⟨g, cap, cur, rfl, _, hg2, _⟩
  · cases e
  · have : x = g := by simpa [Value.ownBlock] using e
    subst this
    rw [hx] at hg2
    injection hg2 with h2
    exact hn cur h2
section
variable {P : Program} {w : World} {ops : Array Oper} {rest : List Oper} {o : Oper} {a : Act} {Q : Exit → Act → World → Prop}
/-- Bytes that are appended to a row of bytes. -/
theorem wpList_bytes2 (hg : o.guard = none) (s x : Operand) (ho : o.op = .call { callee := .builtin .append, args := #[s, x], argTypes := #[25, 25] })
    (base : Nat) (v : Value) (l : List UInt8) (hs : a.eval s = v) (hown : OwnB w base v l) (A : Option Addr) (n c : Nat) (m : List UInt8) (hm : m.length = n) (hx : a.eval x = .slice A n c)
    (hr : Rd w A m) (hn : A = none → c = 0) (hc : n ≤ c) (b1 : l.length + n ≤ 140737488355328) (hb : base ≤ w.heap.size)
    (hK : ∀ v' w', OwnB w' base v' (l ++ m) → Below base w w' → w.heap.size ≤ w'.heap.size → Frg w w' → wpList Tryd.prog ops Q rest (a.put o.dst v') w') : wpList Tryd.prog ops Q (o :: rest) a w := by
  obtain ⟨i0, hi, hz0, hz1, hz2⟩ := info_parts u8_info
  have hcl := cellsB_len m
  refine wpList_append_src hg s x 25 ho base 5 i0 _ 1 Tryd.underlying25 hi hz0 hz1 hz2 rfl v l.length (cellsB l) hs hown A c (cellsB m) (by rw [hcl, hm]; exact hx) hr.rdV hn (by omega) (cellsB_one m) (by simp only [maxLen]; omega) (by omega) hb (fun v' w' h1 h2 => hK v' w' ?_ ?_ h2.size (hown.frg h2))
  · unfold OwnB
    rw [cellsB_app, List.length_append, ← hcl]
    exact h1
  · exact (Below.refl base w).grown h2 hb (fun k hk => (hown.lt k hk).1)
/-- A text's bytes that are appended to a row of bytes. -/
theorem wpList_text2 (hg : o.guard = none) (s x : Operand) (ho : o.op = .call { callee := .builtin .append, args := #[s, x], argTypes := #[25, 9] })
    (base : Nat) (v : Value) (l : List UInt8) (hs : a.eval s = v) (hown : OwnB w base v l) (t : ByteArray) (hx : a.eval x = .string t)
    (b1 : l.length + t.size ≤ 140737488355328) (hb : base ≤ w.heap.size)
    (hK : ∀ v' w', OwnB w' base v' (l ++ t.data.toList) → Below base w w' → w.heap.size ≤ w'.heap.size → Frg w w' → wpList Tryd.prog ops Q rest (a.put o.dst v') w') : wpList Tryd.prog ops Q (o :: rest) a w := by
  obtain ⟨i0, hi, hz0, hz1, hz2⟩ := info_parts u8_info
  refine Lib.wpList_append_own_string w hg s x 25 9 ho base 5 i0 Tryd.underlying25 Tryd.underlying9 hi hz0 hz1 hz2 v l.length (cellsB l) hs hown t hx (by simp only [maxLen]; omega) b1 hb (fun v' w' h1 h2 _ => hK v' w' ?_ ?_ h2.size (hown.frg h2))
  · unfold OwnB
    have h2 : t.data.toList.length = t.size := by rw [Array.length_toList]; rfl
    rw [cellsB_app, List.length_append, h2, ← str_cells]
    exact h1
  · exact (Below.refl base w).grown h2 hb (fun k hk => (hown.lt k hk).1)
end
set_option maxRecDepth 100000 in
set_option maxHeartbeats 4000000 in
theorem lay_frg (base : Nat) (A : Option Addr) (n c : Nat) (l : List UInt8) (s : UInt8) (t : ByteArray) (w : World) (hown : OwnB w base (.slice A n c) l) (hl : l.length = n) (bl1 : n ≤ 100000000) (bt : t.size ≤ 100000000) (hb : base ≤ w.heap.size) :
    Calls Tryd.prog 35 #[.slice A n c, .int .u8 s.toNat, .string t] w fun e w' => ∃ v, e = .returned v ∧ OwnB w' base v (l ++ layL s (bl t)) ∧ Below base w w' ∧ Frg w w' := by
  have HO := Lib.hid hown
  have HL := Lib.hid hl
  clear hown hl
  go_enter Tryd.func35, Tryd.ntmps35
  have HW := Lib.hid (below_new w (.cells #[.int .u8 s.toNat] 5))
  have HR1 := Lib.hid (rd_one w s)
  have HB1 := Lib.hid ((Below.refl base w).alloc hb (.cells #[.int .u8 s.toNat] 5))
  have HZ1 : Hid (base ≤ (w.alloc (.cells #[.int .u8 s.toNat] 5)).heap.size) := Lib.hid (Nat.le_trans hb HW.out.size)
  have HT : Hid ((bl t).length = t.size) := Lib.hid (by rw [Array.length_toList]; rfl)
  go_wp2_with (first
    | (at_builtin; refine wpList_bytes2 rfl (.tmp 7) (.tmp 9) rfl base _ l rfl (HO.out.below HW.out) (some ⟨w.heap.size, 0, none⟩) 1 1 [s] rfl rfl HR1.out (fun e => by cases e) (Nat.le_refl _) (by have := HL.out; omega) HZ1.out ?_; intro v7 w7 ho7 hb7 hs7 hf7; have HF7 := Lib.hid ((Frg.of HW.out).trans hf7); clear hf7; have HO7 := Lib.hid ho7; have HB7 := Lib.hid (HB1.out.trans hb7); have HS7 := Lib.hid (Nat.le_trans HZ1.out hs7); clear ho7 hb7 hs7)
    | (at_builtin; refine wpList_text2 rfl (.tmp 10) (.tmp 11) rfl base v7 _ rfl HO7.out t rfl (by have := HL.out; simp; omega) HS7.out ?_; intro v8 w8 ho8 hb8 hs8 hf8; have HF8 := Lib.hid (HF7.out.trans hf8); clear hf8; have HO8 := Lib.hid ho8; have HB8 := Lib.hid (HB7.out.trans hb8); have HS8 := Lib.hid (Nat.le_trans HS7.out hs8); have HR8 := Lib.hid (rd_crlf w8); have HW8 := Lib.hid (below_new w8 (.cells #[.int .u8 13, .int .u8 10] 5)); clear ho8 hb8 hs8)
    | (at_builtin; refine wpList_bytes2 rfl (.tmp 12) (.tmp 13) rfl base v8 _ rfl (HO8.out.below HW8.out) (some ⟨w8.heap.size, 0, none⟩) 2 2 [13, 10] rfl rfl HR8.out (fun e => by cases e) (Nat.le_refl _) (by have := HL.out; have := HT.out; simp at *; omega) (Nat.le_trans HS8.out HW8.out.size) ?_; intro v9 w9 ho9 hb9 hs9 hf9; have HF9 := Lib.hid ((HF8.out.trans (Frg.of HW8.out)).trans hf9); clear hf9; have HO9 := Lib.hid ho9; have HB9 := Lib.hid ((HB8.out.trans (HW8.out.mono HS8.out)).trans hb9); clear ho9 hb9 hs9)
    | fail)
  go_ret
  refine ⟨_, rfl, ?_, HB9.out, HF9.out⟩
  have h := HO9.out
  unfold layL crlf
  simpa [List.append_assoc] using h
end Go.Proofs.YtglicojojpggmaaDoor
