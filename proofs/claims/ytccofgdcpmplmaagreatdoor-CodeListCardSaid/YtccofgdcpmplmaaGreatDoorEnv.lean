/- What a call finds besides its arguments; numbers as texts; rows of bytes. -/
import Derived.Test.YtccofgdcpmplmaaGreatDoorKw
import Derived.Test.YtccofgdcpmplmaaGreatDoorLn
import Derived.Lib.ItoaLen
import Derived.Lib.AppendStr
import Derived.OwnWalk
import Derived.Deep.RegionLaw
import Derived.Laws.AppendOwn
namespace Go.Proofs.YtccofgdcpmplmaaGreatDoor
open Go Go.RowKit Go.Shelf
theorem below_growN (w : World) (k : Nat) (os : Array Obj) : Below w.heap.size w (Go.Sort.grow (w.drewN k) os) := by
  refine ⟨rfl, rfl, rfl, ?_, fun j hj => ?_⟩
  · show w.heap.size ≤ (w.heap ++ os).size
    simp
  · show (w.heap ++ os)[j]? = w.heap[j]?
    rw [Array.getElem?_append_left hj]
abbrev TAB (w : World) : Prop := Go.Lib.TabIs Tryz.prog w "internal/strconv.uint64pow10" .u64 Go.Lib.pow10Tab
theorem gPow' : Tryz.prog.globalNamed "internal/strconv.uint64pow10" = some 0 := by kernel_rfl
theorem tab_below {w w' : World} (h : TAB w) (hb : Below w.heap.size w w') : TAB w' := Go.Joins.tab_stays gPow' h hb (Nat.le_refl _)
theorem block_lt1 {W : World} {b : Nat} {v : Value} (h : W.cell? ⟨b, 0, none⟩ = some v) : b < W.heap.size := by
  rcases Nat.lt_or_ge b W.heap.size with h1 | h1
  · exact h1
  · simp [World.cell?, Array.getElem?_eq_none h1] at h
/-- What a call finds besides its arguments. -/
structure Env (w : World) : Prop where
  spc : SPC w
  pow : TAB w
  ml : ∃ m, w.cell? ⟨1, 0, none⟩ = some (.int .i64 m)
  es : ∃ tp p, w.cell? ⟨2, 0, none⟩ = some (.iface tp p)
  er : ∃ tp p, w.cell? ⟨3, 0, none⟩ = some (.iface tp p)
theorem Env.below {w w' : World} (h : Env w) (hb : Below w.heap.size w w') : Env w' := by
  obtain ⟨a, b, ⟨m, c⟩, ⟨t, p, d⟩, u, q, e⟩ := h
  exact ⟨spc_below a hb, tab_below b hb, ⟨m, (hb.cell (p := ⟨1, 0, none⟩) (block_lt1 c)).trans c⟩, ⟨t, p, (hb.cell (p := ⟨2, 0, none⟩) (block_lt1 d)).trans d⟩, u, q, (hb.cell (p := ⟨3, 0, none⟩) (block_lt1 e)).trans e⟩
/-- A number as a text. -/
def itL (n : Int) : List UInt8 := Go.Lib.itoa n
def itS (n : Int) : ByteArray := ofL (itL n)
theorem itL_len (n : Int) (h : inI n) : (itL n).length ≤ 21 := Go.Lib.itoa_length_le n h.1 h.2
theorem itoa_any (n : Int) (w : World) (h : inI n) (he : Env w) :
    Calls Tryz.prog 15 #[.int .i64 n] w fun e w' => e = .returned (.string (itS n)) ∧ Below w.heap.size w w' := by
  refine (Go.Proofs.Tryz.strconv_Itoa n h.1 h.2 w he.pow).mono ?_
  rintro e w' ⟨rfl, k, os, rfl⟩
  exact ⟨rfl, below_growN w k os⟩
theorem fmt_any (n : Int) (w : World) (h : inI n) (he : Env w) :
    Calls Tryz.prog 16 #[.int .i64 n, .int .i64 10] w fun e w' => e = .returned (.string (itS n)) ∧ Below w.heap.size w w' := by
  refine (Go.Proofs.Tryz.strconv_FormatInt_10 n h.1 h.2 w he.pow).mono ?_
  rintro e w' ⟨rfl, k, os, rfl⟩
  exact ⟨rfl, below_growN w k os⟩
theorem u8_info' : (Tryz.prog.info? 5).map (fun i => (i.zero, i.size, i.bytes)) = some (some (.int .u8 0), 1, 1) := by kernel_rfl
/-- A row of one's own, with bytes. -/
def OwnB (w : World) (base : Nat) (v : Value) (l : List UInt8) : Prop := w.ownsRow base 5 1 v l.length (cellsB l)
theorem OwnB.below {w w' : World} {base : Nat} {v : Value} {l : List UInt8} (h : OwnB w base v l) (hb : Below w.heap.size w w') : OwnB w' base v l := own_below h hb
theorem OwnB.down {w : World} {base base' : Nat} {v : Value} {l : List UInt8} (h : OwnB w base v l) (hb : base' ≤ base) : OwnB w base' v l := own_down h hb
theorem OwnB.nil (w : World) (base : Nat) : OwnB w base (.slice none 0 0) [] := World.ownsRow_nil w base 5 1
theorem rdV_rd {w : World} {A : Option Addr} {l : List UInt8} (h : RdV w A (cellsB l)) : Rd w A l := fun h0 => by
  obtain ⟨b, off, rfl, hlt, hc⟩ := h (by rw [cellsB_len]; exact h0)
  refine ⟨b, off, rfl, hlt, fun j hj => ?_⟩
  rw [hc j (by rw [cellsB_len]; exact hj)]
  simp [cellsB, cellB]
theorem OwnB.rd {w : World} {base : Nat} {v : Value} {l : List UInt8} (h : OwnB w base v l) : ∃ A c, v = .slice A l.length c ∧ l.length ≤ c ∧ (A = none → c = 0) ∧ c ≤ maxLen ∧ Rd w A l := by
  obtain ⟨A, c, rfl, h1, h2, h3, h4⟩ := own_rdV h
  exact ⟨A, c, rfl, h1, h2, h3, rdV_rd h4⟩
theorem str_cells (s : ByteArray) : Lib.strCells s = cellsB s.data.toList := by simp [Lib.strCells, cellsB, cellB]
section
variable {w : World} {ops : Array Oper} {rest : List Oper} {o : Oper} {a : Go.Act} {K : Go.Act → World → Prop} {Q : Exit → Go.Act → World → Prop} {E : Prop}
/-- Bytes that are appended to a row of bytes, at a step of a region that draws. -/
theorem step_bytes (hg : o.guard = none) (s x : Operand) (ho : o.op = .call { callee := .builtin .append, args := #[s, x], argTypes := #[46, 46] })
    (base : Nat) (v : Value) (l : List UInt8) (hs : a.eval s = v) (hown : OwnB w base v l) (ad : Addr) (n c : Nat) (m : List UInt8) (hm : m.length = n) (hx : a.eval x = .slice (some ad) n c)
    (hr : Rd w (some ad) m) (b1 : l.length + n ≤ 140737488355328) (hb : base ≤ w.heap.size)
    (hK : ∀ v' w', OwnB w' base v' (l ++ m) → Below base w w' → K (a.put o.dst v') w') : if Region.wanted o (yielded ops a.tmps) = true then Oper.wp Tryz.prog o a w K Q else E := by
  have hw : Region.wanted o (yielded ops a.tmps) = true := by simp [Region.wanted, hg]
  rw [if_pos hw]
  obtain ⟨i0, hi, hz0, hz1, hz2⟩ := info_parts u8_info'
  have hcl := cellsB_len m
  refine wp_append_own w s x 46 ho base 5 i0 _ 1 1 Tryz.underlying46 hi hz0 hz1 hz2 rfl (by omega) v l.length (cellsB l) hs hown ad n c (cellsB m) hx (by omega) hr.rdV.news (cellsB_one m) (by simp only [maxLen]; omega) (by omega) hb (fun v' w' h1 h2 _ => hK v' w' ?_ ((Below.refl base w).grown h2 hb (fun k hk => (World.ownsRow.lt hown k hk).1)))
  unfold OwnB
  rw [cellsB_app, List.length_append, hm]
  exact h1
/-- A text that is appended to a row of bytes, at a step of a region that draws. -/
theorem step_text (hg : o.guard = none) (s x : Operand) (ho : o.op = .call { callee := .builtin .append, args := #[s, x], argTypes := #[46, 9] })
    (base : Nat) (v : Value) (l : List UInt8) (hs : a.eval s = v) (hown : OwnB w base v l) (t : ByteArray) (hx : a.eval x = .string t)
    (b1 : l.length + t.size ≤ 140737488355328) (hb : base ≤ w.heap.size)
    (hK : ∀ v' w', OwnB w' base v' (l ++ t.data.toList) → Below base w w' → K34 w w' → K (a.put o.dst v') w') : if Region.wanted o (yielded ops a.tmps) = true then Oper.wp Tryz.prog o a w K Q else E := by
  have hw : Region.wanted o (yielded ops a.tmps) = true := by simp [Region.wanted, hg]
  rw [if_pos hw]
  obtain ⟨i0, hi, hz0, hz1, hz2⟩ := info_parts u8_info'
  obtain ⟨v', w', hr, h2, h3, _⟩ := Lib.run_append_own_string (P := Tryz.prog) w base 46 9 o.type 5 i0 Tryz.underlying46 Tryz.underlying9 hi hz0 hz1 hz2 v l.length (cellsB l) hown t (by simp only [maxLen]; omega) b1 hb
  have ht : t.data.toList.length = t.size := by rw [Array.length_toList]; rfl
  have hk := hK v' w' (by unfold OwnB; rw [cellsB_app, List.length_append, ht, ← str_cells]; exact h2) ((Below.refl base w).grown h3 hb (fun k hk => (World.ownsRow.lt hown k hk).1)) (k34_grown h3 (own_type hown))
  unfold Oper.wp execOp
  simp only [ho, resolve, invoke, builtin, Sem.run_bind, Sem.run_pure, Result.andThen_ok, List.map_toArray, List.map_cons, List.map_nil, hs, hx, hr]
  exact hk
/-- A text's bytes that are appended to a row of bytes. -/
theorem wpList_text (hg : o.guard = none) (s x : Operand) (ho : o.op = .call { callee := .builtin .append, args := #[s, x], argTypes := #[46, 9] })
    (base : Nat) (v : Value) (l : List UInt8) (hs : a.eval s = v) (hown : OwnB w base v l) (t : ByteArray) (hx : a.eval x = .string t)
    (b1 : l.length + t.size ≤ 140737488355328) (hb : base ≤ w.heap.size)
    (hK : ∀ v' w', OwnB w' base v' (l ++ t.data.toList) → Below base w w' → K34 w w' → wpList Tryz.prog ops Q rest (a.put o.dst v') w') : wpList Tryz.prog ops Q (o :: rest) a w := by
  obtain ⟨i0, hi, hz0, hz1, hz2⟩ := info_parts u8_info'
  refine Lib.wpList_append_own_string w hg s x 46 9 ho base 5 i0 Tryz.underlying46 Tryz.underlying9 hi hz0 hz1 hz2 v l.length (cellsB l) hs hown t hx (by simp only [maxLen]; omega) b1 hb (fun v' w' h1 h2 _ => hK v' w' ?_ ((Below.refl base w).grown h2 hb (fun k hk => (World.ownsRow.lt hown k hk).1)) (k34_grown h2 (own_type hown)))
  unfold OwnB
  have h2 : t.data.toList.length = t.size := by rw [Array.length_toList]; rfl
  rw [cellsB_app, List.length_append, h2, ← str_cells]
  exact h1
/-- A new row with room. -/
theorem wpList_make_bytes (hg : o.guard = none) (x : Operand) (ho : o.op = .makeSlice 46 (.const (.int .i64 0)) x) (C : Int) (n : Nat) (hx : a.eval x = .int .i64 C) (hC : C = (n : Int)) (hn : n ≤ 281474976710656)
    (hK : ∀ v' w', OwnB w' w.heap.size v' [] → Below w.heap.size w w' → wpList Tryz.prog ops Q rest (a.put o.dst v') w') : wpList Tryz.prog ops Q (o :: rest) a w := by
  obtain ⟨i0, hi, hz0, hz1, hz2⟩ := info_parts u8_info'
  refine wpList_make_own w hg (.const (.int .i64 0)) x 46 ho w.heap.size 5 i0 _ 1 Tryz.underlying46 hi hz0 hz1 .i64 .i64 C n rfl hx hC (by rw [hz2]; omega) (by simp only [maxLen]; omega) (Nat.le_refl _) (fun w' h1 h2 => hK _ w' h1 ?_)
  exact (Below.refl _ w).grown h2 (Nat.le_refl _) (fun k hk => by cases hk)
end
end Go.Proofs.YtccofgdcpmplmaaGreatDoor
