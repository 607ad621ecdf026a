/- Texts of numbers; cells that are taken. -/
import Derived.Test.YthbnhplkoomdhaaDoorRefB
import Derived.Test.YthbnhplkoomdhaaDoorShelf
import Derived.Test.YthbnhplkoomdhaaDoorOpTell
import Derived.Lib.SmallJoins
import Derived.Lib.ItoaLen
namespace Go.Proofs.YthbnhplkoomdhaaDoor
open Go Go.RowKit
theorem below_growN (w : World) (k : Nat) (os : Array Obj) : Below w.heap.size w (Go.Sort.grow (w.drewN k) os) := by
  refine ⟨rfl, rfl, rfl, ?_, fun j hj => ?_⟩
  · show w.heap.size ≤ (w.heap ++ os).size
    simp
  · show (w.heap ++ os)[j]? = w.heap[j]?
    rw [Array.getElem?_append_left hj]
abbrev TAB (w : World) : Prop := Go.Lib.TabIs Tryd.prog w "internal/strconv.uint64pow10" .u64 Go.Lib.pow10Tab
theorem gPow' : Tryd.prog.globalNamed "internal/strconv.uint64pow10" = some 0 := by kernel_rfl
theorem tab_below {w w' : World} (h : TAB w) (hb : Below w.heap.size w w') : TAB w' := Go.Joins.tab_stays gPow' h hb (Nat.le_refl _)
/-- A number as a text. -/
def itT (n : Int) : Array UInt8 := (Go.Lib.itoa n).toArray
theorem itT_len (n : Int) (h : Fits n) : (itT n).size ≤ 21 := by
  unfold itT
  rw [List.size_toArray]
  exact Go.Lib.itoa_length_le n h.1 h.2
theorem fmt_any (n : Int) (w : World) (h : Fits n) (ht : TAB w) :
    Calls Tryd.prog 45 #[.int .i64 n, .int .i64 10] w fun e w' => e = .returned (.string { data := itT n }) ∧ Below w.heap.size w w' := by
  have H := Lib.hid (Go.Proofs.Tryd.internal_strconv_FormatInt_10 n h.1 h.2 w ht)
  clear h ht
  go_enter Tryd.func45, Tryd.ntmps45
  go_wp2_with fail
  refine H.out.mono ?_
  rintro e w' ⟨rfl, k, os, rfl⟩
  have hb := below_growN w k os
  generalize Go.Sort.grow (w.drewN k) os = w1 at *
  go_wp2
  go_ret
  exact ⟨rfl, hb⟩
/-- What is told of a number or a text. -/
def tl (k n : Int) (t : Array UInt8) : Array UInt8 := if k = 2 then itT n else t
theorem told_int (n : Int) (t : Array UInt8) (w : World) (h : Fits n) (ht : TAB w) :
    Calls Tryd.prog 49 #[.agg #[.int .i64 2, .int .i64 n, .string { data := t }]] w fun e w' => e = .returned (.string { data := itT n }) ∧ Below w.heap.size w w' := by
  have hb := below_alloc w (.cells #[.int .i64 2, .int .i64 n, .string { data := t }] 24)
  have H := Lib.hid (fmt_any n _ h (tab_below ht hb))
  have HB := Lib.hid hb
  clear h ht hb
  go_enter Tryd.func49, Tryd.ntmps49
  go_wp2_with fail
  refine H.out.mono ?_
  rintro e w' ⟨rfl, hb1⟩
  have HB1 := Lib.hid (HB.out.trans (hb1.mono HB.out.size))
  clear hb1
  go_wp2
  go_ret
  exact ⟨rfl, HB1.out⟩
theorem told_text (n : Int) (t : Array UInt8) (w : World) :
    Calls Tryd.prog 49 #[.agg #[.int .i64 3, .int .i64 n, .string { data := t }]] w fun e w' => e = .returned (.string { data := t }) ∧ Below w.heap.size w w' := by
  go_enter Tryd.func49, Tryd.ntmps49
  go_wp2
  go_ret
  exact ⟨rfl, below_alloc _ _⟩
theorem told_any (k n : Int) (t : Array UInt8) (w : World) (hk : k = 2 ∨ k = 3) (h : Fits n) (ht : TAB w) :
    Calls Tryd.prog 49 #[.agg #[.int .i64 k, .int .i64 n, .string { data := t }]] w fun e w' => e = .returned (.string { data := tl k n t }) ∧ Below w.heap.size w w' := by
  rcases hk with rfl | rfl
  · exact told_int n t w h ht
  · exact told_text n t w
theorem joined_any (k n : Int) (t : Array UInt8) (w : World) (h : Fits n) (ht : TAB w) :
    Calls Tryd.prog 23 #[.agg #[.int .i64 k, .int .i64 n, .string { data := t }]] w fun e w' => e = .returned (.tuple #[.string { data := tl k n t }, .bool (decide (k = 2 ∨ k = 3))]) ∧ Below w.heap.size w w' := by
  by_cases h2 : k = 2
  · subst h2
    have hb := below_alloc w (.cells #[.int .i64 2, .int .i64 n, .string { data := t }] 24)
    have H := Lib.hid (fmt_any n _ h (tab_below ht hb))
    have HB := Lib.hid hb
    clear h ht hb
    go_enter Tryd.func23, Tryd.ntmps23
    go_wp2_with fail
    refine H.out.mono ?_
    rintro e w' ⟨rfl, hb1⟩
    have HB1 := Lib.hid (HB.out.trans (hb1.mono HB.out.size))
    clear hb1
    go_wp2
    go_ret2
    exact ⟨rfl, HB1.out⟩
  · have d2 := beq_no k 2 h2
    have HB := Lib.hid (below_alloc w (.cells #[.int .i64 k, .int .i64 n, .string { data := t }] 24))
    have HT : tl k n t = t := by unfold tl; rw [if_neg h2]
    rw [HT]
    by_cases h3 : k = 3
    · subst h3
      clear h ht HT h2
      go_enter Tryd.func23, Tryd.ntmps23
      go_wp2_with fail
      go_quiet (fail)
      go_wp2
      go_ret2
      exact ⟨rfl, below_drewN HB.out _⟩
    · have d3 := beq_no k 3 h3
      have d4 : decide (k = 2 ∨ k = 3) = false := by simp [h2, h3]
      rw [d4]
      clear h ht HT h2 h3 d4
      go_enter Tryd.func23, Tryd.ntmps23
      go_wp2_with fail
      go_quiet (fail)
      go_wp2
      go_ret2
      exact ⟨rfl, below_drewN HB.out _⟩
theorem res54 (tmps : Array Value) (w : World) (g : Nat) (cs : Array Value) (hp : tmps.getD 2 undef = .pointer (some ⟨g, 0, none⟩)) (hg : w.heap[g]? = some (.cells cs 24 (0, 0))) (hs : cs.size = 3 := by rfl) :
    (results Tryd.f54 tmps).run Tryd.prog w = .ok (.agg cs) w :=
  results_cell_row (P := Tryd.prog) (p := 2) (ty := 24) Tryd.results54 tmps w g 24 cs (0, 0) _ hp hg Tryd.underlying24 rfl (by rw [size24, hs])
theorem res50 (tmps : Array Value) (w : World) (g : Nat) (cs : Array Value) (hp : tmps.getD 4 undef = .pointer (some ⟨g, 0, none⟩)) (hg : w.heap[g]? = some (.cells cs 24 (0, 0))) (hs : cs.size = 3 := by rfl) :
    (results Tryd.f50 tmps).run Tryd.prog w = .ok (.tuple #[.agg cs, tmps.getD 5 undef]) w := by
  rw [results_cell_tmp Tryd.results50, hp]
  simp only [asAddr, Sem.run_pure, Result.andThen_ok]
  rw [run_loadVar_row (P := Tryd.prog) w g 24 24 cs (0, 0) _ hg Tryd.underlying24 rfl (by rw [size24, hs])]
  rfl
theorem res24 (tmps : Array Value) (w : World) (g : Nat) (cs : Array Value) (hp : tmps.getD 4 undef = .pointer (some ⟨g, 0, none⟩)) (hg : w.heap[g]? = some (.cells cs 24 (0, 0))) (hs : cs.size = 3 := by rfl) :
    (results Tryd.f24 tmps).run Tryd.prog w = .ok (.tuple #[.agg cs, tmps.getD 5 undef]) w := by
  rw [results_cell_tmp Tryd.results24, hp]
  simp only [asAddr, Sem.run_pure, Result.andThen_ok]
  rw [run_loadVar_row (P := Tryd.prog) w g 24 24 cs (0, 0) _ hg Tryd.underlying24 rfl (by rw [size24, hs])]
  rfl
theorem text_any (s : ByteArray) (w : World) : Calls Tryd.prog 54 #[.string s] w fun e w' => e = .returned (.agg #[.int .i64 3, .int .i64 0, .string s]) ∧ Below w.heap.size w w' := by
  go_enter Tryd.func54, Tryd.ntmps54
  go_wp2
  exact bodyPost_ret (v := .agg #[.int .i64 3, .int .i64 0, .string s]) (res54 _ _ w.heap.size _ rfl (newc w _)) rfl ⟨rfl, (Below.refl _ _).alloc (Nat.le_refl _) _⟩
set_option maxRecDepth 10000 in
theorem sp_yes (w : World) (G ob : Nat) (tb : Value) (c s : Int) (n : Int) (h : w.heap[G]? = some (.cells #[tb, .int .i64 c, .int .i64 s, .map (some ob)] 51 (0, 0))) (h0 : 0 ≤ s) (hn : 0 ≤ n) (hs : s + n ≤ c) (hc : c ≤ 1000000) :
    Calls Tryd.prog 26 #[.pointer (some ⟨G, 0, none⟩), .int .i64 n] w fun e w' => e = .returned (.bool true) ∧ ∃ m, w' = (w.setCell ⟨G, 2, none⟩ (.int .i64 (s + n))).drewN m := by
  have h1 : w.cell? ⟨G, 1, none⟩ = some (.int .i64 c) := by rw [cell_of_row w G 1 _ 51 (0, 0) h]; rfl
  have h2 : w.cell? ⟨G, 2, none⟩ = some (.int .i64 s) := by rw [cell_of_row w G 2 _ 51 (0, 0) h]; rfl
  have hf : ∀ q, w.frozen? ⟨G, q, none⟩ = false := fun q => frozen_of_row w G q _ 51 h
  have d1 : decide (n > c - s) = false := by simp; omega
  have w1 : IntKind.i64.wrap (c - s) = c - s := IntWalk.i64_in _ (by omega)
  clear h
  go_enter Tryd.func26, Tryd.ntmps26
  go_wp2_with fail
  go_quiet (fail)
  go_wp2
  go_ret
  exact ⟨rfl, nq, rfl⟩
set_option maxRecDepth 10000 in
theorem sp_no (w : World) (G ob : Nat) (tb : Value) (c s : Int) (n : Int) (h : w.heap[G]? = some (.cells #[tb, .int .i64 c, .int .i64 s, .map (some ob)] 51 (0, 0))) (h0 : 0 ≤ s) (hn : 0 ≤ n) (hs : c < s + n) (hc0 : 0 ≤ c) (hsc : s ≤ c) (hc : c ≤ 1000000) :
    Calls Tryd.prog 26 #[.pointer (some ⟨G, 0, none⟩), .int .i64 n] w fun e w' => e = .returned (.bool false) ∧ ∃ m, w' = w.drewN m := by
  have h1 : w.cell? ⟨G, 1, none⟩ = some (.int .i64 c) := by rw [cell_of_row w G 1 _ 51 (0, 0) h]; rfl
  have h2 : w.cell? ⟨G, 2, none⟩ = some (.int .i64 s) := by rw [cell_of_row w G 2 _ 51 (0, 0) h]; rfl
  have d1 : decide (n > c - s) = true := by simp; omega
  have w1 : IntKind.i64.wrap (c - s) = c - s := IntWalk.i64_in _ (by omega)
  clear h
  go_enter Tryd.func26, Tryd.ntmps26
  go_wp2_with fail
  go_quiet (fail)
  go_wp2
  go_ret
  exact ⟨rfl, nq, rfl⟩
set_option maxRecDepth 10000 in
theorem tk_yes (w : World) (G : Nat) (c s : Int) (n : Int) (h : w.heap[G]? = some (.cells #[.slice none 0 0, .int .i64 c, .int .i64 s] 38 (0, 0))) (h0 : 0 ≤ s) (hn : 0 ≤ n) (hs : s + n ≤ c) (hc : c ≤ 1000000) :
    Calls Tryd.prog 46 #[.pointer (some ⟨G, 0, none⟩), .int .i64 n] w fun e w' => e = .returned (.bool true) ∧ ∃ m, w' = (w.setCell ⟨G, 2, none⟩ (.int .i64 (s + n))).drewN m := by
  have h1 : w.cell? ⟨G, 1, none⟩ = some (.int .i64 c) := by rw [cell_of_row w G 1 _ 38 (0, 0) h]; rfl
  have h2 : w.cell? ⟨G, 2, none⟩ = some (.int .i64 s) := by rw [cell_of_row w G 2 _ 38 (0, 0) h]; rfl
  have hf : ∀ q, w.frozen? ⟨G, q, none⟩ = false := fun q => frozen_of_row w G q _ 38 h
  have d1 : decide (n > c - s) = false := by simp; omega
  have w1 : IntKind.i64.wrap (c - s) = c - s := IntWalk.i64_in _ (by omega)
  clear h
  go_enter Tryd.func46, Tryd.ntmps46
  go_wp2_with fail
  go_quiet (fail)
  go_wp2
  go_ret
  exact ⟨rfl, nq, rfl⟩
set_option maxRecDepth 10000 in
theorem tk_no (w : World) (G : Nat) (c s : Int) (n : Int) (h : w.heap[G]? = some (.cells #[.slice none 0 0, .int .i64 c, .int .i64 s] 38 (0, 0))) (h0 : 0 ≤ s) (hn : 0 ≤ n) (hs : c < s + n) (hc0 : 0 ≤ c) (hsc : s ≤ c) (hc : c ≤ 1000000) :
    Calls Tryd.prog 46 #[.pointer (some ⟨G, 0, none⟩), .int .i64 n] w fun e w' => e = .returned (.bool false) ∧ ∃ m, w' = w.drewN m := by
  have h1 : w.cell? ⟨G, 1, none⟩ = some (.int .i64 c) := by rw [cell_of_row w G 1 _ 38 (0, 0) h]; rfl
  have h2 : w.cell? ⟨G, 2, none⟩ = some (.int .i64 s) := by rw [cell_of_row w G 2 _ 38 (0, 0) h]; rfl
  have d1 : decide (n > c - s) = true := by simp; omega
  have w1 : IntKind.i64.wrap (c - s) = c - s := IntWalk.i64_in _ (by omega)
  clear h
  go_enter Tryd.func46, Tryd.ntmps46
  go_wp2_with fail
  go_quiet (fail)
  go_wp2
  go_ret
  exact ⟨rfl, nq, rfl⟩
end Go.Proofs.YthbnhplkoomdhaaDoor
