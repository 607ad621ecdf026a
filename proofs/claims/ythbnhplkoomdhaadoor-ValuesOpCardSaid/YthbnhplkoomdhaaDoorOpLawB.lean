/- The law where a text or a number is big. -/
import Derived.Test.YthbnhplkoomdhaaDoorOpLawA
import Derived.Test.YthbnhplkoomdhaaDoorLong
namespace Go.Proofs.YthbnhplkoomdhaaDoor
open Go Go.RowKit
set_option maxRecDepth 10000 in
set_option maxHeartbeats 1000000 in
theorem law_long (k n k' n' c : Int) (op t t' : Array UInt8) (w : World) (hl : decide (500 < t.size ∨ 500 < t'.size) = true) :
    Calls Tryd.prog 3 #[.string { data := op }, .agg #[.int .i64 k, .int .i64 n, .string { data := t }, .int .i64 k', .int .i64 n', .string { data := t' }], .int .i64 c] w fun e w' => e = .returned (.bool true) ∧ Below w.heap.size w w' := by
  have hr : ((w.alloc (.cells #[.int .i64 k, .int .i64 n, .string { data := t }, .int .i64 k', .int .i64 n', .string { data := t' }] 26)).alloc (.cells #[.int .i64 k, .int .i64 n, .string { data := t }, .int .i64 k', .int .i64 n', .string { data := t' }] 24)).heap[w.heap.size + 1]? = some (.cells #[.int .i64 k, .int .i64 n, .string { data := t }, .int .i64 k', .int .i64 n', .string { data := t' }] 24 (0, 0)) := by have := newc (w.alloc (.cells #[.int .i64 k, .int .i64 n, .string { data := t }, .int .i64 k', .int .i64 n', .string { data := t' }] 26)) (.cells #[.int .i64 k, .int .i64 n, .string { data := t }, .int .i64 k', .int .i64 n', .string { data := t' }] 24); simpa using this
  have HR := Lib.hid hr
  clear hr
  have HB := Lib.hid (((Below.refl w.heap.size w).alloc (Nat.le_refl _) (.cells #[.int .i64 k, .int .i64 n, .string { data := t }, .int .i64 k', .int .i64 n', .string { data := t' }] 26)).alloc (by simp) (.cells #[.int .i64 k, .int .i64 n, .string { data := t }, .int .i64 k', .int .i64 n', .string { data := t' }] 24))
  go_enter Tryd.func3, Tryd.ntmps3
  go_wp2_with fail
  refine (long_two _ _ k n k' n' t t' HR.out).mono ?_
  rintro e w1 ⟨rfl, rfl⟩
  rw [hl]
  go_wp2_with fail
  refine (known_any _).mono ?_
  rintro e w2 ⟨rfl, hb2⟩
  have HBF := Lib.hid (HB.out.trans (hb2.mono HB.out.size))
  clear hb2
  go_wp2_with fail
  go_ret
  exact ⟨rfl, HBF.out⟩

set_option maxRecDepth 10000 in
set_option maxHeartbeats 1000000 in
theorem law_op (k n k' n' c : Int) (op t t' : Array UInt8) (w : World) (hl : decide (500 < t.size ∨ 500 < t'.size) = false) (ho : 500 < op.size) :
    Calls Tryd.prog 3 #[.string { data := op }, .agg #[.int .i64 k, .int .i64 n, .string { data := t }, .int .i64 k', .int .i64 n', .string { data := t' }], .int .i64 c] w fun e w' => e = .returned (.bool true) ∧ Below w.heap.size w w' := by
  have hr : ((w.alloc (.cells #[.int .i64 k, .int .i64 n, .string { data := t }, .int .i64 k', .int .i64 n', .string { data := t' }] 26)).alloc (.cells #[.int .i64 k, .int .i64 n, .string { data := t }, .int .i64 k', .int .i64 n', .string { data := t' }] 24)).heap[w.heap.size + 1]? = some (.cells #[.int .i64 k, .int .i64 n, .string { data := t }, .int .i64 k', .int .i64 n', .string { data := t' }] 24 (0, 0)) := by have := newc (w.alloc (.cells #[.int .i64 k, .int .i64 n, .string { data := t }, .int .i64 k', .int .i64 n', .string { data := t' }] 26)) (.cells #[.int .i64 k, .int .i64 n, .string { data := t }, .int .i64 k', .int .i64 n', .string { data := t' }] 24); simpa using this
  have HR := Lib.hid hr
  clear hr
  have HB := Lib.hid (((Below.refl w.heap.size w).alloc (Nat.le_refl _) (.cells #[.int .i64 k, .int .i64 n, .string { data := t }, .int .i64 k', .int .i64 n', .string { data := t' }] 26)).alloc (by simp) (.cells #[.int .i64 k, .int .i64 n, .string { data := t }, .int .i64 k', .int .i64 n', .string { data := t' }] 24))
  have d1 : decide (op.size > 500) = true := by simp; omega
  have d2 : decide ((op.size : Int) > 500) = true := by simp; omega
  go_enter Tryd.func3, Tryd.ntmps3
  go_wp2_with fail
  refine (long_two _ _ k n k' n' t t' HR.out).mono ?_
  rintro e w1 ⟨rfl, rfl⟩
  rw [hl]
  go_wp2_with fail
  refine (known_any _).mono ?_
  rintro e w2 ⟨rfl, hb2⟩
  have HBF := Lib.hid (HB.out.trans (hb2.mono HB.out.size))
  clear hb2
  go_wp2_with fail
  go_ret
  exact ⟨rfl, HBF.out⟩

set_option maxRecDepth 10000 in
set_option maxHeartbeats 1000000 in
theorem law_cells (k n k' n' c : Int) (op t t' : Array UInt8) (w : World) (hl : decide (500 < t.size ∨ 500 < t'.size) = false) (ho : op.size ≤ 500) (hc : 1000 < c) :
    Calls Tryd.prog 3 #[.string { data := op }, .agg #[.int .i64 k, .int .i64 n, .string { data := t }, .int .i64 k', .int .i64 n', .string { data := t' }], .int .i64 c] w fun e w' => e = .returned (.bool true) ∧ Below w.heap.size w w' := by
  have hr : ((w.alloc (.cells #[.int .i64 k, .int .i64 n, .string { data := t }, .int .i64 k', .int .i64 n', .string { data := t' }] 26)).alloc (.cells #[.int .i64 k, .int .i64 n, .string { data := t }, .int .i64 k', .int .i64 n', .string { data := t' }] 24)).heap[w.heap.size + 1]? = some (.cells #[.int .i64 k, .int .i64 n, .string { data := t }, .int .i64 k', .int .i64 n', .string { data := t' }] 24 (0, 0)) := by have := newc (w.alloc (.cells #[.int .i64 k, .int .i64 n, .string { data := t }, .int .i64 k', .int .i64 n', .string { data := t' }] 26)) (.cells #[.int .i64 k, .int .i64 n, .string { data := t }, .int .i64 k', .int .i64 n', .string { data := t' }] 24); simpa using this
  have HR := Lib.hid hr
  clear hr
  have HB := Lib.hid (((Below.refl w.heap.size w).alloc (Nat.le_refl _) (.cells #[.int .i64 k, .int .i64 n, .string { data := t }, .int .i64 k', .int .i64 n', .string { data := t' }] 26)).alloc (by simp) (.cells #[.int .i64 k, .int .i64 n, .string { data := t }, .int .i64 k', .int .i64 n', .string { data := t' }] 24))
  have d2 : decide ((op.size : Int) > 500) = false := by simp; omega
  have d3 : decide (c > 1000) = true := by simp; omega
  go_enter Tryd.func3, Tryd.ntmps3
  go_wp2_with fail
  refine (long_two _ _ k n k' n' t t' HR.out).mono ?_
  rintro e w1 ⟨rfl, rfl⟩
  rw [hl]
  go_wp2_with fail
  refine (known_any _).mono ?_
  rintro e w2 ⟨rfl, hb2⟩
  have HBF := Lib.hid (HB.out.trans (hb2.mono HB.out.size))
  clear hb2
  go_wp2_with fail
  go_ret
  exact ⟨rfl, HBF.out⟩
end Go.Proofs.YthbnhplkoomdhaaDoor
