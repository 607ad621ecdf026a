/- An operator of values that may not be. -/
import Derived.Test.YthbnhplkoomdhaaDoorOpAny
namespace Go.Proofs.YthbnhplkoomdhaaDoor
open Go Go.RowKit

set_option maxRecDepth 10000 in
set_option maxHeartbeats 2000000 in
theorem op_same_bad1 (w : World) (H ob : Nat) (tb : Value) (c s k n k' n' : Int) (op t t' : Array UInt8) (hx : chk k n t = false)
    (hH : w.heap[H]? = some (.cells #[tb, .int .i64 c, .int .i64 s, .map (some ob)] 51 (0, 0)))
    (hlk : ∀ W, Below w.heap.size w W → (Instr.lookup 47 (.map (some ob)) (.string { data := op }) false).run Tryd.prog W = .ok (.func (.func 34) #[] #[]) W) :
    Calls Tryd.prog 10 #[.pointer (some ⟨H, 0, none⟩), .string { data := op }, .agg #[.int .i64 k, .int .i64 n, .string { data := t }], .agg #[.int .i64 k', .int .i64 n', .string { data := t' }]] w fun e w' => e = .returned (.tuple #[valNo, .string { data := #[116, 121, 112, 101] }]) ∧ Below w.heap.size w w' := by
  have hb3 : Below w.heap.size w (((w.alloc (.cells #[.int .i64 k, .int .i64 n, .string { data := t }] 24)).alloc (.cells #[.int .i64 k', .int .i64 n', .string { data := t' }] 24)).alloc (.cells #[.int .i64 0, .int .i64 0, .string { data := #[] }] 24)) := (((Below.refl w.heap.size w).alloc (Nat.le_refl _) _).alloc (by simp) _).alloc (by simp; omega) _
  have ha3 : (((w.alloc (.cells #[.int .i64 k, .int .i64 n, .string { data := t }] 24)).alloc (.cells #[.int .i64 k', .int .i64 n', .string { data := t' }] 24)).alloc (.cells #[.int .i64 0, .int .i64 0, .string { data := #[] }] 24)).heap[w.heap.size]? = some (.cells #[.int .i64 k, .int .i64 n, .string { data := t }] 24) := (Below.heap_alloc _ _ _ (by simp; omega)).trans ((Below.heap_alloc _ _ _ (by simp)).trans (newc w _))
  have hb3' : (((w.alloc (.cells #[.int .i64 k, .int .i64 n, .string { data := t }] 24)).alloc (.cells #[.int .i64 k', .int .i64 n', .string { data := t' }] 24)).alloc (.cells #[.int .i64 0, .int .i64 0, .string { data := #[] }] 24)).heap[w.heap.size + 1]? = some (.cells #[.int .i64 k', .int .i64 n', .string { data := t' }] 24) := (Below.heap_alloc _ _ _ (by simp)).trans (by have := newc (w.alloc (.cells #[.int .i64 k, .int .i64 n, .string { data := t }] 24)) (.cells #[.int .i64 k', .int .i64 n', .string { data := t' }] 24); simpa using this)
  have hc3 : (((w.alloc (.cells #[.int .i64 k, .int .i64 n, .string { data := t }] 24)).alloc (.cells #[.int .i64 k', .int .i64 n', .string { data := t' }] 24)).alloc (.cells #[.int .i64 0, .int .i64 0, .string { data := #[] }] 24)).heap[w.heap.size + 1 + 1]? = some (.cells #[.int .i64 0, .int .i64 0, .string { data := #[] }] 24) := by have := newc ((w.alloc (.cells #[.int .i64 k, .int .i64 n, .string { data := t }] 24)).alloc (.cells #[.int .i64 k', .int .i64 n', .string { data := t' }] 24)) (.cells #[.int .i64 0, .int .i64 0, .string { data := #[] }] 24); simpa using this
  have hHl := hlt' hH
  have hH3 : (((w.alloc (.cells #[.int .i64 k, .int .i64 n, .string { data := t }] 24)).alloc (.cells #[.int .i64 k', .int .i64 n', .string { data := t' }] 24)).alloc (.cells #[.int .i64 0, .int .i64 0, .string { data := #[] }] 24)).heap[H]? = some (.cells #[tb, .int .i64 c, .int .i64 s, .map (some ob)] 51 (0, 0)) := (hb3.block _ hHl).trans hH
  have hlk3 := hlk _ hb3
  have he := eq53 (.func 34) #[] #[]
  have hc : (((w.alloc (.cells #[.int .i64 k, .int .i64 n, .string { data := t }] 24)).alloc (.cells #[.int .i64 k', .int .i64 n', .string { data := t' }] 24)).alloc (.cells #[.int .i64 0, .int .i64 0, .string { data := #[] }] 24)).cell? ⟨H, 3, none⟩ = some (.map (some ob)) := by rw [cell_of_row _ H 3 _ 51 (0, 0) hH3]; rfl
  have HA3 := Lib.hid ha3
  have HB3 := Lib.hid hb3'
  have HC3 := Lib.hid hc3
  have HH3 := Lib.hid hH3
  clear hlk hH ha3 hb3' hc3 hH3
  go_enter Tryd.func10, Tryd.ntmps10
  go_wp2_with fail
  refine (none_heap H ob tb c s _ HH3.out).mono ?_
  rintro e w3 ⟨rfl, rfl⟩
  go_wp2_with fail
  generalize (((w.alloc (.cells #[.int .i64 k, .int .i64 n, .string { data := t }] 24)).alloc (.cells #[.int .i64 k', .int .i64 n', .string { data := t' }] 24)).alloc (.cells #[.int .i64 0, .int .i64 0, .string { data := #[] }] 24)) = w3 at *
  refine (chk_not k n t w3 hx).mono ?_
  rintro e w4 ⟨rfl, hb4⟩
  have hc4 := (hb4.block _ (hlt' HC3.out)).trans HC3.out
  have hbw4 := hb3.trans (hb4.mono hb3.size)
  have HCZ := Lib.hid hc4
  have HROW := Lib.hid (setRow_at w4 (w.heap.size + 1 + 1) _ #[.int .i64 0, .int .i64 0, .string { data := #[] }] 24 (0, 0) hc4)
  have hbelow : Below w.heap.size w (w4.setRow (w.heap.size + 1 + 1) #[.int .i64 0, .int .i64 0, .string { data := #[] }]) := setRow_below hbw4 (by omega) _
  clear hc4
  go_wp2_with (refine wpList_store_row rfl 24 (.tmp 8) (.tmp 32) rfl (w.heap.size + 1 + 1) #[.int .i64 0, .int .i64 0, .string { data := #[] }] rfl rfl 24 _ HCZ.out (by rw [size24]; rfl) rfl (by simp [Value.oneCell']) ?_)
  exact bodyPost_ret (v := .tuple #[valNo, .string { data := #[116, 121, 112, 101] }]) (res10 _ _ (w.heap.size + 1 + 1) _ rfl HROW.out) rfl ⟨rfl, hbelow⟩

set_option maxRecDepth 10000 in
set_option maxHeartbeats 2000000 in
theorem op_same_bad2 (w : World) (H ob : Nat) (tb : Value) (c s k n k' n' : Int) (op t t' : Array UInt8) (hx : chk k n t = true) (hy : chk k' n' t' = false)
    (hH : w.heap[H]? = some (.cells #[tb, .int .i64 c, .int .i64 s, .map (some ob)] 51 (0, 0)))
    (hlk : ∀ W, Below w.heap.size w W → (Instr.lookup 47 (.map (some ob)) (.string { data := op }) false).run Tryd.prog W = .ok (.func (.func 34) #[] #[]) W) :
    Calls Tryd.prog 10 #[.pointer (some ⟨H, 0, none⟩), .string { data := op }, .agg #[.int .i64 k, .int .i64 n, .string { data := t }], .agg #[.int .i64 k', .int .i64 n', .string { data := t' }]] w fun e w' => e = .returned (.tuple #[valNo, .string { data := #[116, 121, 112, 101] }]) ∧ Below w.heap.size w w' := by
  have hb3 : Below w.heap.size w (((w.alloc (.cells #[.int .i64 k, .int .i64 n, .string { data := t }] 24)).alloc (.cells #[.int .i64 k', .int .i64 n', .string { data := t' }] 24)).alloc (.cells #[.int .i64 0, .int .i64 0, .string { data := #[] }] 24)) := (((Below.refl w.heap.size w).alloc (Nat.le_refl _) _).alloc (by simp) _).alloc (by simp; omega) _
  have ha3 : (((w.alloc (.cells #[.int .i64 k, .int .i64 n, .string { data := t }] 24)).alloc (.cells #[.int .i64 k', .int .i64 n', .string { data := t' }] 24)).alloc (.cells #[.int .i64 0, .int .i64 0, .string { data := #[] }] 24)).heap[w.heap.size]? = some (.cells #[.int .i64 k, .int .i64 n, .string { data := t }] 24) := (Below.heap_alloc _ _ _ (by simp; omega)).trans ((Below.heap_alloc _ _ _ (by simp)).trans (newc w _))
  have hb3' : (((w.alloc (.cells #[.int .i64 k, .int .i64 n, .string { data := t }] 24)).alloc (.cells #[.int .i64 k', .int .i64 n', .string { data := t' }] 24)).alloc (.cells #[.int .i64 0, .int .i64 0, .string { data := #[] }] 24)).heap[w.heap.size + 1]? = some (.cells #[.int .i64 k', .int .i64 n', .string { data := t' }] 24) := (Below.heap_alloc _ _ _ (by simp)).trans (by have := newc (w.alloc (.cells #[.int .i64 k, .int .i64 n, .string { data := t }] 24)) (.cells #[.int .i64 k', .int .i64 n', .string { data := t' }] 24); simpa using this)
  have hc3 : (((w.alloc (.cells #[.int .i64 k, .int .i64 n, .string { data := t }] 24)).alloc (.cells #[.int .i64 k', .int .i64 n', .string { data := t' }] 24)).alloc (.cells #[.int .i64 0, .int .i64 0, .string { data := #[] }] 24)).heap[w.heap.size + 1 + 1]? = some (.cells #[.int .i64 0, .int .i64 0, .string { data := #[] }] 24) := by have := newc ((w.alloc (.cells #[.int .i64 k, .int .i64 n, .string { data := t }] 24)).alloc (.cells #[.int .i64 k', .int .i64 n', .string { data := t' }] 24)) (.cells #[.int .i64 0, .int .i64 0, .string { data := #[] }] 24); simpa using this
  have hHl := hlt' hH
  have hH3 : (((w.alloc (.cells #[.int .i64 k, .int .i64 n, .string { data := t }] 24)).alloc (.cells #[.int .i64 k', .int .i64 n', .string { data := t' }] 24)).alloc (.cells #[.int .i64 0, .int .i64 0, .string { data := #[] }] 24)).heap[H]? = some (.cells #[tb, .int .i64 c, .int .i64 s, .map (some ob)] 51 (0, 0)) := (hb3.block _ hHl).trans hH
  have hlk3 := hlk _ hb3
  have he := eq53 (.func 34) #[] #[]
  have hc : (((w.alloc (.cells #[.int .i64 k, .int .i64 n, .string { data := t }] 24)).alloc (.cells #[.int .i64 k', .int .i64 n', .string { data := t' }] 24)).alloc (.cells #[.int .i64 0, .int .i64 0, .string { data := #[] }] 24)).cell? ⟨H, 3, none⟩ = some (.map (some ob)) := by rw [cell_of_row _ H 3 _ 51 (0, 0) hH3]; rfl
  have HA3 := Lib.hid ha3
  have HB3 := Lib.hid hb3'
  have HC3 := Lib.hid hc3
  have HH3 := Lib.hid hH3
  clear hlk hH ha3 hb3' hc3 hH3
  go_enter Tryd.func10, Tryd.ntmps10
  go_wp2_with fail
  refine (none_heap H ob tb c s _ HH3.out).mono ?_
  rintro e w3 ⟨rfl, rfl⟩
  go_wp2_with fail
  generalize (((w.alloc (.cells #[.int .i64 k, .int .i64 n, .string { data := t }] 24)).alloc (.cells #[.int .i64 k', .int .i64 n', .string { data := t' }] 24)).alloc (.cells #[.int .i64 0, .int .i64 0, .string { data := #[] }] 24)) = w3 at *
  refine (chk_so k n t w3 hx).mono ?_
  rintro e w4 ⟨rfl, hb4⟩
  have ha4 := (hb4.block _ (hlt' HA3.out)).trans HA3.out
  have hbb4 := (hb4.block _ (hlt' HB3.out)).trans HB3.out
  have hc4 := (hb4.block _ (hlt' HC3.out)).trans HC3.out
  have hbw4 := hb3.trans (hb4.mono hb3.size)
  obtain ⟨y0, y1, y2⟩ := box3 hbb4
  have HA4 := Lib.hid ha4
  have HB4 := Lib.hid hbb4
  have HC4 := Lib.hid hc4
  clear ha4 hbb4 hc4 hlk3 hc
  go_wp2_with fail
  refine (chk_not k' n' t' w4 hy).mono ?_
  rintro e w5 ⟨rfl, hb5⟩
  have hc5 := (hb5.block _ (hlt' HC4.out)).trans HC4.out
  have hbw5 := hbw4.trans (hb5.mono hbw4.size)
  have HCZ := Lib.hid hc5
  have HROW := Lib.hid (setRow_at w5 (w.heap.size + 1 + 1) _ #[.int .i64 0, .int .i64 0, .string { data := #[] }] 24 (0, 0) hc5)
  have hbelow : Below w.heap.size w (w5.setRow (w.heap.size + 1 + 1) #[.int .i64 0, .int .i64 0, .string { data := #[] }]) := setRow_below hbw5 (by omega) _
  clear hc5
  go_wp2_with (refine wpList_store_row rfl 24 (.tmp 8) (.tmp 32) rfl (w.heap.size + 1 + 1) #[.int .i64 0, .int .i64 0, .string { data := #[] }] rfl rfl 24 _ HCZ.out (by rw [size24]; rfl) rfl (by simp [Value.oneCell']) ?_)
  exact bodyPost_ret (v := .tuple #[valNo, .string { data := #[116, 121, 112, 101] }]) (res10 _ _ (w.heap.size + 1 + 1) _ rfl HROW.out) rfl ⟨rfl, hbelow⟩

set_option maxRecDepth 10000 in
set_option maxHeartbeats 2000000 in
theorem op_ord_bad1 (w : World) (H ob p : Nat) (tb : Value) (c s k n k' n' : Int) (op t t' : Array UInt8) (hx : chk k n t = false)
    (hH : w.heap[H]? = some (.cells #[tb, .int .i64 c, .int .i64 s, .map (some ob)] 51 (0, 0)))
    (hlk : ∀ W, Below w.heap.size w W → (Instr.lookup 47 (.map (some ob)) (.string { data := op }) false).run Tryd.prog W = .ok (.func (.func 38) #[] #[.pointer (some ⟨p, 0, none⟩)]) W) :
    Calls Tryd.prog 10 #[.pointer (some ⟨H, 0, none⟩), .string { data := op }, .agg #[.int .i64 k, .int .i64 n, .string { data := t }], .agg #[.int .i64 k', .int .i64 n', .string { data := t' }]] w fun e w' => e = .returned (.tuple #[valNo, .string { data := #[116, 121, 112, 101] }]) ∧ Below w.heap.size w w' := by
  have hb3 : Below w.heap.size w (((w.alloc (.cells #[.int .i64 k, .int .i64 n, .string { data := t }] 24)).alloc (.cells #[.int .i64 k', .int .i64 n', .string { data := t' }] 24)).alloc (.cells #[.int .i64 0, .int .i64 0, .string { data := #[] }] 24)) := (((Below.refl w.heap.size w).alloc (Nat.le_refl _) _).alloc (by simp) _).alloc (by simp; omega) _
  have ha3 : (((w.alloc (.cells #[.int .i64 k, .int .i64 n, .string { data := t }] 24)).alloc (.cells #[.int .i64 k', .int .i64 n', .string { data := t' }] 24)).alloc (.cells #[.int .i64 0, .int .i64 0, .string { data := #[] }] 24)).heap[w.heap.size]? = some (.cells #[.int .i64 k, .int .i64 n, .string { data := t }] 24) := (Below.heap_alloc _ _ _ (by simp; omega)).trans ((Below.heap_alloc _ _ _ (by simp)).trans (newc w _))
  have hb3' : (((w.alloc (.cells #[.int .i64 k, .int .i64 n, .string { data := t }] 24)).alloc (.cells #[.int .i64 k', .int .i64 n', .string { data := t' }] 24)).alloc (.cells #[.int .i64 0, .int .i64 0, .string { data := #[] }] 24)).heap[w.heap.size + 1]? = some (.cells #[.int .i64 k', .int .i64 n', .string { data := t' }] 24) := (Below.heap_alloc _ _ _ (by simp)).trans (by have := newc (w.alloc (.cells #[.int .i64 k, .int .i64 n, .string { data := t }] 24)) (.cells #[.int .i64 k', .int .i64 n', .string { data := t' }] 24); simpa using this)
  have hc3 : (((w.alloc (.cells #[.int .i64 k, .int .i64 n, .string { data := t }] 24)).alloc (.cells #[.int .i64 k', .int .i64 n', .string { data := t' }] 24)).alloc (.cells #[.int .i64 0, .int .i64 0, .string { data := #[] }] 24)).heap[w.heap.size + 1 + 1]? = some (.cells #[.int .i64 0, .int .i64 0, .string { data := #[] }] 24) := by have := newc ((w.alloc (.cells #[.int .i64 k, .int .i64 n, .string { data := t }] 24)).alloc (.cells #[.int .i64 k', .int .i64 n', .string { data := t' }] 24)) (.cells #[.int .i64 0, .int .i64 0, .string { data := #[] }] 24); simpa using this
  have hHl := hlt' hH
  have hH3 : (((w.alloc (.cells #[.int .i64 k, .int .i64 n, .string { data := t }] 24)).alloc (.cells #[.int .i64 k', .int .i64 n', .string { data := t' }] 24)).alloc (.cells #[.int .i64 0, .int .i64 0, .string { data := #[] }] 24)).heap[H]? = some (.cells #[tb, .int .i64 c, .int .i64 s, .map (some ob)] 51 (0, 0)) := (hb3.block _ hHl).trans hH
  have hlk3 := hlk _ hb3
  have he := eq53 (.func 38) #[] #[.pointer (some ⟨p, 0, none⟩)]
  have hc : (((w.alloc (.cells #[.int .i64 k, .int .i64 n, .string { data := t }] 24)).alloc (.cells #[.int .i64 k', .int .i64 n', .string { data := t' }] 24)).alloc (.cells #[.int .i64 0, .int .i64 0, .string { data := #[] }] 24)).cell? ⟨H, 3, none⟩ = some (.map (some ob)) := by rw [cell_of_row _ H 3 _ 51 (0, 0) hH3]; rfl
  have HA3 := Lib.hid ha3
  have HB3 := Lib.hid hb3'
  have HC3 := Lib.hid hc3
  have HH3 := Lib.hid hH3
  clear hlk hH ha3 hb3' hc3 hH3
  go_enter Tryd.func10, Tryd.ntmps10
  go_wp2_with fail
  refine (none_heap H ob tb c s _ HH3.out).mono ?_
  rintro e w3 ⟨rfl, rfl⟩
  go_wp2_with fail
  generalize (((w.alloc (.cells #[.int .i64 k, .int .i64 n, .string { data := t }] 24)).alloc (.cells #[.int .i64 k', .int .i64 n', .string { data := t' }] 24)).alloc (.cells #[.int .i64 0, .int .i64 0, .string { data := #[] }] 24)) = w3 at *
  refine (chk_not k n t w3 hx).mono ?_
  rintro e w4 ⟨rfl, hb4⟩
  have hc4 := (hb4.block _ (hlt' HC3.out)).trans HC3.out
  have hbw4 := hb3.trans (hb4.mono hb3.size)
  have HCZ := Lib.hid hc4
  have HROW := Lib.hid (setRow_at w4 (w.heap.size + 1 + 1) _ #[.int .i64 0, .int .i64 0, .string { data := #[] }] 24 (0, 0) hc4)
  have hbelow : Below w.heap.size w (w4.setRow (w.heap.size + 1 + 1) #[.int .i64 0, .int .i64 0, .string { data := #[] }]) := setRow_below hbw4 (by omega) _
  clear hc4
  go_wp2_with (refine wpList_store_row rfl 24 (.tmp 8) (.tmp 32) rfl (w.heap.size + 1 + 1) #[.int .i64 0, .int .i64 0, .string { data := #[] }] rfl rfl 24 _ HCZ.out (by rw [size24]; rfl) rfl (by simp [Value.oneCell']) ?_)
  exact bodyPost_ret (v := .tuple #[valNo, .string { data := #[116, 121, 112, 101] }]) (res10 _ _ (w.heap.size + 1 + 1) _ rfl HROW.out) rfl ⟨rfl, hbelow⟩

set_option maxRecDepth 10000 in
set_option maxHeartbeats 2000000 in
theorem op_ord_bad2 (w : World) (H ob p : Nat) (tb : Value) (c s k n k' n' : Int) (op t t' : Array UInt8) (hx : chk k n t = true) (hy : chk k' n' t' = false)
    (hH : w.heap[H]? = some (.cells #[tb, .int .i64 c, .int .i64 s, .map (some ob)] 51 (0, 0)))
    (hlk : ∀ W, Below w.heap.size w W → (Instr.lookup 47 (.map (some ob)) (.string { data := op }) false).run Tryd.prog W = .ok (.func (.func 38) #[] #[.pointer (some ⟨p, 0, none⟩)]) W) :
    Calls Tryd.prog 10 #[.pointer (some ⟨H, 0, none⟩), .string { data := op }, .agg #[.int .i64 k, .int .i64 n, .string { data := t }], .agg #[.int .i64 k', .int .i64 n', .string { data := t' }]] w fun e w' => e = .returned (.tuple #[valNo, .string { data := #[116, 121, 112, 101] }]) ∧ Below w.heap.size w w' := by
  have hb3 : Below w.heap.size w (((w.alloc (.cells #[.int .i64 k, .int .i64 n, .string { data := t }] 24)).alloc (.cells #[.int .i64 k', .int .i64 n', .string { data := t' }] 24)).alloc (.cells #[.int .i64 0, .int .i64 0, .string { data := #[] }] 24)) := (((Below.refl w.heap.size w).alloc (Nat.le_refl _) _).alloc (by simp) _).alloc (by simp; omega) _
  have ha3 : (((w.alloc (.cells #[.int .i64 k, .int .i64 n, .string { data := t }] 24)).alloc (.cells #[.int .i64 k', .int .i64 n', .string { data := t' }] 24)).alloc (.cells #[.int .i64 0, .int .i64 0, .string { data := #[] }] 24)).heap[w.heap.size]? = some (.cells #[.int .i64 k, .int .i64 n, .string { data := t }] 24) := (Below.heap_alloc _ _ _ (by simp; omega)).trans ((Below.heap_alloc _ _ _ (by simp)).trans (newc w _))
  have hb3' : (((w.alloc (.cells #[.int .i64 k, .int .i64 n, .string { data := t }] 24)).alloc (.cells #[.int .i64 k', .int .i64 n', .string { data := t' }] 24)).alloc (.cells #[.int .i64 0, .int .i64 0, .string { data := #[] }] 24)).heap[w.heap.size + 1]? = some (.cells #[.int .i64 k', .int .i64 n', .string { data := t' }] 24) := (Below.heap_alloc _ _ _ (by simp)).trans (by have := newc (w.alloc (.cells #[.int .i64 k, .int .i64 n, .string { data := t }] 24)) (.cells #[.int .i64 k', .int .i64 n', .string { data := t' }] 24); simpa using this)
  have hc3 : (((w.alloc (.cells #[.int .i64 k, .int .i64 n, .string { data := t }] 24)).alloc (.cells #[.int .i64 k', .int .i64 n', .string { data := t' }] 24)).alloc (.cells #[.int .i64 0, .int .i64 0, .string { data := #[] }] 24)).heap[w.heap.size + 1 + 1]? = some (.cells #[.int .i64 0, .int .i64 0, .string { data := #[] }] 24) := by have := newc ((w.alloc (.cells #[.int .i64 k, .int .i64 n, .string { data := t }] 24)).alloc (.cells #[.int .i64 k', .int .i64 n', .string { data := t' }] 24)) (.cells #[.int .i64 0, .int .i64 0, .string { data := #[] }] 24); simpa using this
  have hHl := hlt' hH
  have hH3 : (((w.alloc (.cells #[.int .i64 k, .int .i64 n, .string { data := t }] 24)).alloc (.cells #[.int .i64 k', .int .i64 n', .string { data := t' }] 24)).alloc (.cells #[.int .i64 0, .int .i64 0, .string { data := #[] }] 24)).heap[H]? = some (.cells #[tb, .int .i64 c, .int .i64 s, .map (some ob)] 51 (0, 0)) := (hb3.block _ hHl).trans hH
  have hlk3 := hlk _ hb3
  have he := eq53 (.func 38) #[] #[.pointer (some ⟨p, 0, none⟩)]
  have hc : (((w.alloc (.cells #[.int .i64 k, .int .i64 n, .string { data := t }] 24)).alloc (.cells #[.int .i64 k', .int .i64 n', .string { data := t' }] 24)).alloc (.cells #[.int .i64 0, .int .i64 0, .string { data := #[] }] 24)).cell? ⟨H, 3, none⟩ = some (.map (some ob)) := by rw [cell_of_row _ H 3 _ 51 (0, 0) hH3]; rfl
  have HA3 := Lib.hid ha3
  have HB3 := Lib.hid hb3'
  have HC3 := Lib.hid hc3
  have HH3 := Lib.hid hH3
  clear hlk hH ha3 hb3' hc3 hH3
  go_enter Tryd.func10, Tryd.ntmps10
  go_wp2_with fail
  refine (none_heap H ob tb c s _ HH3.out).mono ?_
  rintro e w3 ⟨rfl, rfl⟩
  go_wp2_with fail
  generalize (((w.alloc (.cells #[.int .i64 k, .int .i64 n, .string { data := t }] 24)).alloc (.cells #[.int .i64 k', .int .i64 n', .string { data := t' }] 24)).alloc (.cells #[.int .i64 0, .int .i64 0, .string { data := #[] }] 24)) = w3 at *
  refine (chk_so k n t w3 hx).mono ?_
  rintro e w4 ⟨rfl, hb4⟩
  have ha4 := (hb4.block _ (hlt' HA3.out)).trans HA3.out
  have hbb4 := (hb4.block _ (hlt' HB3.out)).trans HB3.out
  have hc4 := (hb4.block _ (hlt' HC3.out)).trans HC3.out
  have hbw4 := hb3.trans (hb4.mono hb3.size)
  obtain ⟨y0, y1, y2⟩ := box3 hbb4
  have HA4 := Lib.hid ha4
  have HB4 := Lib.hid hbb4
  have HC4 := Lib.hid hc4
  clear ha4 hbb4 hc4 hlk3 hc
  go_wp2_with fail
  refine (chk_not k' n' t' w4 hy).mono ?_
  rintro e w5 ⟨rfl, hb5⟩
  have hc5 := (hb5.block _ (hlt' HC4.out)).trans HC4.out
  have hbw5 := hbw4.trans (hb5.mono hbw4.size)
  have HCZ := Lib.hid hc5
  have HROW := Lib.hid (setRow_at w5 (w.heap.size + 1 + 1) _ #[.int .i64 0, .int .i64 0, .string { data := #[] }] 24 (0, 0) hc5)
  have hbelow : Below w.heap.size w (w5.setRow (w.heap.size + 1 + 1) #[.int .i64 0, .int .i64 0, .string { data := #[] }]) := setRow_below hbw5 (by omega) _
  clear hc5
  go_wp2_with (refine wpList_store_row rfl 24 (.tmp 8) (.tmp 32) rfl (w.heap.size + 1 + 1) #[.int .i64 0, .int .i64 0, .string { data := #[] }] rfl rfl 24 _ HCZ.out (by rw [size24]; rfl) rfl (by simp [Value.oneCell']) ?_)
  exact bodyPost_ret (v := .tuple #[valNo, .string { data := #[116, 121, 112, 101] }]) (res10 _ _ (w.heap.size + 1 + 1) _ rfl HROW.out) rfl ⟨rfl, hbelow⟩

end Go.Proofs.YthbnhplkoomdhaaDoor
