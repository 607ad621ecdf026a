/- The closures of the table: what is refused, what is unlike. -/
import Derived.Test.YthbnhplkoomdhaaDoorRefD
import Derived.Test.YthbnhplkoomdhaaDoorRefChk
namespace Go.Proofs.YthbnhplkoomdhaaDoor
open Go Go.RowKit
theorem three (w : World) (a b c : Obj) : (((w.alloc a).alloc b).alloc c).heap[w.heap.size]? = some a ∧ (((w.alloc a).alloc b).alloc c).heap[w.heap.size + 1]? = some b ∧ (((w.alloc a).alloc b).alloc c).heap[w.heap.size + 1 + 1]? = some c ∧ Below w.heap.size w (((w.alloc a).alloc b).alloc c) :=
  ⟨(Below.heap_alloc _ _ _ (by simp; omega)).trans ((Below.heap_alloc _ _ _ (by simp)).trans (newc w _)), (Below.heap_alloc _ _ _ (by simp)).trans (by have := newc (w.alloc a) b; simpa using this), newd w a b c, belowd w a b c⟩
theorem res33 (tmps : Array Value) (w : World) (g : Nat) (cs : Array Value) (hp : tmps.getD 6 undef = .pointer (some ⟨g, 0, none⟩)) (hg : w.heap[g]? = some (.cells cs 24 (0, 0))) (hs : cs.size = 3 := by rfl) :
    (results Tryd.f33 tmps).run Tryd.prog w = .ok (.tuple #[.agg cs, tmps.getD 7 undef]) w := by
  rw [results_cell_tmp Tryd.results33, hp]
  simp only [asAddr, Sem.run_pure, Result.andThen_ok]
  rw [run_loadVar_row (P := Tryd.prog) w g 24 24 cs (0, 0) _ hg Tryd.underlying24 rfl (by rw [size24, hs])]
  rfl
theorem res37 (tmps : Array Value) (w : World) (g : Nat) (cs : Array Value) (hp : tmps.getD 6 undef = .pointer (some ⟨g, 0, none⟩)) (hg : w.heap[g]? = some (.cells cs 24 (0, 0))) (hs : cs.size = 3 := by rfl) :
    (results Tryd.f37 tmps).run Tryd.prog w = .ok (.tuple #[.agg cs, tmps.getD 7 undef]) w := by
  rw [results_cell_tmp Tryd.results37, hp]
  simp only [asAddr, Sem.run_pure, Result.andThen_ok]
  rw [run_loadVar_row (P := Tryd.prog) w g 24 24 cs (0, 0) _ hg Tryd.underlying24 rfl (by rw [size24, hs])]
  rfl
set_option maxRecDepth 10000 in
set_option maxHeartbeats 1000000 in
theorem unlike_op (h : Value) (k n k' n' : Int) (t t' : Array UInt8) (v : Bool) (bn : Int) (w : World)
    (hS : ∀ W, Calls Tryd.prog 36 #[.agg #[.int .i64 k, .int .i64 n, .string { data := t }], .agg #[.int .i64 k', .int .i64 n', .string { data := t' }]] W fun e w' => e = .returned (.bool v) ∧ Below W.heap.size W w')
    (hB : ∀ W, Calls Tryd.prog 35 #[.bool (!v)] W fun e w' => e = .returned (valN bn) ∧ Below W.heap.size W w') :
    Calls Tryd.prog 37 #[h, .agg #[.int .i64 k, .int .i64 n, .string { data := t }], .agg #[.int .i64 k', .int .i64 n', .string { data := t' }]] w fun e w' => e = .returned (.tuple #[valN bn, .string { data := #[] }]) ∧ Below w.heap.size w w' := by
  have HS := Lib.hid hS
  have HBN := Lib.hid hB
  have HR : Hid ((((w.alloc (.cells #[.int .i64 k, .int .i64 n, .string { data := t }] 24)).alloc (.cells #[.int .i64 k', .int .i64 n', .string { data := t' }] 24)).alloc (.cells #[.int .i64 0, .int .i64 0, .string { data := #[] }] 24)).heap[w.heap.size + 1 + 1]? = some (.cells #[.int .i64 0, .int .i64 0, .string { data := #[] }] 24 (0, 0))) := Lib.hid (newd w _ _ _)
  have HB : Hid (Below w.heap.size w (((w.alloc (.cells #[.int .i64 k, .int .i64 n, .string { data := t }] 24)).alloc (.cells #[.int .i64 k', .int .i64 n', .string { data := t' }] 24)).alloc (.cells #[.int .i64 0, .int .i64 0, .string { data := #[] }] 24))) := Lib.hid (belowd w _ _ _)
  clear hS hB
  go_enter Tryd.func37, Tryd.ntmps37
  go_wp2_with fail
  refine (HS.out _).mono ?_
  rintro e w4 ⟨rfl, hb4⟩
  have hr4 := (hb4.block _ (hlt HR.out)).trans HR.out
  have hbw4 := HB.out.trans (hb4.mono HB.out.size)
  have HR4 := Lib.hid hr4
  have HB4 := Lib.hid hbw4
  clear hr4 hbw4 hb4
  go_wp2_with fail
  refine (HBN.out _).mono ?_
  rintro e w5 ⟨rfl, hb5⟩
  have hr5 := (hb5.block _ (hlt HR4.out)).trans HR4.out
  have HR5 := Lib.hid hr5
  have HROW := Lib.hid (setRow_at w5 (w.heap.size + 1 + 1) _ #[.int .i64 1, .int .i64 bn, .string { data := #[] }] 24 (0, 0) hr5)
  have hbelow : Below w.heap.size w (w5.setRow (w.heap.size + 1 + 1) #[.int .i64 1, .int .i64 bn, .string { data := #[] }]) := setRow_below (HB4.out.trans (hb5.mono HB4.out.size)) (by omega) _
  clear hr5
  go_wp2_with (refine wpList_store_row rfl 24 (.tmp 6) (.tmp 12) rfl (w.heap.size + 1 + 1) #[.int .i64 1, .int .i64 bn, .string { data := #[] }] rfl rfl 24 _ HR5.out (by rw [size24]; rfl) rfl (by simp [Value.oneCell']) ?_)
  exact bodyPost_ret (v := .tuple #[valN bn, .string { data := #[] }]) (res37 _ _ (w.heap.size + 1 + 1) _ rfl HROW.out) rfl ⟨rfl, hbelow⟩

set_option maxRecDepth 10000 in
set_option maxHeartbeats 1000000 in
theorem join_bad1 (h : Value) (k n k' n' : Int) (t t' : Array UInt8) (w : World) (d2 : (k != 2) = true) (d3 : (k != 3) = true) :
    Calls Tryd.prog 33 #[h, .agg #[.int .i64 k, .int .i64 n, .string { data := t }], .agg #[.int .i64 k', .int .i64 n', .string { data := t' }]] w fun e w' => e = .returned (.tuple #[valNo, .string { data := #[116, 121, 112, 101] }]) ∧ Below w.heap.size w w' := by
  have HR : Hid ((((w.alloc (.cells #[.int .i64 k, .int .i64 n, .string { data := t }] 24)).alloc (.cells #[.int .i64 k', .int .i64 n', .string { data := t' }] 24)).alloc (.cells #[.int .i64 0, .int .i64 0, .string { data := #[] }] 24)).heap[w.heap.size + 1 + 1]? = some (.cells #[.int .i64 0, .int .i64 0, .string { data := #[] }] 24 (0, 0))) := Lib.hid (newd w _ _ _)
  have HB : Hid (Below w.heap.size w (((w.alloc (.cells #[.int .i64 k, .int .i64 n, .string { data := t }] 24)).alloc (.cells #[.int .i64 k', .int .i64 n', .string { data := t' }] 24)).alloc (.cells #[.int .i64 0, .int .i64 0, .string { data := #[] }] 24))) := Lib.hid (belowd w _ _ _)
  go_enter Tryd.func33, Tryd.ntmps33
  go_wp2_with fail
  exact bodyPost_ret (v := .tuple #[valNo, .string { data := #[116, 121, 112, 101] }]) (res33 _ _ (w.heap.size + 1 + 1) _ rfl HR.out) rfl ⟨rfl, HB.out⟩

set_option maxRecDepth 10000 in
set_option maxHeartbeats 1000000 in
theorem join_bad2 (h : Value) (k n k' n' : Int) (t t' : Array UInt8) (w : World) (hk : k = 2) (d2 : (k' != 2) = true) (d3 : (k' != 3) = true) :
    Calls Tryd.prog 33 #[h, .agg #[.int .i64 k, .int .i64 n, .string { data := t }], .agg #[.int .i64 k', .int .i64 n', .string { data := t' }]] w fun e w' => e = .returned (.tuple #[valNo, .string { data := #[116, 121, 112, 101] }]) ∧ Below w.heap.size w w' := by
  subst hk
  have HR : Hid ((((w.alloc (.cells #[.int .i64 2, .int .i64 n, .string { data := t }] 24)).alloc (.cells #[.int .i64 k', .int .i64 n', .string { data := t' }] 24)).alloc (.cells #[.int .i64 0, .int .i64 0, .string { data := #[] }] 24)).heap[w.heap.size + 1 + 1]? = some (.cells #[.int .i64 0, .int .i64 0, .string { data := #[] }] 24 (0, 0))) := Lib.hid (newd w _ _ _)
  have HB : Hid (Below w.heap.size w (((w.alloc (.cells #[.int .i64 2, .int .i64 n, .string { data := t }] 24)).alloc (.cells #[.int .i64 k', .int .i64 n', .string { data := t' }] 24)).alloc (.cells #[.int .i64 0, .int .i64 0, .string { data := #[] }] 24))) := Lib.hid (belowd w _ _ _)
  go_enter Tryd.func33, Tryd.ntmps33
  go_wp2_with fail
  exact bodyPost_ret (v := .tuple #[valNo, .string { data := #[116, 121, 112, 101] }]) (res33 _ _ (w.heap.size + 1 + 1) _ rfl HR.out) rfl ⟨rfl, HB.out⟩

set_option maxRecDepth 10000 in
set_option maxHeartbeats 1000000 in
theorem join_bad3 (h : Value) (k n k' n' : Int) (t t' : Array UInt8) (w : World) (hk : k = 3) (d2 : (k' != 2) = true) (d3 : (k' != 3) = true) :
    Calls Tryd.prog 33 #[h, .agg #[.int .i64 k, .int .i64 n, .string { data := t }], .agg #[.int .i64 k', .int .i64 n', .string { data := t' }]] w fun e w' => e = .returned (.tuple #[valNo, .string { data := #[116, 121, 112, 101] }]) ∧ Below w.heap.size w w' := by
  subst hk
  have HR : Hid ((((w.alloc (.cells #[.int .i64 3, .int .i64 n, .string { data := t }] 24)).alloc (.cells #[.int .i64 k', .int .i64 n', .string { data := t' }] 24)).alloc (.cells #[.int .i64 0, .int .i64 0, .string { data := #[] }] 24)).heap[w.heap.size + 1 + 1]? = some (.cells #[.int .i64 0, .int .i64 0, .string { data := #[] }] 24 (0, 0))) := Lib.hid (newd w _ _ _)
  have HB : Hid (Below w.heap.size w (((w.alloc (.cells #[.int .i64 3, .int .i64 n, .string { data := t }] 24)).alloc (.cells #[.int .i64 k', .int .i64 n', .string { data := t' }] 24)).alloc (.cells #[.int .i64 0, .int .i64 0, .string { data := #[] }] 24))) := Lib.hid (belowd w _ _ _)
  go_enter Tryd.func33, Tryd.ntmps33
  go_wp2_with fail
  exact bodyPost_ret (v := .tuple #[valNo, .string { data := #[116, 121, 112, 101] }]) (res33 _ _ (w.heap.size + 1 + 1) _ rfl HR.out) rfl ⟨rfl, HB.out⟩

set_option maxRecDepth 10000 in
set_option maxHeartbeats 1000000 in
theorem rk_bad1 (h : Value) (k n k' n' : Int) (t t' : Array UInt8) (w : World) (x : Value) (d2 : (k != 2) = true) :
    Calls Tryd.prog 48 #[h, .agg #[.int .i64 k, .int .i64 n, .string { data := t }], .agg #[.int .i64 k', .int .i64 n', .string { data := t' }], x] w fun e w' => e = .returned (.tuple #[valNo, .string { data := #[116, 121, 112, 101] }]) ∧ Below w.heap.size w w' := by
  have HR : Hid ((((w.alloc (.cells #[.int .i64 k, .int .i64 n, .string { data := t }] 24)).alloc (.cells #[.int .i64 k', .int .i64 n', .string { data := t' }] 24)).alloc (.cells #[.int .i64 0, .int .i64 0, .string { data := #[] }] 24)).heap[w.heap.size + 1 + 1]? = some (.cells #[.int .i64 0, .int .i64 0, .string { data := #[] }] 24 (0, 0))) := Lib.hid (newd w _ _ _)
  have HB : Hid (Below w.heap.size w (((w.alloc (.cells #[.int .i64 k, .int .i64 n, .string { data := t }] 24)).alloc (.cells #[.int .i64 k', .int .i64 n', .string { data := t' }] 24)).alloc (.cells #[.int .i64 0, .int .i64 0, .string { data := #[] }] 24))) := Lib.hid (belowd w _ _ _)
  go_enter Tryd.func48, Tryd.ntmps48
  go_wp2_with fail
  exact bodyPost_ret (v := .tuple #[valNo, .string { data := #[116, 121, 112, 101] }]) (res48 _ _ (w.heap.size + 1 + 1) _ rfl HR.out) rfl ⟨rfl, HB.out⟩

set_option maxRecDepth 10000 in
set_option maxHeartbeats 1000000 in
theorem rk_bad2 (h : Value) (k n k' n' : Int) (t t' : Array UInt8) (w : World) (x : Value) (hk : k = 2) (d2 : (k' != 2) = true) :
    Calls Tryd.prog 48 #[h, .agg #[.int .i64 k, .int .i64 n, .string { data := t }], .agg #[.int .i64 k', .int .i64 n', .string { data := t' }], x] w fun e w' => e = .returned (.tuple #[valNo, .string { data := #[116, 121, 112, 101] }]) ∧ Below w.heap.size w w' := by
  subst hk
  have HR : Hid ((((w.alloc (.cells #[.int .i64 2, .int .i64 n, .string { data := t }] 24)).alloc (.cells #[.int .i64 k', .int .i64 n', .string { data := t' }] 24)).alloc (.cells #[.int .i64 0, .int .i64 0, .string { data := #[] }] 24)).heap[w.heap.size + 1 + 1]? = some (.cells #[.int .i64 0, .int .i64 0, .string { data := #[] }] 24 (0, 0))) := Lib.hid (newd w _ _ _)
  have HB : Hid (Below w.heap.size w (((w.alloc (.cells #[.int .i64 2, .int .i64 n, .string { data := t }] 24)).alloc (.cells #[.int .i64 k', .int .i64 n', .string { data := t' }] 24)).alloc (.cells #[.int .i64 0, .int .i64 0, .string { data := #[] }] 24))) := Lib.hid (belowd w _ _ _)
  go_enter Tryd.func48, Tryd.ntmps48
  go_wp2_with fail
  exact bodyPost_ret (v := .tuple #[valNo, .string { data := #[116, 121, 112, 101] }]) (res48 _ _ (w.heap.size + 1 + 1) _ rfl HR.out) rfl ⟨rfl, HB.out⟩
end Go.Proofs.YthbnhplkoomdhaaDoor
