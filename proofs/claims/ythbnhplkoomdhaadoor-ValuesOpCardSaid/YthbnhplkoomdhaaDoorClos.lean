/- The closures of the table of operators. -/
import Derived.Test.YthbnhplkoomdhaaDoorCmp
namespace Go.Proofs.YthbnhplkoomdhaaDoor
open Go Go.RowKit
theorem res34 (tmps : Array Value) (w : World) (g : Nat) (cs : Array Value) (hp : tmps.getD 6 undef = .pointer (some ⟨g, 0, none⟩)) (hg : w.heap[g]? = some (.cells cs 24 (0, 0))) (hs : cs.size = 3 := by rfl) :
    (results Tryd.f34 tmps).run Tryd.prog w = .ok (.tuple #[.agg cs, tmps.getD 7 undef]) w := by
  rw [results_cell_tmp Tryd.results34, hp]
  simp only [asAddr, Sem.run_pure, Result.andThen_ok]
  rw [run_loadVar_row (P := Tryd.prog) w g 24 24 cs (0, 0) _ hg Tryd.underlying24 rfl (by rw [size24, hs])]
  rfl
theorem res38 (tmps : Array Value) (w : World) (g : Nat) (cs : Array Value) (hp : tmps.getD 7 undef = .pointer (some ⟨g, 0, none⟩)) (hg : w.heap[g]? = some (.cells cs 24 (0, 0))) (hs : cs.size = 3 := by rfl) :
    (results Tryd.f38 tmps).run Tryd.prog w = .ok (.tuple #[.agg cs, tmps.getD 8 undef]) w := by
  rw [results_cell_tmp Tryd.results38, hp]
  simp only [asAddr, Sem.run_pure, Result.andThen_ok]
  rw [run_loadVar_row (P := Tryd.prog) w g 24 24 cs (0, 0) _ hg Tryd.underlying24 rfl (by rw [size24, hs])]
  rfl

set_option maxRecDepth 10000 in
set_option maxHeartbeats 1000000 in
theorem same_op (h : Value) (k n k' n' : Int) (t t' : Array UInt8) (v : Bool) (bn : Int) (w : World)
    (hS : ∀ W, Calls Tryd.prog 36 #[.agg #[.int .i64 k, .int .i64 n, .string { data := t }], .agg #[.int .i64 k', .int .i64 n', .string { data := t' }]] W fun e w' => e = .returned (.bool v) ∧ Below W.heap.size W w')
    (hB : ∀ W, Calls Tryd.prog 35 #[.bool v] W fun e w' => e = .returned (valN bn) ∧ Below W.heap.size W w') :
    Calls Tryd.prog 34 #[h, .agg #[.int .i64 k, .int .i64 n, .string { data := t }], .agg #[.int .i64 k', .int .i64 n', .string { data := t' }]] w fun e w' => e = .returned (.tuple #[valN bn, .string { data := #[] }]) ∧ Below w.heap.size w w' := by
  have HS := Lib.hid hS
  have HBN := Lib.hid hB
  have HR : Hid ((((w.alloc (.cells #[.int .i64 k, .int .i64 n, .string { data := t }] 24)).alloc (.cells #[.int .i64 k', .int .i64 n', .string { data := t' }] 24)).alloc (.cells #[.int .i64 0, .int .i64 0, .string { data := #[] }] 24)).heap[w.heap.size + 1 + 1]? = some (.cells #[.int .i64 0, .int .i64 0, .string { data := #[] }] 24 (0, 0))) := Lib.hid (newd w _ _ _)
  have HB : Hid (Below w.heap.size w (((w.alloc (.cells #[.int .i64 k, .int .i64 n, .string { data := t }] 24)).alloc (.cells #[.int .i64 k', .int .i64 n', .string { data := t' }] 24)).alloc (.cells #[.int .i64 0, .int .i64 0, .string { data := #[] }] 24))) := Lib.hid (belowd w _ _ _)
  clear hS hB
  go_enter Tryd.func34, Tryd.ntmps34
  go_wp2_with fail
  refine (HS.out _).mono ?_
  rintro e w4 ⟨rfl, hb4⟩
  have hr4 := (hb4.block _ (hlt HR.out)).trans HR.out
  have hbw4 := HB.out.trans (hb4.mono HB.out.size)
  have HR4 := Lib.hid hr4
  have HB4 := Lib.hid hbw4
  clear hr4 hbw4 hb4
  go_wp2_with fail
  refine (HBN.out _).mono ?_
  rintro e w5 ⟨rfl, hb5⟩
  have hr5 := (hb5.block _ (hlt HR4.out)).trans HR4.out
  have HR5 := Lib.hid hr5
  have HROW := Lib.hid (setRow_at w5 (w.heap.size + 1 + 1) _ #[.int .i64 1, .int .i64 bn, .string { data := #[] }] 24 (0, 0) hr5)
  have hbelow : Below w.heap.size w (w5.setRow (w.heap.size + 1 + 1) #[.int .i64 1, .int .i64 bn, .string { data := #[] }]) := setRow_below (HB4.out.trans (hb5.mono HB4.out.size)) (by omega) _
  clear hr5
  go_wp2_with (refine wpList_store_row rfl 24 (.tmp 6) (.tmp 11) rfl (w.heap.size + 1 + 1) #[.int .i64 1, .int .i64 bn, .string { data := #[] }] rfl rfl 24 _ HR5.out (by rw [size24]; rfl) rfl (by simp [Value.oneCell']) ?_)
  exact bodyPost_ret (v := .tuple #[valN bn, .string { data := #[] }]) (res34 _ _ (w.heap.size + 1 + 1) _ rfl HROW.out) rfl ⟨rfl, hbelow⟩

set_option maxRecDepth 10000 in
set_option maxHeartbeats 1000000 in
theorem ord_op (h : Value) (q : Nat) (o : ByteArray) (k n k' n' : Int) (t t' : Array UInt8) (va vb : Int) (vs why : Array UInt8) (w : World)
    (hq : w.heap[q]? = some (.cells #[.string o] 9 (0, 0)))
    (hC : ∀ W, Calls Tryd.prog 39 #[.string o, .agg #[.int .i64 k, .int .i64 n, .string { data := t }], .agg #[.int .i64 k', .int .i64 n', .string { data := t' }]] W fun e w' => e = .returned (.tuple #[.agg #[.int .i64 va, .int .i64 vb, .string { data := vs }], .string { data := why }]) ∧ Below W.heap.size W w') :
    Calls Tryd.prog 38 #[h, .agg #[.int .i64 k, .int .i64 n, .string { data := t }], .agg #[.int .i64 k', .int .i64 n', .string { data := t' }], .pointer (some ⟨q, 0, none⟩)] w fun e w' => e = .returned (.tuple #[.agg #[.int .i64 va, .int .i64 vb, .string { data := vs }], .string { data := why }]) ∧ Below w.heap.size w w' := by
  have HC := Lib.hid hC
  have HR : Hid ((((w.alloc (.cells #[.int .i64 k, .int .i64 n, .string { data := t }] 24)).alloc (.cells #[.int .i64 k', .int .i64 n', .string { data := t' }] 24)).alloc (.cells #[.int .i64 0, .int .i64 0, .string { data := #[] }] 24)).heap[w.heap.size + 1 + 1]? = some (.cells #[.int .i64 0, .int .i64 0, .string { data := #[] }] 24 (0, 0))) := Lib.hid (newd w _ _ _)
  have HB : Hid (Below w.heap.size w (((w.alloc (.cells #[.int .i64 k, .int .i64 n, .string { data := t }] 24)).alloc (.cells #[.int .i64 k', .int .i64 n', .string { data := t' }] 24)).alloc (.cells #[.int .i64 0, .int .i64 0, .string { data := #[] }] 24))) := Lib.hid (belowd w _ _ _)
  have hq3 : (((w.alloc (.cells #[.int .i64 k, .int .i64 n, .string { data := t }] 24)).alloc (.cells #[.int .i64 k', .int .i64 n', .string { data := t' }] 24)).alloc (.cells #[.int .i64 0, .int .i64 0, .string { data := #[] }] 24)).heap[q]? = some (.cells #[.string o] 9 (0, 0)) := (HB.out.block _ (hlt hq)).trans hq
  have cq : (((w.alloc (.cells #[.int .i64 k, .int .i64 n, .string { data := t }] 24)).alloc (.cells #[.int .i64 k', .int .i64 n', .string { data := t' }] 24)).alloc (.cells #[.int .i64 0, .int .i64 0, .string { data := #[] }] 24)).cell? ⟨q, 0, none⟩ = some (.string o) := by rw [cell_of_row _ q 0 _ 9 (0, 0) hq3]; rfl
  clear hC hq hq3
  go_enter Tryd.func38, Tryd.ntmps38
  go_wp2_with fail
  refine (HC.out _).mono ?_
  rintro e w5 ⟨rfl, hb5⟩
  have hr5 := (hb5.block _ (hlt HR.out)).trans HR.out
  have HR5 := Lib.hid hr5
  have HROW := Lib.hid (setRow_at w5 (w.heap.size + 1 + 1) _ #[.int .i64 va, .int .i64 vb, .string { data := vs }] 24 (0, 0) hr5)
  have hbelow : Below w.heap.size w (w5.setRow (w.heap.size + 1 + 1) #[.int .i64 va, .int .i64 vb, .string { data := vs }]) := setRow_below (HB.out.trans (hb5.mono HB.out.size)) (by omega) _
  clear hr5 cq
  go_wp2_with (refine wpList_store_row rfl 24 (.tmp 7) (.tmp 13) rfl (w.heap.size + 1 + 1) #[.int .i64 va, .int .i64 vb, .string { data := vs }] rfl rfl 24 _ HR5.out (by rw [size24]; rfl) rfl (by simp [Value.oneCell']) ?_)
  exact bodyPost_ret (v := .tuple #[.agg #[.int .i64 va, .int .i64 vb, .string { data := vs }], .string { data := why }]) (res38 _ _ (w.heap.size + 1 + 1) _ rfl HROW.out) rfl ⟨rfl, hbelow⟩
end Go.Proofs.YthbnhplkoomdhaaDoor
