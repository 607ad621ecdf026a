/- What is told of a number turned round. -/
import Derived.Test.YthbnhplkoomdhaaDoorBase
namespace Go.Proofs.YthbnhplkoomdhaaDoor
open Go Go.RowKit
theorem res14 (tmps : Array Value) (w : World) (g : Nat) (cs : Array Value) (hp : tmps.getD 2 undef = .pointer (some ⟨g, 0, none⟩)) (hg : w.heap[g]? = some (.cells cs 24 (0, 0))) (hs : cs.size = 3 := by rfl) :
    (results Tryd.f14 tmps).run Tryd.prog w = .ok (.tuple #[.agg cs, tmps.getD 3 undef]) w := by
  rw [results_cell_tmp Tryd.results14, hp]
  simp only [asAddr, Sem.run_pure, Result.andThen_ok]
  rw [run_loadVar_row (P := Tryd.prog) w g 24 24 cs (0, 0) _ hg Tryd.underlying24 rfl (by rw [size24, hs])]
  rfl
set_option maxRecDepth 10000 in
set_option maxHeartbeats 1000000 in
theorem neg_over (a : Int) (w : World) (h : a = -9223372036854775808) :
    Calls Tryd.prog 14 #[valI a] w fun e w' => e = .returned (.tuple #[valNo, .string { data := #[111, 118, 101, 114] }]) ∧ Below w.heap.size w w' := by
  have hbq := beq_of a (-9223372036854775808) h
  clear h
  go_enter Tryd.func14, Tryd.ntmps14
  have hx : ((w.alloc (.cells #[.int .i64 2, .int .i64 a, .string { data := #[] }] 24)).alloc (.cells #[.int .i64 0, .int .i64 0, .string { data := #[] }] 24)).heap[w.heap.size]? = some (.cells #[.int .i64 2, .int .i64 a, .string { data := #[] }] 24 (0, 0)) := alloc_at (newc w _)
  have hr : ((w.alloc (.cells #[.int .i64 2, .int .i64 a, .string { data := #[] }] 24)).alloc (.cells #[.int .i64 0, .int .i64 0, .string { data := #[] }] 24)).heap[w.heap.size + 1]? = some (.cells #[.int .i64 0, .int .i64 0, .string { data := #[] }] 24 (0, 0)) := by
    have := newc (w.alloc (.cells #[.int .i64 2, .int .i64 a, .string { data := #[] }] 24)) (.cells #[.int .i64 0, .int .i64 0, .string { data := #[] }] 24)
    simpa using this
  have hb : Below w.heap.size w ((w.alloc (.cells #[.int .i64 2, .int .i64 a, .string { data := #[] }] 24)).alloc (.cells #[.int .i64 0, .int .i64 0, .string { data := #[] }] 24)) := ((Below.refl w.heap.size w).alloc (Nat.le_refl _) _).alloc (by simp) _
  have HX := Lib.hid hx; have HR := Lib.hid hr; have HB := Lib.hid hb
  clear hx hr hb
  go_wp2_with fail
  refine (check_int a _).mono ?_
  rintro e w4 ⟨rfl, hb4⟩
  have hx4 := (hb4.block _ (hlt HX.out)).trans HX.out
  have hr4 := (hb4.block _ (hlt HR.out)).trans HR.out
  have hbw4 := HB.out.trans (hb4.mono HB.out.size)
  obtain ⟨x0, x1, x2⟩ := box3 hx4
  have HR4 := Lib.hid hr4
  have hrow : (w4.setRow (w.heap.size + 1) #[.int .i64 0, .int .i64 0, .string { data := #[] }]).heap[w.heap.size + 1]? = some (.cells #[.int .i64 0, .int .i64 0, .string { data := #[] }] 24 (0, 0)) := setRow_at w4 _ _ _ 24 (0, 0) hr4
  have HROW := Lib.hid hrow
  have hbelow : Below w.heap.size w (w4.setRow (w.heap.size + 1) #[.int .i64 0, .int .i64 0, .string { data := #[] }]) := setRow_below hbw4 (by omega) _
  clear hr4 hrow hx4
  go_wp2_with (refine wpList_store_row rfl 24 (.tmp 2) (.tmp 16) rfl (w.heap.size + 1) #[.int .i64 0, .int .i64 0, .string { data := #[] }] rfl rfl 24 _ HR4.out (by rw [size24]; rfl) rfl (by simp [Value.oneCell']) ?_)
  exact bodyPost_ret (v := .tuple #[valNo, .string { data := #[111, 118, 101, 114] }]) (res14 _ _ (w.heap.size + 1) _ rfl HROW.out) rfl ⟨rfl, hbelow⟩

set_option maxRecDepth 10000 in
set_option maxHeartbeats 1000000 in
theorem neg_fine (a : Int) (w : World) (hf : Fits a) (h : a ≠ -9223372036854775808) :
    Calls Tryd.prog 14 #[valI a] w fun e w' => e = .returned (.tuple #[valI (-a), .string { data := #[] }]) ∧ Below w.heap.size w w' := by
  have hbq := beq_no a (-9223372036854775808) h
  have hw : IntKind.i64.wrap (-a) = -a := IntWalk.i64_in _ (by unfold Fits at hf; omega)
  clear h hf
  go_enter Tryd.func14, Tryd.ntmps14
  have hx : ((w.alloc (.cells #[.int .i64 2, .int .i64 a, .string { data := #[] }] 24)).alloc (.cells #[.int .i64 0, .int .i64 0, .string { data := #[] }] 24)).heap[w.heap.size]? = some (.cells #[.int .i64 2, .int .i64 a, .string { data := #[] }] 24 (0, 0)) := alloc_at (newc w _)
  have hr : ((w.alloc (.cells #[.int .i64 2, .int .i64 a, .string { data := #[] }] 24)).alloc (.cells #[.int .i64 0, .int .i64 0, .string { data := #[] }] 24)).heap[w.heap.size + 1]? = some (.cells #[.int .i64 0, .int .i64 0, .string { data := #[] }] 24 (0, 0)) := by
    have := newc (w.alloc (.cells #[.int .i64 2, .int .i64 a, .string { data := #[] }] 24)) (.cells #[.int .i64 0, .int .i64 0, .string { data := #[] }] 24)
    simpa using this
  have hb : Below w.heap.size w ((w.alloc (.cells #[.int .i64 2, .int .i64 a, .string { data := #[] }] 24)).alloc (.cells #[.int .i64 0, .int .i64 0, .string { data := #[] }] 24)) := ((Below.refl w.heap.size w).alloc (Nat.le_refl _) _).alloc (by simp) _
  have HX := Lib.hid hx; have HR := Lib.hid hr; have HB := Lib.hid hb
  clear hx hr hb
  go_wp2_with fail
  refine (check_int a _).mono ?_
  rintro e w4 ⟨rfl, hb4⟩
  have hx4 := (hb4.block _ (hlt HX.out)).trans HX.out
  have hr4 := (hb4.block _ (hlt HR.out)).trans HR.out
  have hbw4 := HB.out.trans (hb4.mono HB.out.size)
  obtain ⟨x0, x1, x2⟩ := box3 hx4
  have HR4 := Lib.hid hr4
  have HBW4 := Lib.hid hbw4
  clear hr4 hx4 hbw4
  go_wp2_with fail
  refine (int_any (-a) _).mono ?_
  rintro e w5 ⟨rfl, hb5⟩
  have hr5 := (hb5.block _ (hlt HR4.out)).trans HR4.out
  have HR5 := Lib.hid hr5
  have hrow : (w5.setRow (w.heap.size + 1) #[.int .i64 2, .int .i64 (-a), .string { data := #[] }]).heap[w.heap.size + 1]? = some (.cells #[.int .i64 2, .int .i64 (-a), .string { data := #[] }] 24 (0, 0)) := setRow_at w5 _ _ _ 24 (0, 0) hr5
  have HROW := Lib.hid hrow
  have hbelow : Below w.heap.size w (w5.setRow (w.heap.size + 1) #[.int .i64 2, .int .i64 (-a), .string { data := #[] }]) := setRow_below (HBW4.out.trans (hb5.mono HBW4.out.size)) (by omega) _
  clear hr5 hrow
  go_wp2_with (refine wpList_store_row rfl 24 (.tmp 2) (.tmp 20) rfl (w.heap.size + 1) #[.int .i64 2, .int .i64 (-a), .string { data := #[] }] rfl rfl 24 _ HR5.out (by rw [size24]; rfl) rfl (by simp [Value.oneCell']) ?_)
  exact bodyPost_ret (v := .tuple #[valI (-a), .string { data := #[] }]) (res14 _ _ (w.heap.size + 1) _ rfl HROW.out) rfl ⟨rfl, hbelow⟩
end Go.Proofs.YthbnhplkoomdhaaDoor
