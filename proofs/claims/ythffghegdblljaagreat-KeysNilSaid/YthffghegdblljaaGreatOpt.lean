/- The table of effects' Ops. -/
import Derived.Test.YthffghegdblljaaGreatKmp
import Derived.KernelRfl
namespace Go.Proofs.YthffghegdblljaaGreat
open Go Go.RowKit
def opsL : List MapEntry := [
  { key := .int .i64 1, val := .agg #[.int .i64 0, .bool true, .int .i64 0, .func (.func 80) #[] #[], .func (.func 81) #[] #[]], born := 0 },
  { key := .int .i64 2, val := .agg #[.int .i64 2, .bool false, .int .i64 0, .func (.func 80) #[] #[], .func (.func 82) #[] #[]], born := 1 },
  { key := .int .i64 3, val := .agg #[.int .i64 4, .bool true, .int .i64 0, .func (.func 80) #[] #[], .func (.func 83) #[] #[]], born := 2 },
  { key := .int .i64 4, val := .agg #[.int .i64 0, .bool true, .int .i64 0, .func (.func 80) #[] #[], .func (.func 84) #[] #[]], born := 3 },
  { key := .int .i64 5, val := .agg #[.int .i64 3, .bool false, .int .i64 2, .func (.func 85) #[] #[], .func (.func 86) #[] #[]], born := 4 },
  { key := .int .i64 6, val := .agg #[.int .i64 1, .bool true, .int .i64 2, .func (.func 87) #[] #[], .func (.func 88) #[] #[]], born := 5 },
  { key := .int .i64 7, val := .agg #[.int .i64 2, .bool false, .int .i64 3, .func (.func 89) #[] #[], .func (.func 90) #[] #[]], born := 6 },
  { key := .int .i64 8, val := .agg #[.int .i64 2, .bool false, .int .i64 3, .func (.func 89) #[] #[], .func (.func 91) #[] #[]], born := 7 },
  { key := .int .i64 9, val := .agg #[.int .i64 0, .bool true, .int .i64 3, .func (.func 80) #[] #[], .func (.func 92) #[] #[]], born := 8 },
  { key := .int .i64 10, val := .agg #[.int .i64 0, .bool true, .int .i64 3, .func (.func 80) #[] #[], .func (.func 93) #[] #[]], born := 9 },
  { key := .int .i64 11, val := .agg #[.int .i64 6, .bool true, .int .i64 3, .func (.func 94) #[] #[], .func (.func 95) #[] #[]], born := 10 },
  { key := .int .i64 12, val := .agg #[.int .i64 1, .bool false, .int .i64 4, .func (.func 96) #[] #[], .func (.func 97) #[] #[]], born := 11 },
  { key := .int .i64 13, val := .agg #[.int .i64 1, .bool true, .int .i64 4, .func (.func 98) #[] #[], .func (.func 99) #[] #[]], born := 12 },
  { key := .int .i64 14, val := .agg #[.int .i64 5, .bool false, .int .i64 5, .func (.func 100) #[] #[], .func (.func 101) #[] #[]], born := 13 },
  { key := .int .i64 15, val := .agg #[.int .i64 1, .bool true, .int .i64 5, .func (.func 102) #[] #[], .func (.func 103) #[] #[]], born := 14 }]
def opsA (k : Nat) : Array MapEntry := (opsL.take k).toArray
theorem mk_run (t : TypeId) (w : World) : (Instr.makeMap t none).run Tryz.prog w = .ok (.map (some w.heap.size)) (w.alloc (.map #[] 0)) := rfl
theorem mk99 (w : World) : (Instr.makeMap 99 none).run Tryz.prog w = .ok (.map (some w.heap.size)) (w.alloc (.map (opsA 0) 0)) := rfl
theorem ops_put1 (w : World) : (Instr.mapUpdate 99 (.map (some w.heap.size)) (.int .i64 1) (.agg #[.int .i64 0, .bool true, .int .i64 0, .func (.func 80) #[] #[], .func (.func 81) #[] #[]])).run Tryz.prog (w.alloc (.map (opsA 0) 0)) = .ok () (w.alloc (.map (opsA 1) 1)) := by
  rw [put_int (es := opsA 0) Tryz.underlying99 Tryz.underlying48 (new_at w _) _ (by kernel_rfl), putMap_new]
  rfl
theorem ops_put2 (w : World) : (Instr.mapUpdate 99 (.map (some w.heap.size)) (.int .i64 2) (.agg #[.int .i64 2, .bool false, .int .i64 0, .func (.func 80) #[] #[], .func (.func 82) #[] #[]])).run Tryz.prog (w.alloc (.map (opsA 1) 1)) = .ok () (w.alloc (.map (opsA 2) 2)) := by
  rw [put_int (es := opsA 1) Tryz.underlying99 Tryz.underlying48 (new_at w _) _ (by kernel_rfl), putMap_new]
  rfl
theorem ops_put3 (w : World) : (Instr.mapUpdate 99 (.map (some w.heap.size)) (.int .i64 3) (.agg #[.int .i64 4, .bool true, .int .i64 0, .func (.func 80) #[] #[], .func (.func 83) #[] #[]])).run Tryz.prog (w.alloc (.map (opsA 2) 2)) = .ok () (w.alloc (.map (opsA 3) 3)) := by
  rw [put_int (es := opsA 2) Tryz.underlying99 Tryz.underlying48 (new_at w _) _ (by kernel_rfl), putMap_new]
  rfl
theorem ops_put4 (w : World) : (Instr.mapUpdate 99 (.map (some w.heap.size)) (.int .i64 4) (.agg #[.int .i64 0, .bool true, .int .i64 0, .func (.func 80) #[] #[], .func (.func 84) #[] #[]])).run Tryz.prog (w.alloc (.map (opsA 3) 3)) = .ok () (w.alloc (.map (opsA 4) 4)) := by
  rw [put_int (es := opsA 3) Tryz.underlying99 Tryz.underlying48 (new_at w _) _ (by kernel_rfl), putMap_new]
  rfl
theorem ops_put5 (w : World) : (Instr.mapUpdate 99 (.map (some w.heap.size)) (.int .i64 5) (.agg #[.int .i64 3, .bool false, .int .i64 2, .func (.func 85) #[] #[], .func (.func 86) #[] #[]])).run Tryz.prog (w.alloc (.map (opsA 4) 4)) = .ok () (w.alloc (.map (opsA 5) 5)) := by
  rw [put_int (es := opsA 4) Tryz.underlying99 Tryz.underlying48 (new_at w _) _ (by kernel_rfl), putMap_new]
  rfl
theorem ops_put6 (w : World) : (Instr.mapUpdate 99 (.map (some w.heap.size)) (.int .i64 6) (.agg #[.int .i64 1, .bool true, .int .i64 2, .func (.func 87) #[] #[], .func (.func 88) #[] #[]])).run Tryz.prog (w.alloc (.map (opsA 5) 5)) = .ok () (w.alloc (.map (opsA 6) 6)) := by
  rw [put_int (es := opsA 5) Tryz.underlying99 Tryz.underlying48 (new_at w _) _ (by kernel_rfl), putMap_new]
  rfl
theorem ops_put7 (w : World) : (Instr.mapUpdate 99 (.map (some w.heap.size)) (.int .i64 7) (.agg #[.int .i64 2, .bool false, .int .i64 3, .func (.func 89) #[] #[], .func (.func 90) #[] #[]])).run Tryz.prog (w.alloc (.map (opsA 6) 6)) = .ok () (w.alloc (.map (opsA 7) 7)) := by
  rw [put_int (es := opsA 6) Tryz.underlying99 Tryz.underlying48 (new_at w _) _ (by kernel_rfl), putMap_new]
  rfl
theorem ops_put8 (w : World) : (Instr.mapUpdate 99 (.map (some w.heap.size)) (.int .i64 8) (.agg #[.int .i64 2, .bool false, .int .i64 3, .func (.func 89) #[] #[], .func (.func 91) #[] #[]])).run Tryz.prog (w.alloc (.map (opsA 7) 7)) = .ok () (w.alloc (.map (opsA 8) 8)) := by
  rw [put_int (es := opsA 7) Tryz.underlying99 Tryz.underlying48 (new_at w _) _ (by kernel_rfl), putMap_new]
  rfl
theorem ops_put9 (w : World) : (Instr.mapUpdate 99 (.map (some w.heap.size)) (.int .i64 9) (.agg #[.int .i64 0, .bool true, .int .i64 3, .func (.func 80) #[] #[], .func (.func 92) #[] #[]])).run Tryz.prog (w.alloc (.map (opsA 8) 8)) = .ok () (w.alloc (.map (opsA 9) 9)) := by
  rw [put_int (es := opsA 8) Tryz.underlying99 Tryz.underlying48 (new_at w _) _ (by kernel_rfl), putMap_new]
  rfl
theorem ops_put10 (w : World) : (Instr.mapUpdate 99 (.map (some w.heap.size)) (.int .i64 10) (.agg #[.int .i64 0, .bool true, .int .i64 3, .func (.func 80) #[] #[], .func (.func 93) #[] #[]])).run Tryz.prog (w.alloc (.map (opsA 9) 9)) = .ok () (w.alloc (.map (opsA 10) 10)) := by
  rw [put_int (es := opsA 9) Tryz.underlying99 Tryz.underlying48 (new_at w _) _ (by kernel_rfl), putMap_new]
  rfl
theorem ops_put11 (w : World) : (Instr.mapUpdate 99 (.map (some w.heap.size)) (.int .i64 11) (.agg #[.int .i64 6, .bool true, .int .i64 3, .func (.func 94) #[] #[], .func (.func 95) #[] #[]])).run Tryz.prog (w.alloc (.map (opsA 10) 10)) = .ok () (w.alloc (.map (opsA 11) 11)) := by
  rw [put_int (es := opsA 10) Tryz.underlying99 Tryz.underlying48 (new_at w _) _ (by kernel_rfl), putMap_new]
  rfl
theorem ops_put12 (w : World) : (Instr.mapUpdate 99 (.map (some w.heap.size)) (.int .i64 12) (.agg #[.int .i64 1, .bool false, .int .i64 4, .func (.func 96) #[] #[], .func (.func 97) #[] #[]])).run Tryz.prog (w.alloc (.map (opsA 11) 11)) = .ok () (w.alloc (.map (opsA 12) 12)) := by
  rw [put_int (es := opsA 11) Tryz.underlying99 Tryz.underlying48 (new_at w _) _ (by kernel_rfl), putMap_new]
  rfl
theorem ops_put13 (w : World) : (Instr.mapUpdate 99 (.map (some w.heap.size)) (.int .i64 13) (.agg #[.int .i64 1, .bool true, .int .i64 4, .func (.func 98) #[] #[], .func (.func 99) #[] #[]])).run Tryz.prog (w.alloc (.map (opsA 12) 12)) = .ok () (w.alloc (.map (opsA 13) 13)) := by
  rw [put_int (es := opsA 12) Tryz.underlying99 Tryz.underlying48 (new_at w _) _ (by kernel_rfl), putMap_new]
  rfl
theorem ops_put14 (w : World) : (Instr.mapUpdate 99 (.map (some w.heap.size)) (.int .i64 14) (.agg #[.int .i64 5, .bool false, .int .i64 5, .func (.func 100) #[] #[], .func (.func 101) #[] #[]])).run Tryz.prog (w.alloc (.map (opsA 13) 13)) = .ok () (w.alloc (.map (opsA 14) 14)) := by
  rw [put_int (es := opsA 13) Tryz.underlying99 Tryz.underlying48 (new_at w _) _ (by kernel_rfl), putMap_new]
  rfl
theorem ops_put15 (w : World) : (Instr.mapUpdate 99 (.map (some w.heap.size)) (.int .i64 15) (.agg #[.int .i64 1, .bool true, .int .i64 5, .func (.func 102) #[] #[], .func (.func 103) #[] #[]])).run Tryz.prog (w.alloc (.map (opsA 14) 14)) = .ok () (w.alloc (.map (opsA 15) 15)) := by
  rw [put_int (es := opsA 14) Tryz.underlying99 Tryz.underlying48 (new_at w _) _ (by kernel_rfl), putMap_new]
  rfl
set_option maxRecDepth 20000 in
set_option maxHeartbeats 8000000 in
theorem ops_any (w : World) : Calls Tryz.prog 55 #[] w fun e w' => e = .returned (.map (some w.heap.size)) ∧ w' = w.alloc (.map (opsA 15) 15) := by
  have hm := mk99
  have p1 := ops_put1
  have p2 := ops_put2
  have p3 := ops_put3
  have p4 := ops_put4
  have p5 := ops_put5
  have p6 := ops_put6
  have p7 := ops_put7
  have p8 := ops_put8
  have p9 := ops_put9
  have p10 := ops_put10
  have p11 := ops_put11
  have p12 := ops_put12
  have p13 := ops_put13
  have p14 := ops_put14
  have p15 := ops_put15
  go_enter Tryz.func55, Tryz.ntmps55
  go_wp2
  go_ret
  exact ⟨rfl, rfl⟩
end Go.Proofs.YthffghegdblljaaGreat
