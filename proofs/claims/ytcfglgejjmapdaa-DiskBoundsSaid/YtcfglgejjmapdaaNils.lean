/- A disk that is none. -/
import Derived.Test.YtcfglgejjmapdaaLawM
namespace Go.Proofs.Ytcfglgejjmapdaa
open Go Go.RowKit Go.Shelf
set_option maxRecDepth 100000 in
set_option maxHeartbeats 4000000 in
theorem done_nil (A : Option Addr) (n c : Nat) (ga gd : Nat) (lba lbd : Array Value) (w : World) : Calls Try.prog 41 #[.pointer none, .agg #[.slice A n c, fv ga lba, fv gd lbd]] w fun e w' => e = .returned (.int .i64 1) ∧ Below w.heap.size w w' := by
  have HBW := Lib.hid (below_new w (.cells #[.slice A n c, fv ga lba, fv gd lbd] 82))
  have HNO := Lib.hid (none_nil (w.alloc (.cells #[.slice A n c, fv ga lba, fv gd lbd] 82)))
  go_enter Try.func41, Try.ntmps41
  go_wp2_with fail
  refine HNO.out.mono ?_
  rintro e w2 ⟨rfl, rfl⟩
  go_wp2_with fail
  go_ret
  exact ⟨rfl, HBW.out⟩
set_option maxRecDepth 100000 in
set_option maxHeartbeats 4000000 in
theorem append_nil (nm : ByteArray) (A : Option Addr) (n c : Nat) (w : World) : Calls Try.prog 30 #[.pointer none, .string nm, .slice A n c] w fun e w' => e = .returned (.int .i64 1) ∧ Below w.heap.size w w' := by
  go_enter Try.func30, Try.ntmps30
  go_wp2_with fail
  refine (done_nil _ _ _ _ _ _ _ _).mono ?_
  rintro e w' ⟨rfl, hb⟩
  have hb0 := fun (W : World) (h : Below w.heap.size w W) (h2 : Below W.heap.size W w') => h.trans (h2.mono h.size)
  go_wp2_with fail
  go_ret
  refine ⟨rfl, hb0 _ ?_ hb⟩
  repeat (first | exact Below.refl _ _ | refine Below.alloc ?_ (by simp; try omega) _)
set_option maxRecDepth 100000 in
set_option maxHeartbeats 4000000 in
theorem cut_nil (nm : ByteArray) (m : Int) (w : World) : Calls Try.prog 31 #[.pointer none, .string nm, .int .i64 m] w fun e w' => e = .returned (.int .i64 1) ∧ Below w.heap.size w w' := by
  go_enter Try.func31, Try.ntmps31
  go_wp2_with fail
  refine (done_nil _ _ _ _ _ _ _ _).mono ?_
  rintro e w' ⟨rfl, hb⟩
  have hb0 := fun (W : World) (h : Below w.heap.size w W) (h2 : Below W.heap.size W w') => h.trans (h2.mono h.size)
  go_wp2_with fail
  go_ret
  refine ⟨rfl, hb0 _ ?_ hb⟩
  repeat (first | exact Below.refl _ _ | refine Below.alloc ?_ (by simp; try omega) _)
set_option maxRecDepth 100000 in
set_option maxHeartbeats 4000000 in
theorem sync_nil (nm : ByteArray) (w : World) : Calls Try.prog 32 #[.pointer none, .string nm] w fun e w' => e = .returned (.int .i64 1) ∧ Below w.heap.size w w' := by
  go_enter Try.func32, Try.ntmps32
  go_wp2_with fail
  refine (done_nil _ _ _ _ _ _ _ _).mono ?_
  rintro e w' ⟨rfl, hb⟩
  have hb0 := fun (W : World) (h : Below w.heap.size w W) (h2 : Below W.heap.size W w') => h.trans (h2.mono h.size)
  go_wp2_with fail
  go_ret
  refine ⟨rfl, hb0 _ ?_ hb⟩
  repeat (first | exact Below.refl _ _ | refine Below.alloc ?_ (by simp; try omega) _)
set_option maxRecDepth 100000 in
set_option maxHeartbeats 4000000 in
theorem rename_nil (nm nm2 : ByteArray) (w : World) : Calls Try.prog 33 #[.pointer none, .string nm, .string nm2] w fun e w' => e = .returned (.int .i64 1) ∧ Below w.heap.size w w' := by
  go_enter Try.func33, Try.ntmps33
  go_wp2_with fail
  refine (done_nil _ _ _ _ _ _ _ _).mono ?_
  rintro e w' ⟨rfl, hb⟩
  have hb0 := fun (W : World) (h : Below w.heap.size w W) (h2 : Below W.heap.size W w') => h.trans (h2.mono h.size)
  go_wp2_with fail
  go_ret
  refine ⟨rfl, hb0 _ ?_ hb⟩
  repeat (first | exact Below.refl _ _ | refine Below.alloc ?_ (by simp; try omega) _)
set_option maxRecDepth 100000 in
set_option maxHeartbeats 4000000 in
theorem remove_nil (nm : ByteArray) (w : World) : Calls Try.prog 34 #[.pointer none, .string nm] w fun e w' => e = .returned (.int .i64 1) ∧ Below w.heap.size w w' := by
  go_enter Try.func34, Try.ntmps34
  go_wp2_with fail
  refine (done_nil _ _ _ _ _ _ _ _).mono ?_
  rintro e w' ⟨rfl, hb⟩
  have hb0 := fun (W : World) (h : Below w.heap.size w W) (h2 : Below W.heap.size W w') => h.trans (h2.mono h.size)
  go_wp2_with fail
  go_ret
  refine ⟨rfl, hb0 _ ?_ hb⟩
  repeat (first | exact Below.refl _ _ | refine Below.alloc ?_ (by simp; try omega) _)
set_option maxRecDepth 100000 in
set_option maxHeartbeats 4000000 in
theorem read_nil (nm : ByteArray) (w : World) : Calls Try.prog 18 #[.pointer none, .string nm] w fun e w' => e = .returned (.tuple #[.slice none 0 0, .int .i64 1]) ∧ w = w' := by
  go_enter Try.func18, Try.ntmps18
  go_wp2_with fail
  refine (none_nil _).mono ?_
  rintro e w2 ⟨rfl, rfl⟩
  go_wp2_with fail
  go_ret2
  exact ⟨rfl, rfl⟩
set_option maxRecDepth 100000 in
set_option maxHeartbeats 4000000 in
theorem halt_nil (m : Int) (w : World) : Calls Try.prog 26 #[.pointer none, .int .i64 m] w fun e w' => e = .returned (.tuple #[]) ∧ w = w' := by
  go_enter Try.func26, Try.ntmps26
  go_wp2_with fail
  refine (none_nil _).mono ?_
  rintro e w2 ⟨rfl, rfl⟩
  go_wp2_with fail
  refine bodyPost_ret (results_none rfl _ _ _) rfl ?_
  exact ⟨rfl, rfl⟩
set_option maxRecDepth 100000 in
set_option maxHeartbeats 4000000 in
theorem crash_nil (A : Option Addr) (n c : Nat) (w : World) : Calls Try.prog 27 #[.pointer none, .slice A n c] w fun e w' => e = .returned (.pointer none) ∧ Below w.heap.size w w' := by
  go_enter Try.func27, Try.ntmps27
  go_wp2_with fail
  refine (none_nil _).mono ?_
  rintro e w2 ⟨rfl, rfl⟩
  go_wp2_with fail
  go_ret
  refine ⟨rfl, ?_⟩
  repeat (first | exact Below.refl _ _ | refine Below.alloc ?_ (by simp; try omega) _)
set_option maxRecDepth 100000 in
set_option maxHeartbeats 4000000 in
theorem files_nil  (w : World) : Calls Try.prog 20 #[.pointer none] w fun e w' => e = .returned (.slice none 0 0) ∧ Below w.heap.size w w' := by
  go_enter Try.func20, Try.ntmps20
  go_wp2_with fail
  refine (none_nil _).mono ?_
  rintro e w2 ⟨rfl, rfl⟩
  go_wp2_with fail
  go_ret
  refine ⟨rfl, ?_⟩
  repeat (first | exact Below.refl _ _ | refine Below.alloc ?_ (by simp; try omega) _)
set_option maxRecDepth 100000 in
set_option maxHeartbeats 4000000 in
theorem steps_nil  (w : World) : Calls Try.prog 21 #[.pointer none] w fun e w' => e = .returned (.int .i64 0) ∧ w = w' := by
  go_enter Try.func21, Try.ntmps21
  go_wp2_with fail
  refine (none_nil _).mono ?_
  rintro e w2 ⟨rfl, rfl⟩
  go_wp2_with fail
  go_ret
  exact ⟨rfl, rfl⟩
end Go.Proofs.Ytcfglgejjmapdaa
