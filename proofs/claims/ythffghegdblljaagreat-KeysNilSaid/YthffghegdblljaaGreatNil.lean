/- A keyspace that is none. -/
import Derived.Test.YthffghegdblljaaGreatKno
import Derived.Test.YthffghegdblljaaGreatRange
import Derived.Deep.WholeRow
namespace Go.Proofs.YthffghegdblljaaGreat
open Go Go.RowKit Go.Shelf
attribute [local go_sem] Oper.semAt_some
theorem res26 (tmps : Array Value) (g : Nat) (k : Int) (t : ByteArray) (b : Bool) (W : World) (t6 : tmps.getD 4 undef = .pointer (some ⟨g, 0, none⟩)) (t7 : tmps.getD 5 undef = .bool b) (c0 : W.heap[g]? = some (.cells (tgV k t) 27 (0, 0))) : (results Tryz.f26 tmps).run Tryz.prog W = .ok (.tuple #[.agg (tgV k t), .bool b]) W := by
  obtain ⟨q0, q1, q2, q3, q4, q5, q6⟩ := tg_cells c0
  simp only [Array.getD_eq_getD_getElem?] at t6 t7
  simp [results, Tryz.results26, t6, t7, q0, q1, q2, q3, q4, q5, q6, go_sem]
set_option maxRecDepth 200000 in
set_option maxHeartbeats 4000000 in
theorem apply_nil (A : Option Addr) (n c : Nat) (w : World) : Calls Tryz.prog 21 #[.pointer none, .slice A n c] w fun e w' => e = .returned (.tuple #[.int .i64 0, .int .i64 1]) ∧ w = w' := by


  have f1 := eqp33
  have f2 := eqq33
  have f3 := eqm72
  have f4 := eqn72
  go_enter Tryz.func21, Tryz.ntmps21
  go_wp2_with fail
  go_step3
  go_wp2_with (first | (refine (none_nil _).mono ?_; rintro e _ ⟨rfl, rfl⟩) | (refine (none_zero g _ HZ.out).mono ?_; rintro e _ ⟨rfl, rfl⟩) | (refine (none_any g m _ HZ.out).mono ?_; rintro e _ ⟨rfl, rfl⟩))
  change bodyPost Tryz.prog Tryz.f21 (fun e w' => e = .returned (.tuple #[.int .i64 0, .int .i64 1]) ∧ w = w') Exit.ret _ _
  go_ret2
  exact ⟨rfl, rfl⟩

set_option maxRecDepth 200000 in
set_option maxHeartbeats 4000000 in
theorem apply_zero (g : Nat) (w : World) (hz : w.heap[g]? = some (.cells #[.map none] 74 (0, 0))) : Calls Tryz.prog 21 #[.pointer (some ⟨g, 0, none⟩), .slice none 0 0] w fun e w' => e = .returned (.tuple #[.int .i64 0, .int .i64 1]) ∧ w = w' := by
  have HC := Lib.hid (none_zero g w hz)
  clear hz
  go_enter Tryz.func21, Tryz.ntmps21
  go_wp2_with fail
  go_step3
  go_wp2_with fail
  refine HC.out.mono ?_
  rintro e _ ⟨rfl, rfl⟩
  clear HC
  go_wp2_with fail
  change bodyPost Tryz.prog Tryz.f21 (fun e w' => e = .returned (.tuple #[.int .i64 0, .int .i64 1]) ∧ w = w') Exit.ret _ _
  go_ret2
  exact ⟨rfl, rfl⟩

set_option maxRecDepth 200000 in
set_option maxHeartbeats 4000000 in
theorem look_nil (s : ByteArray) (w : World) : Calls Tryz.prog 26 #[.pointer none, .string s] w fun e w' => e = .returned (.tuple #[.agg (tgV 0 sE), .bool false]) ∧ Below w.heap.size w w' := by
  have HB := Lib.hid (below_new w (.cells #[.int .i64 0, .string sE, .slice none 0 0, .slice none 0 0, .slice none 0 0, .bool false, .int .i64 0] 27))
  have HN := Lib.hid (heap_alloc_new w (.cells #[.int .i64 0, .string sE, .slice none 0 0, .slice none 0 0, .slice none 0 0, .bool false, .int .i64 0] 27))


  have f1 := eqp33
  have f2 := eqq33
  have f3 := eqm72
  have f4 := eqn72
  go_enter Tryz.func26, Tryz.ntmps26
  go_upto_region 1 with (fail)
  obtain ⟨w1, hw1⟩ : ∃ w1, w.alloc (.cells #[.int .i64 0, .string sE, .slice none 0 0, .slice none 0 0, .slice none 0 0, .bool false, .int .i64 0] 27) = w1 := ⟨_, rfl⟩
  rw [hw1] at HB HN ⊢
  clear hw1
  have HC := Lib.hid (none_nil w1)
  go_wp2_with fail
  refine HC.out.mono ?_
  rintro e w2 ⟨rfl, rfl⟩
  clear HC
  go_wp2_with (refine wpList_store_row rfl 27 (.tmp 4) (.tmp 17) rfl w.heap.size (tgV 0 sE) rfl rfl 27 _ HN.out size27 rfl (one27 0 sE) ?_)
  have hr := setRow_heap _ w.heap.size _ (tgV 0 sE) _ _ HN.out
  refine bodyPost_ret (res26 _ w.heap.size 0 sE false _ rfl rfl hr) rfl ?_
  exact ⟨rfl, HB.out.trans ⟨rfl, rfl, rfl, by simp [World.setRow], fun k hk => setRow_other _ _ _ _ (by omega)⟩⟩

set_option maxRecDepth 200000 in
set_option maxHeartbeats 4000000 in
theorem get_zero (g : Nat) (s : ByteArray) (n : Int) (w : World) (hz : w.heap[g]? = some (.cells #[.map none] 74 (0, 0))) : Calls Tryz.prog 28 #[.pointer (some ⟨g, 0, none⟩), .string s, .int .i64 n] w fun e w' => e = .returned (.tuple #[.agg (tgV 0 sE), .bool false]) ∧ Below w.heap.size w w' := by
  have HB := Lib.hid (below_new w (.cells #[.int .i64 0, .string sE, .slice none 0 0, .slice none 0 0, .slice none 0 0, .bool false, .int .i64 0] 27))
  have HN := Lib.hid (heap_alloc_new w (.cells #[.int .i64 0, .string sE, .slice none 0 0, .slice none 0 0, .slice none 0 0, .bool false, .int .i64 0] 27))
  have HZ := Lib.hid ((HB.out.block _ (hlt hz)).trans hz)
  clear hz
  have f1 := eqp33
  have f2 := eqq33
  have f3 := eqm72
  have f4 := eqn72
  go_enter Tryz.func28, Tryz.ntmps28
  go_upto_region 1 with (fail)
  obtain ⟨w1, hw1⟩ : ∃ w1, w.alloc (.cells #[.int .i64 0, .string sE, .slice none 0 0, .slice none 0 0, .slice none 0 0, .bool false, .int .i64 0] 27) = w1 := ⟨_, rfl⟩
  rw [hw1] at HB HN HZ ⊢
  clear hw1
  have HC := Lib.hid (none_zero g w1 HZ.out)
  go_wp2_with fail
  refine HC.out.mono ?_
  rintro e w2 ⟨rfl, rfl⟩
  clear HC
  go_wp2_with (refine wpList_store_row rfl 27 (.tmp 6) (.tmp 29) rfl w.heap.size (tgV 0 sE) rfl rfl 27 _ HN.out size27 rfl (one27 0 sE) ?_)
  have hr := setRow_heap _ w.heap.size _ (tgV 0 sE) _ _ HN.out
  refine bodyPost_ret (res28 _ w.heap.size 0 sE false _ rfl rfl hr) rfl ?_
  exact ⟨rfl, HB.out.trans ⟨rfl, rfl, rfl, by simp [World.setRow], fun k hk => setRow_other _ _ _ _ (by omega)⟩⟩

set_option maxRecDepth 200000 in
theorem size_nil (n : Int) (w : World) : Calls Tryz.prog 32 #[.pointer none, .int .i64 n] w fun e w' => e = .returned (.int .i64 0) ∧ Below w.heap.size w w' := by
  have HB := Lib.hid (below_new w (.cells #[.int .i64 0] 3))
  have HN := Lib.hid (heap_alloc_new w (.cells #[.int .i64 0] 3))
  go_enter Tryz.func32, Tryz.ntmps32
  go_upto_region 2 with (fail)
  obtain ⟨w1, hw1⟩ : ∃ w1, w.alloc (.cells #[.int .i64 0] 3) = w1 := ⟨_, rfl⟩
  rw [hw1] at HB HN ⊢
  clear hw1
  have c0 := cell1 HN.out
  go_wp2_with fail
  refine (none_nil w1).mono ?_
  rintro e w2 ⟨rfl, rfl⟩
  go_wp2_with fail
  go_ret
  exact ⟨rfl, HB.out⟩

set_option maxRecDepth 200000 in
set_option maxHeartbeats 4000000 in
theorem names_zero (g : Nat) (n : Int) (w : World) (hz : w.heap[g]? = some (.cells #[.map none] 74 (0, 0))) : Calls Tryz.prog 31 #[.pointer (some ⟨g, 0, none⟩), .int .i64 n] w fun e w' => e = .returned (.slice none 0 0) ∧ w = w' := by
  have HZ := Lib.hid hz
  clear hz
  have f1 := eqp33
  have f2 := eqq33
  have f3 := eqm72
  have f4 := eqn72
  go_enter Tryz.func31, Tryz.ntmps31
  go_wp2_with (refine (none_zero g _ HZ.out).mono ?_; rintro e _ ⟨rfl, rfl⟩)
  go_ret
  exact ⟨rfl, rfl⟩

set_option maxRecDepth 200000 in
set_option maxHeartbeats 4000000 in
theorem copy_nil  (w : World) : Calls Tryz.prog 24 #[.pointer none] w fun e w' => e = .returned (.pointer none) ∧ w = w' := by


  have f1 := eqp33
  have f2 := eqq33
  have f3 := eqm72
  have f4 := eqn72
  go_enter Tryz.func24, Tryz.ntmps24
  go_wp2_with (refine (none_nil _).mono ?_; rintro e _ ⟨rfl, rfl⟩)
  go_ret
  exact ⟨rfl, rfl⟩

set_option maxRecDepth 200000 in
set_option maxHeartbeats 4000000 in
theorem same_nz (g : Nat) (w : World) (hz : w.heap[g]? = some (.cells #[.map none] 74 (0, 0))) : Calls Tryz.prog 25 #[.pointer none, .pointer (some ⟨g, 0, none⟩)] w fun e w' => e = .returned (.bool true) ∧ w = w' := by
  have HN := Lib.hid (none_nil w)
  have HC := Lib.hid (none_zero g w hz)
  clear hz
  go_enter Tryz.func25, Tryz.ntmps25
  go_wp2_with fail
  refine HN.out.mono ?_
  rintro e _ ⟨rfl, rfl⟩
  go_wp2_with fail
  refine HN.out.mono ?_
  rintro e _ ⟨rfl, rfl⟩
  go_wp2_with fail
  refine HC.out.mono ?_
  rintro e _ ⟨rfl, rfl⟩
  go_wp2_with fail
  go_ret
  exact ⟨rfl, rfl⟩

set_option maxRecDepth 200000 in
set_option maxHeartbeats 4000000 in
theorem same_nn (g m : Nat) (w : World) (hz : KB w g m) : Calls Tryz.prog 25 #[.pointer none, .pointer (some ⟨g, 0, none⟩)] w fun e w' => e = .returned (.bool false) ∧ w = w' := by
  have HN := Lib.hid (none_nil w)
  have HC := Lib.hid (none_any g m w hz)
  clear hz
  go_enter Tryz.func25, Tryz.ntmps25
  go_wp2_with fail
  refine HN.out.mono ?_
  rintro e _ ⟨rfl, rfl⟩
  go_wp2_with fail
  refine HN.out.mono ?_
  rintro e _ ⟨rfl, rfl⟩
  go_wp2_with fail
  refine HC.out.mono ?_
  rintro e _ ⟨rfl, rfl⟩
  go_wp2_with fail
  go_ret
  exact ⟨rfl, rfl⟩

set_option maxRecDepth 200000 in
set_option maxHeartbeats 4000000 in
theorem same_kn (g m : Nat) (w : World) (hz : KB w g m) : Calls Tryz.prog 25 #[.pointer (some ⟨g, 0, none⟩), .pointer none] w fun e w' => e = .returned (.bool false) ∧ w = w' := by
  have HN := Lib.hid (none_nil w)
  have HC := Lib.hid (none_any g m w hz)
  clear hz
  go_enter Tryz.func25, Tryz.ntmps25
  go_wp2_with fail
  refine HC.out.mono ?_
  rintro e _ ⟨rfl, rfl⟩
  go_wp2_with fail
  refine HN.out.mono ?_
  rintro e _ ⟨rfl, rfl⟩
  go_wp2_with fail
  refine HC.out.mono ?_
  rintro e _ ⟨rfl, rfl⟩
  go_wp2_with fail
  go_ret
  exact ⟨rfl, rfl⟩

theorem all_nil (w : World) : Calls Tryz.prog 33 #[.pointer none] w fun e w' => e = .returned (.func (.func 68) #[] #[.pointer (some ⟨w.heap.size, 0, none⟩)]) ∧ w' = w.alloc (.cells #[.pointer none] 33) := by
  have hmf : ∀ (fn : Fn) (first cap : Array Value) (w : World), (Instr.makeFunc fn first cap).run Tryz.prog w = .ok (.func fn first cap) w := fun _ _ _ _ => rfl
  go_enter Tryz.func33, Tryz.ntmps33
  go_wp2
  go_ret
  exact ⟨rfl, rfl⟩
set_option maxRecDepth 200000 in
theorem all1_nil {b : Nat} (n : Nat) (w : World) (hn : 1 ≤ n) (hb : w.heap[b]? = some (.cells #[.pointer none] 33 (0, 0))) :
    SeqG n Tryz.prog 68 #[.pointer (some ⟨b, 0, none⟩)] (fun _ : Unit => #[.bool true, .bool true]) (fun _ _ => True) (fun _ _ => False) (fun xs => xs = []) 1 w := by
  intro y J W hbel hJ hY h0
  have c0 := cell1 ((hbel.block _ (hlt hb)).trans hb)
  clear hY hJ hbel hb
  have HJ0 := Lib.hid h0
  clear h0
  refine callsIn_of_wp Tryz.func68 rfl trivial ?_
  simp only [Tryz.ntmps68, List.size_toArray, List.length_cons, List.length_nil, Nat.reduceAdd, Nat.reduceSub, Array.replicate_succ, Array.replicate_zero, List.push_toArray, List.append_toArray, List.nil_append, List.cons_append]
  gi_wp2_with fail
  refine ⟨trivial, (callsIn_wide.2 (none_nil W)).mono ?_⟩
  rintro e w2 ⟨rfl, rfl, -⟩
  gi_wp2_with fail
  refine bodyPost_ret (results_none Tryz.results68 _ _ _) rfl ?_
  exact ⟨⟨_, rfl⟩, _, rfl, HJ0.out⟩
end Go.Proofs.YthffghegdblljaaGreat
