/- The signs, and the iterator over a text's words: what makes them. -/
import Derived.Test.YtejicjcdbfjajaaDoorWrdAll
namespace Go.Proofs.YtejicjcdbfjajaaDoor
open Go Go.RowKit
theorem size71 : (Tryd.prog.info? 71).map (·.size) = some 25 := by kernel_rfl
abbrev Z71 : Obj := .cells (Array.replicate 25 (.string ⟨#[]⟩)) 71
theorem res42 (tmps : Array Value) (g : Nat) (W : World) (t0 : tmps.getD 0 undef = .pointer (some ⟨g, 0, none⟩)) (c0 : W.heap[g]? = some (.cells (cellsS sgs25).toArray 71 (0, 0))) : (results Tryd.f42 tmps).run Tryd.prog W = .ok (.agg (cellsS sgs25).toArray) W :=
  results_cell_row Tryd.results42 tmps W g 71 _ (0, 0) _ t0 c0 Tryd.underlying71 rfl (by kernel_rfl)
theorem sgs25_cells : (cellsS sgs25).toArray = #[Value.string { data := #[61, 61] }, Value.string { data := #[126, 61] }, Value.string { data := #[60, 61] }, Value.string { data := #[62, 61] }, Value.string { data := #[46, 46] }, Value.string { data := #[43] }, Value.string { data := #[45] }, Value.string { data := #[42] }, Value.string { data := #[47] }, Value.string { data := #[37] }, Value.string { data := #[35] }, Value.string { data := #[60] }, Value.string { data := #[62] }, Value.string { data := #[61] }, Value.string { data := #[40] }, Value.string { data := #[41] }, Value.string { data := #[123] }, Value.string { data := #[125] }, Value.string { data := #[91] }, Value.string { data := #[93] }, Value.string { data := #[59] }, Value.string { data := #[58] }, Value.string { data := #[44] }, Value.string { data := #[46] }, Value.string { data := #[] }] := by kernel_rfl
set_option maxRecDepth 100000 in
set_option maxHeartbeats 16000000 in
theorem signs_any (w : World) : Calls Tryd.prog 42 #[] w fun e w' => e = .returned (.agg (cellsS sgs25).toArray) ∧ Below w.heap.size w w' := by
  go_enter Tryd.func42, Tryd.ntmps42
  go_upto_region 1 with (fail)
  generalize hW : w.alloc _ = W
  have HZ : Hid (W.heap[w.heap.size]? = some Z71) := Lib.hid (by rw [← hW]; exact heap_alloc_new w _)
  have HB : Hid (Below w.heap.size w W) := Lib.hid (by rw [← hW]; exact below_new w _)
  clear hW
  go_wp2_with (refine wpList_store_row rfl 71 (.tmp 0) (.tmp 1) rfl w.heap.size (cellsS sgs25).toArray rfl (by rw [sgs25_cells]; rfl) 71 _ HZ.out size71 (by kernel_rfl) (by kernel_rfl) ?_)
  change bodyPost _ _ _ Exit.ret _ _
  refine bodyPost_ret (res42 _ w.heap.size _ rfl (setRow_heap _ _ _ _ _ _ HZ.out)) rfl ?_
  exact ⟨rfl, HB.out.trans ⟨rfl, rfl, rfl, by simp [World.setRow], fun k hk => setRow_other _ _ _ _ (by omega)⟩⟩
theorem each_any (s : ByteArray) (w : World) : Calls Tryd.prog 21 #[.string s] w fun e w' => e = .returned (.func (.func 41) #[] #[.pointer (some ⟨w.heap.size, 0, none⟩)]) ∧ w' = w.alloc (.cells #[.string s] 9) := by
  go_enter Tryd.func21, Tryd.ntmps21
  go_wp2
  go_ret
  exact ⟨rfl, rfl⟩
end Go.Proofs.YtejicjcdbfjajaaDoor
