/- The deferred call of 'Parse': what was thrown is told by the results. -/
import Derived.Test.YtglicojojpggmaaDoorBegin
namespace Go.Proofs.YtglicojojpggmaaDoor
open Go Go.RowKit
set_option maxRecDepth 100000 in
set_option maxHeartbeats 2000000 in
theorem catch_idle (g : Nat) (w : World) :
    CallsD Tryd.prog 38 #[.pointer (some ⟨g, 0, none⟩), .pointer (some ⟨g + 1, 0, none⟩), .pointer (some ⟨g + 2, 0, none⟩)] .returning w fun e u' w' => e = .returned (.tuple #[]) ∧ u' = .returning ∧ w' = w := by
  refine callsD_of_wpS Tryd.func38 rfl fun c₀ cs hu => ?_
  apply wpS_seq
  apply wpS_region
  simp [wpOpsS, go_sem, recoverD, hu, Tryd.ntmps38, Exit.thenS]
  refine (caught_nil w).mono ?_
  rintro e w1 ⟨rfl, rfl⟩
  refine wpS_of_wp ?_
  change Code.wp _ _ _ { tmps := #[.pointer (some ⟨g, 0, none⟩), .pointer (some ⟨g + 1, 0, none⟩), .pointer (some ⟨g + 2, 0, none⟩), .int .i64 0, .nilIface, .int .i64 0, undef, undef, undef], defers := [] } _
  go_wp2_with fail
  cases c₀
  simp_all [bodyPostS, results, Tryd.results38]
theorem cell_one {W : World} {g : Nat} {v : Value} {t : TypeId} (h : W.heap[g]? = some (.cells #[v] t (0, 0))) : W.cell? ⟨g, 0, none⟩ = some v := by simp only [World.cell?, h]; rfl
/-- What is left of the results. -/
theorem set3 (g : Nat) (k : Int) (x0 x1 x2 : Value) (w : World) (h0 : w.heap[g]? = some (.cells #[x0] 22 (0, 0))) (h1 : w.heap[g + 1]? = some (.cells #[x1] 3 (0, 0))) (h2 : w.heap[g + 2]? = some (.cells #[x2] 26 (0, 0))) :
    (((w.setCell ⟨g, 0, none⟩ (.slice none 0 0)).setCell ⟨g + 1, 0, none⟩ (.int .i64 0)).setCell ⟨g + 2, 0, none⟩ (.int .i64 k)).heap[g]? = some (.cells #[.slice none 0 0] 22 (0, 0)) ∧
    (((w.setCell ⟨g, 0, none⟩ (.slice none 0 0)).setCell ⟨g + 1, 0, none⟩ (.int .i64 0)).setCell ⟨g + 2, 0, none⟩ (.int .i64 k)).heap[g + 1]? = some (.cells #[.int .i64 0] 3 (0, 0)) ∧
    (((w.setCell ⟨g, 0, none⟩ (.slice none 0 0)).setCell ⟨g + 1, 0, none⟩ (.int .i64 0)).setCell ⟨g + 2, 0, none⟩ (.int .i64 k)).heap[g + 2]? = some (.cells #[.int .i64 k] 26 (0, 0)) ∧
    Below g w (((w.setCell ⟨g, 0, none⟩ (.slice none 0 0)).setCell ⟨g + 1, 0, none⟩ (.int .i64 0)).setCell ⟨g + 2, 0, none⟩ (.int .i64 k)) := by
  have so : ∀ (W : World) (a b : Nat) (v : Value), b ≠ a → (W.setCell ⟨a, 0, none⟩ v).heap[b]? = W.heap[b]? := fun W a b v h => Below.heap_setCell W ⟨a, 0, none⟩ v b (by simpa using h)
  refine ⟨?_, ?_, ?_, (((Below.refl g w).setCell (p := ⟨g, 0, none⟩) (Nat.le_refl _) _).setCell (p := ⟨g + 1, 0, none⟩) (by simp) _).setCell (p := ⟨g + 2, 0, none⟩) (by simp) _⟩
  · exact (so _ _ _ _ (by omega)).trans ((so _ _ _ _ (by omega)).trans (row_set h0))
  · exact (so _ _ _ _ (by omega)).trans (row_set ((so _ _ _ _ (by omega)).trans h1))
  · exact row_set ((so _ _ _ _ (by omega)).trans ((so _ _ _ _ (by omega)).trans h2))
set_option maxRecDepth 100000 in
set_option maxHeartbeats 2000000 in
theorem catch_stop (g : Nat) (k : Int) (hk : k ≠ 0) (older : List PanicEntry) (x0 x1 x2 : Value) (w : World) (h0 : w.heap[g]? = some (.cells #[x0] 22 (0, 0))) (h1 : w.heap[g + 1]? = some (.cells #[x1] 3 (0, 0))) (h2 : w.heap[g + 2]? = some (.cells #[x2] 26 (0, 0))) :
    CallsD Tryd.prog 38 #[.pointer (some ⟨g, 0, none⟩), .pointer (some ⟨g + 1, 0, none⟩), .pointer (some ⟨g + 2, 0, none⟩)] (.panicking ({ v := .iface 84 (.agg #[.int .i64 k]), recovered := false } :: older)) w fun e u' w' =>
      e = .returned (.tuple #[]) ∧ u' = .panicking ({ v := .iface 84 (.agg #[.int .i64 k]), recovered := true } :: older) ∧ w'.heap[g]? = some (.cells #[.slice none 0 0] 22 (0, 0)) ∧ w'.heap[g + 1]? = some (.cells #[.int .i64 0] 3 (0, 0)) ∧ w'.heap[g + 2]? = some (.cells #[.int .i64 k] 26 (0, 0)) ∧ Below g w w' := by
  have hb := below_new w (.cells #[.int .i64 k] 84)
  have l2 := lt_of_block h2
  have H := Lib.hid (set3 g k x0 x1 x2 (w.alloc (.cells #[.int .i64 k] 84)) ((hb.block _ (lt_of_block h0)).trans h0) ((hb.block _ (lt_of_block h1)).trans h1) ((hb.block _ l2).trans h2))
  have HB := Lib.hid (hb.mono (show g ≤ w.heap.size by omega))
  have c0 := cell_one ((hb.block _ (lt_of_block h0)).trans h0)
  have f0 := fun j => free_row ((hb.block _ (lt_of_block h0)).trans h0) j
  have c1 := cell_one ((hb.block _ (lt_of_block h1)).trans h1)
  have f1 := fun j => free_row ((hb.block _ (lt_of_block h1)).trans h1) j
  have c2 := cell_one ((hb.block _ l2).trans h2)
  have f2 := fun j => free_row ((hb.block _ l2).trans h2) j
  have hk2 : (k != 0) = true := by simpa using hk
  have hk3 : decide (k = 0) = false := decide_eq_false hk
  clear h0 h1 h2 hb
  refine callsD_of_wpS Tryd.func38 rfl fun c₀ cs hu => ?_
  apply wpS_seq
  apply wpS_region
  simp [wpOpsS, go_sem, recoverD, hu, Tryd.ntmps38, Exit.thenS]
  refine (caught_stop k w).mono ?_
  rintro e w1 ⟨rfl, rfl⟩
  generalize w.alloc (.cells #[.int .i64 k] 84) = W at c0 f0 c1 f1 c2 f2 H HB ⊢
  refine wpS_of_wp ?_
  change Code.wp _ _ _ { tmps := #[.pointer (some ⟨g, 0, none⟩), .pointer (some ⟨g + 1, 0, none⟩), .pointer (some ⟨g + 2, 0, none⟩), .int .i64 k, .iface 84 (.agg #[.int .i64 k]), .int .i64 k, undef, undef, undef], defers := [] } _
  go_wp2_with fail
  obtain ⟨r0, r1, r2, r3⟩ := H.out
  refine ⟨rfl, _, rfl, .tuple #[], ?_, rfl, rfl, r0, r1, r2, HB.out.trans r3⟩
  simp [results, Tryd.results38]
end Go.Proofs.YtglicojojpggmaaDoor
