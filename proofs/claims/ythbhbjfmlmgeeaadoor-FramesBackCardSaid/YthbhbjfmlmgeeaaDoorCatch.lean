/- The deferred call of 'Read': what was thrown is told by the results. -/
import Derived.Test.YthbhbjfmlmgeeaaDoorBody
namespace Go.Proofs.YthbhbjfmlmgeeaaDoor
open Go Go.RowKit
theorem set3 (g : Nat) (k : Int) (x0 x1 x2 : Value) (w : World) (h0 : w.heap[g]? = some (.cells #[x0] 22 (0, 0))) (h1 : w.heap[g + 1]? = some (.cells #[x1] 3 (0, 0))) (h2 : w.heap[g + 2]? = some (.cells #[x2] 26 (0, 0))) :
    ((((w.alloc (.cells #[.int .i64 k] 57)).setCell ⟨g, 0, none⟩ (.slice none 0 0)).setCell ⟨g + 1, 0, none⟩ (.int .i64 0)).setCell ⟨g + 2, 0, none⟩ (.int .i64 k)).drew.heap[g]? = some (.cells #[.slice none 0 0] 22 (0, 0)) ∧
    ((((w.alloc (.cells #[.int .i64 k] 57)).setCell ⟨g, 0, none⟩ (.slice none 0 0)).setCell ⟨g + 1, 0, none⟩ (.int .i64 0)).setCell ⟨g + 2, 0, none⟩ (.int .i64 k)).drew.heap[g + 1]? = some (.cells #[.int .i64 0] 3 (0, 0)) ∧
    ((((w.alloc (.cells #[.int .i64 k] 57)).setCell ⟨g, 0, none⟩ (.slice none 0 0)).setCell ⟨g + 1, 0, none⟩ (.int .i64 0)).setCell ⟨g + 2, 0, none⟩ (.int .i64 k)).drew.heap[g + 2]? = some (.cells #[.int .i64 k] 26 (0, 0)) ∧
    Below g w ((((w.alloc (.cells #[.int .i64 k] 57)).setCell ⟨g, 0, none⟩ (.slice none 0 0)).setCell ⟨g + 1, 0, none⟩ (.int .i64 0)).setCell ⟨g + 2, 0, none⟩ (.int .i64 k)).drew := by
  have l2 := lt_of_block h2
  have o0 : (w.alloc (.cells #[.int .i64 k] 57)).heap[g]? = some (.cells #[x0] 22 (0, 0)) := (Below.heap_alloc w _ g (by omega)).trans h0
  have o1 : (w.alloc (.cells #[.int .i64 k] 57)).heap[g + 1]? = some (.cells #[x1] 3 (0, 0)) := (Below.heap_alloc w _ (g + 1) (by omega)).trans h1
  have o2 : (w.alloc (.cells #[.int .i64 k] 57)).heap[g + 2]? = some (.cells #[x2] 26 (0, 0)) := (Below.heap_alloc w _ (g + 2) (by omega)).trans h2
  have hb := (Below.refl g w).alloc (by omega) (.cells #[.int .i64 k] 57)
  generalize w.alloc (.cells #[.int .i64 k] 57) = W at *
  have p0 := one_setCell (u := .slice none 0 0) o0
  have p1 := (Below.heap_setCell W ⟨g, 0, none⟩ (.slice none 0 0) (g + 1) (by simp)).trans o1
  have p2 := (Below.heap_setCell W ⟨g, 0, none⟩ (.slice none 0 0) (g + 2) (by simp)).trans o2
  have hb1 := hb.setCell (p := ⟨g, 0, none⟩) (Nat.le_refl _) (.slice none 0 0)
  generalize W.setCell ⟨g, 0, none⟩ (.slice none 0 0) = V at *
  have q0 := (Below.heap_setCell V ⟨g + 1, 0, none⟩ (.int .i64 0) g (by simp)).trans p0
  have q1 := one_setCell (u := .int .i64 0) p1
  have q2 := (Below.heap_setCell V ⟨g + 1, 0, none⟩ (.int .i64 0) (g + 2) (by simp)).trans p2
  have hb2 := hb1.setCell (p := ⟨g + 1, 0, none⟩) (by simp) (.int .i64 0)
  generalize V.setCell ⟨g + 1, 0, none⟩ (.int .i64 0) = U at *
  exact ⟨(Below.heap_setCell U ⟨g + 2, 0, none⟩ (.int .i64 k) g (by simp)).trans q0, (Below.heap_setCell U ⟨g + 2, 0, none⟩ (.int .i64 k) (g + 1) (by simp)).trans q1, one_setCell (u := .int .i64 k) q2, (hb2.setCell (p := ⟨g + 2, 0, none⟩) (by simp) (.int .i64 k)).drew⟩
set_option maxHeartbeats 1000000 in
theorem catch_torn (g : Nat) (k : Int) (older : List PanicEntry) (x0 x1 x2 : Value) (w : World) (h0 : w.heap[g]? = some (.cells #[x0] 22 (0, 0))) (h1 : w.heap[g + 1]? = some (.cells #[x1] 3 (0, 0))) (h2 : w.heap[g + 2]? = some (.cells #[x2] 26 (0, 0))) :
    CallsD Tryd.prog 31 #[.pointer (some ⟨g, 0, none⟩), .pointer (some ⟨g + 1, 0, none⟩), .pointer (some ⟨g + 2, 0, none⟩)] (.panicking ({ v := .iface 57 (.agg #[.int .i64 k]), recovered := false } :: older)) w fun e u' w' =>
      e = .returned (.tuple #[]) ∧ u' = .panicking ({ v := .iface 57 (.agg #[.int .i64 k]), recovered := true } :: older) ∧ w'.heap[g]? = some (.cells #[.slice none 0 0] 22 (0, 0)) ∧ w'.heap[g + 1]? = some (.cells #[.int .i64 0] 3 (0, 0)) ∧ w'.heap[g + 2]? = some (.cells #[.int .i64 k] 26 (0, 0)) ∧ Below g w w' := by
  have c0 := cell_of_one h0
  have f0 := free_of_one h0
  have c1 := cell_of_one h1
  have f1 := free_of_one h1
  have c2 := cell_of_one h2
  have f2 := free_of_one h2
  have A0 : ∀ o, (w.alloc o).cell? ⟨g, 0, none⟩ = some x0 := fun o => (World.cell?_alloc_lt w o ⟨g, 0, none⟩ (lt_of_block h0)).trans c0
  have A1 : ∀ o, (w.alloc o).cell? ⟨g + 1, 0, none⟩ = some x1 := fun o => (World.cell?_alloc_lt w o ⟨g + 1, 0, none⟩ (lt_of_block h1)).trans c1
  have A2 : ∀ o, (w.alloc o).cell? ⟨g + 2, 0, none⟩ = some x2 := fun o => (World.cell?_alloc_lt w o ⟨g + 2, 0, none⟩ (lt_of_block h2)).trans c2
  have B0 : ∀ o, (w.alloc o).frozen? ⟨g, 0, none⟩ = false := fun o => ((below_any 0 ((Below.refl w.heap.size w).alloc (Nat.le_refl _) o)).frozen (p := ⟨g, 0, none⟩) (lt_of_block h0)).trans f0
  have B1 : ∀ o, (w.alloc o).frozen? ⟨g + 1, 0, none⟩ = false := fun o => ((below_any 0 ((Below.refl w.heap.size w).alloc (Nat.le_refl _) o)).frozen (p := ⟨g + 1, 0, none⟩) (lt_of_block h1)).trans f1
  have B2 : ∀ o, (w.alloc o).frozen? ⟨g + 2, 0, none⟩ = false := fun o => ((below_any 0 ((Below.refl w.heap.size w).alloc (Nat.le_refl _) o)).frozen (p := ⟨g + 2, 0, none⟩) (lt_of_block h2)).trans f2
  have n0 : ¬ w.heap.size = g := by have := lt_of_block h0; omega
  have m0 : ¬ g = w.heap.size := by have := lt_of_block h0; omega
  have n1 : ¬ w.heap.size = g + 1 := by have := lt_of_block h1; omega
  have m1 : ¬ g + 1 = w.heap.size := by have := lt_of_block h1; omega
  have n2 : ¬ w.heap.size = g + 2 := by have := lt_of_block h2; omega
  have m2 : ¬ g + 2 = w.heap.size := by have := lt_of_block h2; omega
  have H0 := Lib.hid h0
  have H1 := Lib.hid h1
  have H2 := Lib.hid h2
  clear h0 h1 h2
  have hta : ∀ W, (Instr.typeAssert (.iface 57 (.agg #[.int .i64 k])) 20 57 true).run Tryd.prog W = .ok (.tuple #[.agg #[.int .i64 k], .bool true]) W := fun W => by kernel_rfl
  refine callsD_of_wpS Tryd.func31 rfl fun c₀ cs hu => ?_
  apply wpS_seq
  apply wpS_region
  simp [wpOpsS, go_sem, recoverD, hu, Tryd.ntmps31, Exit.thenS]
  refine wpS_of_wp ?_
  change Code.wp _ _ _ { tmps := #[.pointer (some ⟨g, 0, none⟩), .pointer (some ⟨g + 1, 0, none⟩), .pointer (some ⟨g + 2, 0, none⟩), undef, undef, undef, .iface 57 (.agg #[.int .i64 k]), undef, undef, undef, undef, undef, undef, undef], defers := [] } _
  go_wp2_with fail
  go_region
  have HF := set3 g k x0 x1 x2 w H0.out H1.out H2.out
  generalize ((((w.alloc (.cells #[.int .i64 k] 57)).setCell ⟨g, 0, none⟩ (.slice none 0 0)).setCell ⟨g + 1, 0, none⟩ (.int .i64 0)).setCell ⟨g + 2, 0, none⟩ (.int .i64 k)).drew = W at *
  obtain ⟨r0, r1, r2, r3⟩ := HF
  clear c0 f0 c1 f1 c2 f2 A0 A1 A2 B0 B1 B2 n0 m0 n1 m1 n2 m2 H0 H1 H2 hta
  have R0 := Lib.hid r0
  have R1 := Lib.hid r1
  have R2 := Lib.hid r2
  have R3 := Lib.hid r3
  clear r0 r1 r2 r3
  refine ⟨rfl, _, rfl, .tuple #[], ?_, rfl, rfl, R0.out, R1.out, R2.out, R3.out⟩
  simp [results, Tryd.results31]
theorem catch_idle (g : Nat) (w : World) :
    CallsD Tryd.prog 31 #[.pointer (some ⟨g, 0, none⟩), .pointer (some ⟨g + 1, 0, none⟩), .pointer (some ⟨g + 2, 0, none⟩)] .returning w fun e u' w' => e = .returned (.tuple #[]) ∧ u' = .returning ∧ w' = w := by
  refine callsD_of_wpS Tryd.func31 rfl fun c₀ cs hu => ?_
  apply wpS_seq
  apply wpS_region
  simp [wpOpsS, go_sem, recoverD, hu, Tryd.ntmps31, Exit.thenS]
  refine wpS_of_wp ?_
  change Code.wp _ _ _ { tmps := #[.pointer (some ⟨g, 0, none⟩), .pointer (some ⟨g + 1, 0, none⟩), .pointer (some ⟨g + 2, 0, none⟩), undef, undef, undef, .nilIface, undef, undef, undef, undef, undef, undef, undef], defers := [] } _
  go_wp2
  cases c₀
  simp_all [bodyPostS, results, Tryd.results31]
end Go.Proofs.YthbhbjfmlmgeeaaDoor
