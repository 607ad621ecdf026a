/- How 'Decode' ends. -/
import Derived.Test.YtglicojojpggmaaDoorRep4
namespace Go.Proofs.YtglicojojpggmaaDoor
open Go Go.RowKit
/-- The reply with which bytes begin. -/
def decR (l : List UInt8) : DR := if (repF 100 l 0 1048576 65536).e ≠ 0 then .bad (repF 100 l 0 1048576 65536).e else repF 100 l 0 1048576 65536
/-- What Decode answers. -/
def DecEnd (w : World) (D : DR) (e : Ending) (w' : World) : Prop := ∃ A c, e = .returned (.tuple #[.agg (rpV D.r A c), .int .i64 (D.a : Nat), .int .i64 D.e]) ∧ RpK (fun b => w.heap.size ≤ b) w' D.r A c ∧ Below w.heap.size w w'
abbrev D4 (g : Nat) : Deferred := { target := .fn (.func 56) #[.pointer (some ⟨g, 0, none⟩), .pointer (some ⟨g + 1, 0, none⟩), .pointer (some ⟨g + 2, 0, none⟩)], args := #[] }
set_option maxRecDepth 100000 in
set_option maxHeartbeats 2000000 in
theorem catch_idle4 (g : Nat) (w : World) :
    CallsD Tryd.prog 56 #[.pointer (some ⟨g, 0, none⟩), .pointer (some ⟨g + 1, 0, none⟩), .pointer (some ⟨g + 2, 0, none⟩)] .returning w fun e u' w' => e = .returned (.tuple #[]) ∧ u' = .returning ∧ w' = w := by
  refine callsD_of_wpS Tryd.func56 rfl fun c₀ cs hu => ?_
  apply wpS_seq
  apply wpS_region
  simp [wpOpsS, go_sem, recoverD, hu, Tryd.ntmps56, Exit.thenS]
  refine (caught_nil w).mono ?_
  rintro e w1 ⟨rfl, rfl⟩
  refine wpS_of_wp ?_
  change Code.wp _ _ _ { tmps := #[.pointer (some ⟨g, 0, none⟩), .pointer (some ⟨g + 1, 0, none⟩), .pointer (some ⟨g + 2, 0, none⟩), .int .i64 0, .nilIface, .int .i64 0, undef, undef, undef, undef], defers := [] } _
  go_wp2_with fail
  cases c₀
  simp_all [bodyPostS, results, Tryd.results56]
/-- What is left of the results. -/
theorem set4 (g : Nat) (k : Int) (x0 : Array Value) (x1 x2 : Value) (w : World) (h0 : w.heap[g]? = some (.cells x0 41 (0, 0))) (h1 : w.heap[g + 1]? = some (.cells #[x1] 3 (0, 0))) (h2 : w.heap[g + 2]? = some (.cells #[x2] 26 (0, 0))) :
    (((w.setRow g zero41).setCell ⟨g + 1, 0, none⟩ (.int .i64 0)).setCell ⟨g + 2, 0, none⟩ (.int .i64 k)).heap[g]? = some (.cells zero41 41 (0, 0)) ∧
    (((w.setRow g zero41).setCell ⟨g + 1, 0, none⟩ (.int .i64 0)).setCell ⟨g + 2, 0, none⟩ (.int .i64 k)).heap[g + 1]? = some (.cells #[.int .i64 0] 3 (0, 0)) ∧
    (((w.setRow g zero41).setCell ⟨g + 1, 0, none⟩ (.int .i64 0)).setCell ⟨g + 2, 0, none⟩ (.int .i64 k)).heap[g + 2]? = some (.cells #[.int .i64 k] 26 (0, 0)) ∧
    Below g w (((w.setRow g zero41).setCell ⟨g + 1, 0, none⟩ (.int .i64 0)).setCell ⟨g + 2, 0, none⟩ (.int .i64 k)) := by
  have so : ∀ (W : World) (a b : Nat) (v : Value), b ≠ a → (W.setCell ⟨a, 0, none⟩ v).heap[b]? = W.heap[b]? := fun W a b v h => Below.heap_setCell W ⟨a, 0, none⟩ v b (by simpa using h)
  have sr : ∀ b, b ≠ g → (w.setRow g zero41).heap[b]? = w.heap[b]? := fun b h => setRow_other _ _ _ _ h
  have hb : Below g w (w.setRow g zero41) := ⟨rfl, rfl, rfl, by simp, fun k hk => sr k (by omega)⟩
  refine ⟨?_, ?_, ?_, (hb.setCell (p := ⟨g + 1, 0, none⟩) (by simp) _).setCell (p := ⟨g + 2, 0, none⟩) (by simp) _⟩
  · exact (so _ _ _ _ (by omega)).trans ((so _ _ _ _ (by omega)).trans (setRow_heap _ _ _ _ _ _ h0))
  · exact (so _ _ _ _ (by omega)).trans (row_set ((sr _ (by omega)).trans h1))
  · exact row_set ((so _ _ _ _ (by omega)).trans ((sr _ (by omega)).trans h2))
set_option maxRecDepth 100000 in
set_option maxHeartbeats 4000000 in
theorem catch_stop4 (g : Nat) (k : Int) (hk : k ≠ 0) (older : List PanicEntry) (x0 : Array Value) (hx0 : x0.size = 4) (x1 x2 : Value) (w : World) (h0 : w.heap[g]? = some (.cells x0 41 (0, 0))) (h1 : w.heap[g + 1]? = some (.cells #[x1] 3 (0, 0))) (h2 : w.heap[g + 2]? = some (.cells #[x2] 26 (0, 0))) :
    CallsD Tryd.prog 56 #[.pointer (some ⟨g, 0, none⟩), .pointer (some ⟨g + 1, 0, none⟩), .pointer (some ⟨g + 2, 0, none⟩)] (.panicking ({ v := .iface 84 (.agg #[.int .i64 k]), recovered := false } :: older)) w fun e u' w' =>
      e = .returned (.tuple #[]) ∧ u' = .panicking ({ v := .iface 84 (.agg #[.int .i64 k]), recovered := true } :: older) ∧ w'.heap[g]? = some (.cells zero41 41 (0, 0)) ∧ w'.heap[g + 1]? = some (.cells #[.int .i64 0] 3 (0, 0)) ∧ w'.heap[g + 2]? = some (.cells #[.int .i64 k] 26 (0, 0)) ∧ Below g w w' := by
  have hb := below_new w (.cells #[.int .i64 k] 84)
  have l2 := lt_of_block h2
  have g0 := (hb.block _ (lt_of_block h0)).trans h0
  have g1 := (hb.block _ (lt_of_block h1)).trans h1
  have g2 := (hb.block _ l2).trans h2
  have H := Lib.hid (set4 g k x0 x1 x2 (w.alloc (.cells #[.int .i64 k] 84)) g0 g1 g2)
  have HB := Lib.hid (hb.mono (show g ≤ w.heap.size by omega))
  have H0 := Lib.hid g0
  have so : ∀ b, b ≠ g → ((w.alloc (.cells #[.int .i64 k] 84)).setRow g zero41).heap[b]? = (w.alloc (.cells #[.int .i64 k] 84)).heap[b]? := fun b h => setRow_other _ _ _ _ h
  have c1 := cell_one ((so (g + 1) (by omega)).trans g1)
  have f1 := fun j => free_row ((so (g + 1) (by omega)).trans g1) j
  have c2 := cell_one ((so (g + 2) (by omega)).trans g2)
  have f2 := fun j => free_row ((so (g + 2) (by omega)).trans g2) j
  have hk2 : (k != 0) = true := by simpa using hk
  have hk3 : decide (k = 0) = false := decide_eq_false hk
  clear h0 h1 h2 hb so g0 g1 g2
  refine callsD_of_wpS Tryd.func56 rfl fun c₀ cs hu => ?_
  apply wpS_seq
  apply wpS_region
  simp [wpOpsS, go_sem, recoverD, hu, Tryd.ntmps56, Exit.thenS]
  refine (caught_stop k w).mono ?_
  rintro e w1 ⟨rfl, rfl⟩
  generalize w.alloc (.cells #[.int .i64 k] 84) = W at c1 f1 c2 f2 H HB H0 ⊢
  refine wpS_of_wp ?_
  change Code.wp _ _ _ { tmps := #[.pointer (some ⟨g, 0, none⟩), .pointer (some ⟨g + 1, 0, none⟩), .pointer (some ⟨g + 2, 0, none⟩), .int .i64 k, .iface 84 (.agg #[.int .i64 k]), .int .i64 k, undef, undef, undef, undef], defers := [] } _
  go_wp2_with (refine wpList_store_row rfl 41 (.tmp 0) (.tmp 8) rfl g zero41 rfl rfl 41 x0 H0.out size41 hx0 (by simp [Value.oneCell']) ?_)
  obtain ⟨r0, r1, r2, r3⟩ := H.out
  refine ⟨rfl, _, rfl, .tuple #[], ?_, rfl, rfl, r0, r1, r2, HB.out.trans r3⟩
  simp [results, Tryd.results56]
theorem res25 (tmps : Array Value) (g : Nat) (cs : Array Value) (y z : Value) (W : World) (t2 : tmps.getD 2 undef = .pointer (some ⟨g, 0, none⟩)) (t3 : tmps.getD 3 undef = .pointer (some ⟨g + 1, 0, none⟩)) (t4 : tmps.getD 4 undef = .pointer (some ⟨g + 2, 0, none⟩))
    (v0 v1 v2 v3 : Value) (hcs : cs = #[v0, v1, v2, v3]) (c0 : W.heap[g]? = some (.cells cs 41 (0, 0))) (c1 : W.cell? ⟨g + 1, 0, none⟩ = some y) (c2 : W.cell? ⟨g + 2, 0, none⟩ = some z) : (results Tryd.f25 tmps).run Tryd.prog W = .ok (.tuple #[.agg cs, y, z]) W := by
  subst hcs
  have q0 : W.cell? ⟨g, 0, none⟩ = some v0 := by simp only [World.cell?, c0]; rfl
  have q1 : W.cell? ⟨g, 1, none⟩ = some v1 := by simp only [World.cell?, c0]; rfl
  have q2 : W.cell? ⟨g, 2, none⟩ = some v2 := by simp only [World.cell?, c0]; rfl
  have q3 : W.cell? ⟨g, 3, none⟩ = some v3 := by simp only [World.cell?, c0]; rfl
  simp only [Array.getD_eq_getD_getElem?] at t2 t3 t4
  simp [results, Tryd.results25, t2, t3, t4, q0, q1, q2, q3, c1, c2, go_sem]
end Go.Proofs.YtglicojojpggmaaDoor
