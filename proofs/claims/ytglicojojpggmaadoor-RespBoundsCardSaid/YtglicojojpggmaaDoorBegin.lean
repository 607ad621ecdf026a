/- An input that begins; what reads it; what was thrown. -/
import Derived.Test.YtglicojojpggmaaDoorLen
import Derived.Laws.Tables
import Derived.Laws.ResultCell
namespace Go.Proofs.YtglicojojpggmaaDoor
open Go Go.RowKit
abbrev Over (A : Option Addr) (n c : Nat) : Obj := .cells #[.slice A n c, .int .i64 0, .int .i64 1048576, .int .i64 65536, .int .i64 0] 86
set_option maxRecDepth 100000 in
set_option maxHeartbeats 4000000 in
theorem over_any (A : Option Addr) (n c : Nat) (w : World) : Calls Tryd.prog 40 #[.slice A n c] w fun e w' => e = .returned (.pointer (some ⟨w.heap.size, 0, none⟩)) ∧ w' = w.alloc (Over A n c) := by
  go_enter Tryd.func40, Tryd.ntmps40
  go_wp2_with fail
  go_ret
  exact ⟨rfl, rfl⟩
theorem over_inp (A : Option Addr) (n c : Nat) (l : List UInt8) (w : World) (hr : Rd w A l) (hl : l.length = n) (hc : n ≤ c) (hA : A = none → c = 0) (hb : ∀ ad, A = some ad → ad.block < w.heap.size) (hm : n ≤ 9000000000000000000) :
    Inp (w.alloc (Over A n c)) w.heap.size A n c l 0 1048576 65536 0 :=
  ⟨heap_alloc_new w _, hr.below (below_new w _), hl, hc, hA, fun ad e => by have := hb ad e; omega, hm, Nat.zero_le _⟩
abbrev mv (k G : Nat) : Value := .func (.func k) #[.pointer (some ⟨G, 0, none⟩)] #[]
abbrev takerV (G : Nat) : Array Value := #[mv 61 G, mv 62 G, mv 63 G, mv 64 G, mv 65 G, mv 66 G]
theorem free_row {W : World} {g : Nat} {cs : Array Value} {t : TypeId} (h : W.heap[g]? = some (.cells cs t (0, 0))) (j : Nat) : W.frozen? ⟨g, j, none⟩ = false := by simp [World.frozen?, h]
theorem size81 : (Tryd.prog.info? 81).map (·.size) = some 6 := by kernel_rfl
theorem res41 (tmps : Array Value) (w : World) (g : Nat) (cs : Array Value) (hp : tmps.getD 2 undef = .pointer (some ⟨g, 0, none⟩)) (hg : w.heap[g]? = some (.cells cs 81 (0, 0))) (hs : cs.size = 6 := by rfl) :
    (results Tryd.f41 tmps).run Tryd.prog w = .ok (.agg cs) w :=
  results_cell_row (P := Tryd.prog) (p := 2) (ty := 81) Tryd.results41 tmps w g 81 cs (0, 0) _ hp hg Tryd.underlying81 rfl (by rw [size81, hs])
set_option maxRecDepth 100000 in
set_option maxHeartbeats 4000000 in
theorem taker_any (G : Nat) (w : World) : Calls Tryd.prog 41 #[.pointer (some ⟨G, 0, none⟩)] w fun e w' => e = .returned (.agg (takerV G)) ∧ Below w.heap.size w w' := by
  have hmf : ∀ (fn : Fn) (first cap : Array Value) (w : World), (Instr.makeFunc fn first cap).run Tryd.prog w = .ok (.func fn first cap) w := fun _ _ _ _ => rfl
  have hz := heap_alloc_new w (.cells #[.nilFunc, .nilFunc, .nilFunc, .nilFunc, .nilFunc, .nilFunc] 81)
  have HZ := Lib.hid hz
  have HW := Lib.hid (below_new w (.cells #[.nilFunc, .nilFunc, .nilFunc, .nilFunc, .nilFunc, .nilFunc] 81))
  have z0 : (w.alloc (.cells #[.nilFunc, .nilFunc, .nilFunc, .nilFunc, .nilFunc, .nilFunc] 81)).cell? ⟨w.heap.size, 0, none⟩ = some .nilFunc := by simp only [World.cell?, hz]; rfl
  have z1 : (w.alloc (.cells #[.nilFunc, .nilFunc, .nilFunc, .nilFunc, .nilFunc, .nilFunc] 81)).cell? ⟨w.heap.size, 1, none⟩ = some .nilFunc := by simp only [World.cell?, hz]; rfl
  have z2 : (w.alloc (.cells #[.nilFunc, .nilFunc, .nilFunc, .nilFunc, .nilFunc, .nilFunc] 81)).cell? ⟨w.heap.size, 2, none⟩ = some .nilFunc := by simp only [World.cell?, hz]; rfl
  have z3 : (w.alloc (.cells #[.nilFunc, .nilFunc, .nilFunc, .nilFunc, .nilFunc, .nilFunc] 81)).cell? ⟨w.heap.size, 3, none⟩ = some .nilFunc := by simp only [World.cell?, hz]; rfl
  have z4 : (w.alloc (.cells #[.nilFunc, .nilFunc, .nilFunc, .nilFunc, .nilFunc, .nilFunc] 81)).cell? ⟨w.heap.size, 4, none⟩ = some .nilFunc := by simp only [World.cell?, hz]; rfl
  have z5 : (w.alloc (.cells #[.nilFunc, .nilFunc, .nilFunc, .nilFunc, .nilFunc, .nilFunc] 81)).cell? ⟨w.heap.size, 5, none⟩ = some .nilFunc := by simp only [World.cell?, hz]; rfl
  have zf : ∀ j, (w.alloc (.cells #[.nilFunc, .nilFunc, .nilFunc, .nilFunc, .nilFunc, .nilFunc] 81)).frozen? ⟨w.heap.size, j, none⟩ = false := fun j => free_row hz j
  clear hz z0 z1 z2 z3 z4 z5 zf
  have hone : ((takerV G).all fun x => x.oneCell') = true := by simp [takerV, mv, Value.oneCell']
  go_enter Tryd.func41, Tryd.ntmps41
  go_wp2_with (refine wpList_store_row rfl 81 (.tmp 2) (.tmp 15) rfl w.heap.size (takerV G) rfl rfl 81 #[.nilFunc, .nilFunc, .nilFunc, .nilFunc, .nilFunc, .nilFunc] HZ.out size81 rfl hone ?_)
  have hb : Below w.heap.size w ((w.alloc (.cells #[.nilFunc, .nilFunc, .nilFunc, .nilFunc, .nilFunc, .nilFunc] 81)).setRow w.heap.size (takerV G)) :=
    ⟨HW.out.os, HW.out.tape, HW.out.output, by simp, fun k hk => (setRow_other _ _ _ _ (by omega)).trans (HW.out.block k hk)⟩
  exact bodyPost_ret (v := .agg (takerV G)) (res41 _ _ w.heap.size (takerV G) rfl (setRow_heap _ _ _ _ _ _ HZ.out)) rfl ⟨rfl, hb⟩
set_option maxRecDepth 100000 in
set_option maxHeartbeats 4000000 in
theorem caught_nil (w : World) : Calls Tryd.prog 39 #[.nilIface] w fun e w' => e = .returned (.int .i64 0) ∧ w' = w := by
  go_enter Tryd.func39, Tryd.ntmps39
  go_wp2_with fail
  go_ret
  exact ⟨rfl, rfl⟩
set_option maxRecDepth 100000 in
set_option maxHeartbeats 4000000 in
theorem caught_stop (k : Int) (w : World) : Calls Tryd.prog 39 #[.iface 84 (.agg #[.int .i64 k])] w fun e w' => e = .returned (.int .i64 k) ∧ w' = w.alloc (.cells #[.int .i64 k] 84) := by
  have hta : ∀ W, (Instr.typeAssert (.iface 84 (.agg #[.int .i64 k])) 20 84 true).run Tryd.prog W = .ok (.tuple #[.agg #[.int .i64 k], .bool true]) W := fun W => by kernel_rfl
  go_enter Tryd.func39, Tryd.ntmps39
  go_wp2_with fail
  go_ret
  exact ⟨rfl, rfl⟩
end Go.Proofs.YtglicojojpggmaaDoor
