/- Small functions of a keyspace. -/
import Derived.Test.YthffghegdblljaaGreatOpt
import Derived.Laws.Tables
import Derived.StillTailTactics
namespace Go.Proofs.YthffghegdblljaaGreat
open Go Go.RowKit
attribute [local go_sem] Oper.semAt_some
/-- A keyspace's box. -/
def KB (W : World) (g m : Nat) : Prop := W.heap[g]? = some (.cells #[.map (some m)] 74 (0, 0))
theorem cell1 {W : World} {g : Nat} {a : Value} {t : TypeId} (h : W.heap[g]? = some (.cells #[a] t (0, 0))) : W.cell? ⟨g, 0, none⟩ = some a := by
  simp only [World.cell?, h]; rfl
theorem mk72 (w : World) : (Instr.makeMap 72 none).run Tryz.prog w = .ok (.map (some w.heap.size)) (w.alloc (.map #[] 0)) := rfl
theorem eqs23 (w : World) : (binOp .eql 23 (.slice none 0 0) (.slice none 0 0)).run Tryz.prog w = .ok (.bool true) w := by kernel_rfl
theorem eqs24 (w : World) : (binOp .eql 24 (.slice none 0 0) (.slice none 0 0)).run Tryz.prog w = .ok (.bool true) w := by kernel_rfl
theorem eqs25 (w : World) : (binOp .eql 25 (.slice none 0 0) (.slice none 0 0)).run Tryz.prog w = .ok (.bool true) w := by kernel_rfl
theorem eqp33 (w : World) : (binOp .eql 33 (.pointer none) (.pointer none)).run Tryz.prog w = .ok (.bool true) w := by kernel_rfl
theorem eqq33 (a : Addr) (w : World) : (binOp .eql 33 (.pointer (some a)) (.pointer none)).run Tryz.prog w = .ok (.bool false) w := by kernel_rfl
theorem eqp96 (w : World) : (binOp .eql 96 (.pointer none) (.pointer none)).run Tryz.prog w = .ok (.bool true) w := by kernel_rfl
theorem eqq96 (a : Addr) (w : World) : (binOp .eql 96 (.pointer (some a)) (.pointer none)).run Tryz.prog w = .ok (.bool false) w := by kernel_rfl
theorem eqm72 (w : World) : (binOp .eql 72 (.map none) (.map none)).run Tryz.prog w = .ok (.bool true) w := by kernel_rfl
theorem eqn72 (a : Nat) (w : World) : (binOp .eql 72 (.map (some a)) (.map none)).run Tryz.prog w = .ok (.bool false) w := by kernel_rfl
set_option maxRecDepth 200000 in
theorem new_keys (w : World) : Calls Tryz.prog 35 #[] w fun e w' => e = .returned (.pointer (some ⟨w.heap.size + 1, 0, none⟩)) ∧ w' = (w.alloc (.map #[] 0)).alloc (.cells #[.map (some w.heap.size)] 74) := by
  have hm := mk72
  go_enter Tryz.func35, Tryz.ntmps35
  go_wp2
  go_ret
  exact ⟨rfl, rfl⟩
set_option maxRecDepth 200000 in
theorem none_nil (w : World) : Calls Tryz.prog 54 #[.pointer none] w fun e w' => e = .returned (.bool true) ∧ w = w' := by
  have f0 := eqp33
  have f1 := eqq33
  have f2 := eqm72
  have f3 := eqn72
  go_enter Tryz.func54, Tryz.ntmps54
  go_wp2
  go_ret
  exact ⟨rfl, rfl⟩
set_option maxRecDepth 200000 in
theorem none_zero (g : Nat) (w : World) (h : w.heap[g]? = some (.cells #[.map none] 74 (0, 0))) : Calls Tryz.prog 54 #[.pointer (some ⟨g, 0, none⟩)] w fun e w' => e = .returned (.bool true) ∧ w = w' := by
  have c := cell1 h
  clear h
  have f0 := eqp33
  have f1 := eqq33
  have f2 := eqm72
  have f3 := eqn72
  go_enter Tryz.func54, Tryz.ntmps54
  go_wp2
  go_ret
  exact ⟨rfl, rfl⟩
set_option maxRecDepth 200000 in
theorem none_any (g m : Nat) (w : World) (h : KB w g m) : Calls Tryz.prog 54 #[.pointer (some ⟨g, 0, none⟩)] w fun e w' => e = .returned (.bool false) ∧ w = w' := by
  have c := cell1 h
  clear h
  have f0 := eqp33
  have f1 := eqq33
  have f2 := eqm72
  have f3 := eqn72
  go_enter Tryz.func54, Tryz.ntmps54
  go_wp2
  go_ret
  exact ⟨rfl, rfl⟩
/-- A thing's ten cells. -/
abbrev thV (k : Int) (t : ByteArray) (hu : Bool) (u : Int) : Array Value := #[.int .i64 k, .string t, .slice none 0 0, .slice none 0 0, .int .i64 0, .slice none 0 0, .map none, .bool hu, .int .i64 u, .bool false]
def TH (W : World) (g : Nat) (k : Int) (t : ByteArray) : Prop := W.heap[g]? = some (.cells (thV k t false 0) 116 (0, 0))
theorem TH.cells {W : World} {g : Nat} {k : Int} {t : ByteArray} (h : TH W g k t) : W.cell? ⟨g, 0, none⟩ = some (.int .i64 k) ∧ W.cell? ⟨g, 1, none⟩ = some (.string t) ∧ W.cell? ⟨g, 2, none⟩ = some (.slice none 0 0) ∧ W.cell? ⟨g, 3, none⟩ = some (.slice none 0 0) ∧ W.cell? ⟨g, 4, none⟩ = some (.int .i64 0) ∧ W.cell? ⟨g, 5, none⟩ = some (.slice none 0 0) ∧ W.cell? ⟨g, 7, none⟩ = some (.bool false) ∧ W.cell? ⟨g, 8, none⟩ = some (.int .i64 0) := by
  unfold TH at h
  refine ⟨?_, ?_, ?_, ?_, ?_, ?_, ?_, ?_⟩ <;> (simp only [World.cell?, h]; rfl)
theorem TH.drew {W : World} {g : Nat} {k : Int} {t : ByteArray} (h : TH W g k t) : TH W.drew g k t := h
set_option maxRecDepth 200000 in
theorem gone_th (g : Nat) (k : Int) (t : ByteArray) (n : Int) (w : World) (h : TH w g k t) : Calls Tryz.prog 65 #[.pointer (some ⟨g, 0, none⟩), .int .i64 n] w fun e w' => e = .returned (.bool false) ∧ w = w' := by
  obtain ⟨c0, c1, c2, c3, c4, c5, c7, c8⟩ := h.cells
  clear h
  go_enter Tryz.func65, Tryz.ntmps65
  go_wp2
  go_ret
  exact ⟨rfl, rfl⟩
set_option maxRecDepth 200000 in
theorem clone_p (w : World) : Calls Tryz.prog 77 #[.slice none 0 0] w fun e w' => e = .returned (.slice none 0 0) ∧ w = w' := by
  have f0 := eqs23
  go_enter Tryz.func77, Tryz.ntmps77
  go_wp2
  go_ret
  exact ⟨rfl, rfl⟩
set_option maxRecDepth 200000 in
theorem clone_s (w : World) : Calls Tryz.prog 78 #[.slice none 0 0] w fun e w' => e = .returned (.slice none 0 0) ∧ w = w' := by
  have f0 := eqs24
  go_enter Tryz.func78, Tryz.ntmps78
  go_wp2
  go_ret
  exact ⟨rfl, rfl⟩
set_option maxRecDepth 200000 in
theorem clone_r (w : World) : Calls Tryz.prog 79 #[.slice none 0 0] w fun e w' => e = .returned (.slice none 0 0) ∧ w = w' := by
  have f0 := eqs25
  go_enter Tryz.func79, Tryz.ntmps79
  go_wp2
  go_ret
  exact ⟨rfl, rfl⟩
set_option maxRecDepth 200000 in
theorem items_th (g : Nat) (k : Int) (t : ByteArray) (w : World) (h : TH w g k t) : Calls Tryz.prog 111 #[.pointer (some ⟨g, 0, none⟩)] w fun e w' => e = .returned (.slice none 0 0) ∧ ∃ q, w' = w.drewN q := by
  obtain ⟨c0, c1, c2, c3, c4, c5, c7, c8⟩ := h.cells
  clear h
  go_enter Tryz.func111, Tryz.ntmps111
  go_wp2
  go_quiet (fail)
  go_wp2
  go_ret
  exact ⟨rfl, _, rfl⟩
set_option maxRecDepth 200000 in
theorem nothing_text (g : Nat) (t : ByteArray) (w : World) (h : TH w g 1 t) : Calls Tryz.prog 106 #[.pointer (some ⟨g, 0, none⟩)] w fun e w' => e = .returned (.bool false) ∧ ∃ q, w' = w.drewN q := by
  obtain ⟨c0, c1, c2, c3, c4, c5, c7, c8⟩ := h.cells
  clear h
  go_enter Tryz.func106, Tryz.ntmps106
  go_wp2
  go_quiet (fail)
  go_wp2
  go_ret
  exact ⟨rfl, _, rfl⟩
theorem one10 (k : Int) (t : ByteArray) (hu : Bool) (u : Int) : (thV k t hu u).all (·.oneCell') = true := by simp [thV, Value.oneCell']
abbrev efV (o : Int) (k n t : ByteArray) (i : Int) : Array Value := #[.int .i64 o, .string k, .string n, .string t, .int .i64 i]
set_option maxRecDepth 200000 in
theorem become_any (g : Nat) (old : Array Value) (o : Int) (k n t : ByteArray) (i : Int) (w : World) (h : w.heap[g]? = some (.cells old 116 (0, 0))) (hs : old.size = 10) : Calls Tryz.prog 82 #[.pointer (some ⟨g, 0, none⟩), .agg (efV o k n t i)] w fun e w' => e = .returned (.tuple #[]) ∧ w' = (w.alloc (.cells (efV o k n t i) 50)).setRow g (thV 1 t false 0) := by
  have hl := (Array.getElem?_eq_some_iff.1 h).1
  have H1 := Lib.hid ((Below.heap_alloc w (.cells (efV o k n t i) 50) g hl).trans h)
  have size116 : (Tryz.prog.info? 116).map (·.size) = some 10 := by kernel_rfl
  have SZ := Lib.hid size116
  clear h hl size116
  go_enter Tryz.func82, Tryz.ntmps82
  go_wp2_with (refine wpList_store_row rfl 116 (.tmp 8) (.tmp 7) rfl g (thV 1 t false 0) rfl rfl 116 old H1.out SZ.out hs (one10 1 t false 0) ?_)
  go_end0
  exact ⟨rfl, rfl⟩
end Go.Proofs.YthffghegdblljaaGreat
