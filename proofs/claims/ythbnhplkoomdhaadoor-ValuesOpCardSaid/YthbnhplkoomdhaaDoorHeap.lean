/- A heap of values, what its functions tell of numbers. -/
import Derived.Test.YthbnhplkoomdhaaDoorQuot
import Derived.Below
import Derived.Laws.StructEq
namespace Go.Proofs.YthbnhplkoomdhaaDoor
open Go Go.RowKit
abbrev valI (n : Int) : Value := .agg #[.int .i64 2, .int .i64 n, .string { data := #[] }]
abbrev valNo : Value := .agg #[.int .i64 0, .int .i64 0, .string { data := #[] }]
theorem size24 : (Tryd.prog.info? 24).map (·.size) = some 3 := by kernel_rfl
theorem res13 (tmps : Array Value) (w : World) (g : Nat) (cs : Array Value) (hp : tmps.getD 2 undef = .pointer (some ⟨g, 0, none⟩)) (hg : w.heap[g]? = some (.cells cs 24 (0, 0))) (hs : cs.size = 3 := by rfl) :
    (results Tryd.f13 tmps).run Tryd.prog w = .ok (.agg cs) w :=
  results_cell_row (P := Tryd.prog) (p := 2) (ty := 24) Tryd.results13 tmps w g 24 cs (0, 0) _ hp hg Tryd.underlying24 rfl (by rw [size24, hs])
theorem newc (w : World) (o : Obj) : (w.alloc o).heap[w.heap.size]? = some o := by
  show (w.heap.push o)[w.heap.size]? = some o
  simp
theorem int_any (n : Int) (w : World) :
    Calls Tryd.prog 13 #[.int .i64 n] w fun e w' => e = .returned (valI n) ∧ Below w.heap.size w w' := by
  go_enter Tryd.func13, Tryd.ntmps13
  go_wp2
  exact bodyPost_ret (v := valI n) (res13 _ _ w.heap.size _ rfl (newc w _)) rfl ⟨rfl, (Below.refl _ _).alloc (Nat.le_refl _) _⟩
theorem check_int (n : Int) (w : World) :
    Calls Tryd.prog 20 #[valI n] w fun e w' => e = .returned (.bool true) ∧ Below w.heap.size w w' := by
  go_enter Tryd.func20, Tryd.ntmps20
  go_wp2
  go_ret
  exact ⟨rfl, (Below.refl _ _).alloc (Nat.le_refl _) _⟩
theorem eq47 (ob : Nat) (w : World) : (binOp .eql 47 (.map (some ob)) (.map none)).run Tryd.prog w = .ok (.bool false) w := by
  have h : ∀ n, (Op.equalIn (n + 1) 47 (.map (some ob)) (.map none)).run Tryd.prog w = .ok false w := fun n => by
    unfold Op.equalIn
    simp [run_underlying Tryd.underlying47, Result.andThen]
  have h2 : (Op.equal 47 (.map (some ob)) (.map none)).run Tryd.prog w = .ok false w := h 9999
  simp only [binOp]
  simp [h2]
theorem eq53 (f : Fn) (a b : Array Value) (w : World) : (binOp .eql 53 (.func f a b) .nilFunc).run Tryd.prog w = .ok (.bool false) w := by
  have h : ∀ n, (Op.equalIn (n + 1) 53 (.func f a b) .nilFunc).run Tryd.prog w = .ok false w := fun n => by
    unfold Op.equalIn
    simp [run_underlying Tryd.underlying53, Result.andThen]
  have h2 : (Op.equal 53 (.func f a b) .nilFunc).run Tryd.prog w = .ok false w := h 9999
  simp only [binOp]
  simp [h2]
set_option maxRecDepth 10000 in
theorem none_heap (H ob : Nat) (tb : Value) (c s : Int) (w : World) (h : w.heap[H]? = some (.cells #[tb, .int .i64 c, .int .i64 s, .map (some ob)] 51 (0, 0))) :
    Calls Tryd.prog 19 #[.pointer (some ⟨H, 0, none⟩)] w fun e w' => e = .returned (.bool false) ∧ w' = w := by
  have h3 : w.cell? ⟨H, 3, none⟩ = some (.map (some ob)) := by rw [cell_of_row w H 3 _ 51 (0, 0) h]; rfl
  have he := eq47 ob w
  go_enter Tryd.func19, Tryd.ntmps19
  go_wp2
  go_ret
  exact ⟨rfl, rfl⟩
end Go.Proofs.YthbnhplkoomdhaaDoor
