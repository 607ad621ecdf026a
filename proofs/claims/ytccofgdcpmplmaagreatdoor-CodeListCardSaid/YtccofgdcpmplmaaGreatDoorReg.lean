/- Registers and places, by definition. -/
import Derived.Test.YtccofgdcpmplmaaGreatDoorMay
namespace Go.Proofs.YtccofgdcpmplmaaGreatDoor
open Go Go.RowKit Go.Shelf
def rgB (p : Pr) (z : Int) : Bool := decide (0 ≤ z) && decide (z < p.regs)
def plB (p : Pr) (z : Int) : Bool := decide (0 ≤ z) && decide (z < (p.code.length : Int))
set_option maxRecDepth 100000 in
theorem reg_any (p : Pr) (z : Int) (w : World) : Calls Tryz.prog 33 #[.agg p.vals, .int .i64 z] w fun e w' => e = .returned (.bool (rgB p z)) ∧ Below w.heap.size w w' := by
  have HB := Lib.hid (below_new w (.cells p.vals 39))
  have HX := Lib.hid (heap_alloc_new w (.cells p.vals 39))
  unfold rgB
  by_cases h1 : 0 ≤ z
  · have d1 : decide (0 ≤ z) = true := decide_eq_true h1
    rw [d1]
    simp only [Bool.true_and]
    clear h1
    go_enter Tryz.func33, Tryz.ntmps33
    go_upto_region 1 with (fail)
    generalize w.alloc (.cells p.vals 39) = w1 at *
    obtain ⟨x0, x1, x2⟩ := cell3 HX.out
    go_wp2_with fail
    go_ret
    exact ⟨rfl, HB.out⟩
  · have d1 : decide (0 ≤ z) = false := decide_eq_false h1
    rw [d1]
    simp only [Bool.false_and]
    clear h1
    go_enter Tryz.func33, Tryz.ntmps33
    go_upto_region 1 with (fail)
    generalize w.alloc (.cells p.vals 39) = w1 at *
    obtain ⟨x0, x1, x2⟩ := cell3 HX.out
    go_wp2_with fail
    go_ret
    exact ⟨rfl, HB.out⟩
set_option maxRecDepth 100000 in
theorem place_any (p : Pr) (z : Int) (w : World) : Calls Tryz.prog 34 #[.agg p.vals, .int .i64 z] w fun e w' => e = .returned (.bool (plB p z)) ∧ Below w.heap.size w w' := by
  have HB := Lib.hid (below_new w (.cells p.vals 39))
  have HX := Lib.hid (heap_alloc_new w (.cells p.vals 39))
  unfold plB
  by_cases h1 : 0 ≤ z
  · have d1 : decide (0 ≤ z) = true := decide_eq_true h1
    rw [d1]
    simp only [Bool.true_and]
    clear h1
    go_enter Tryz.func34, Tryz.ntmps34
    go_upto_region 1 with (fail)
    generalize w.alloc (.cells p.vals 39) = w1 at *
    obtain ⟨x0, x1, x2⟩ := cell3 HX.out
    go_wp2_with fail
    go_ret
    exact ⟨rfl, HB.out⟩
  · have d1 : decide (0 ≤ z) = false := decide_eq_false h1
    rw [d1]
    simp only [Bool.false_and]
    clear h1
    go_enter Tryz.func34, Tryz.ntmps34
    go_upto_region 1 with (fail)
    generalize w.alloc (.cells p.vals 39) = w1 at *
    obtain ⟨x0, x1, x2⟩ := cell3 HX.out
    go_wp2_with fail
    go_ret
    exact ⟨rfl, HB.out⟩
end Go.Proofs.YtccofgdcpmplmaaGreatDoor
