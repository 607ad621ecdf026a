/- An instruction, by definition: as the program answers. -/
import Derived.Test.YtccofgdcpmplmaaGreatDoorInA
import Derived.Test.YtccofgdcpmplmaaGreatDoorInC
import Derived.Test.YtccofgdcpmplmaaGreatDoorInE
import Derived.Test.YtccofgdcpmplmaaGreatDoorInG
import Derived.Test.YtccofgdcpmplmaaGreatDoorIns
namespace Go.Proofs.YtccofgdcpmplmaaGreatDoor
open Go Go.RowKit Go.Shelf
theorem instr_any (g : Pg) (p : Pr) (x : Ins) (w : World) (hg : g.at w) (hf : g.fit) (hp : p.mid) :
    Calls Tryz.prog 20 #[.agg g.vals, .agg p.vals, .agg x.vals] w fun e w' => e = .returned (.bool (mayB g p x)) ∧ Below w.heap.size w w' := by
  obtain ⟨op, a, b, c⟩ := x
  by_cases h1 : op < 1
  · have e : mayB g p ⟨op, a, b, c⟩ = false := by
      unfold mayB
      rw [show decide (1 ≤ op) = false from decide_eq_false (by omega)]
      rfl
    rw [e]
    exact in_low g p op a b c w h1
  by_cases h2 : 35 < op
  · have e : mayB g p ⟨op, a, b, c⟩ = false := by
      unfold mayB
      rw [show decide (op ≤ 35) = false from decide_eq_false (by omega)]
      simp
    rw [e]
    exact in_high g p op a b c w h2
  have h3 : op = 1 ∨ op = 2 ∨ op = 3 ∨ op = 4 ∨ op = 5 ∨ op = 6 ∨ op = 7 ∨ op = 8 ∨ op = 9 ∨ op = 10 ∨ op = 11 ∨ op = 12 ∨ op = 13 ∨ op = 14 ∨ op = 15 ∨ op = 16 ∨ op = 17 ∨ op = 18 ∨ op = 19 ∨ op = 20 ∨ op = 21 ∨ op = 22 ∨ op = 23 ∨ op = 24 ∨ op = 25 ∨ op = 26 ∨ op = 27 ∨ op = 28 ∨ op = 29 ∨ op = 30 ∨ op = 31 ∨ op = 32 ∨ op = 33 ∨ op = 34 ∨ op = 35 := by omega
  clear h1 h2
  rcases h3 with rfl | rfl | rfl | rfl | rfl | rfl | rfl | rfl | rfl | rfl | rfl | rfl | rfl | rfl | rfl | rfl | rfl | rfl | rfl | rfl | rfl | rfl | rfl | rfl | rfl | rfl | rfl | rfl | rfl | rfl | rfl | rfl | rfl | rfl | rfl
  · rw [← is_1]
    exact in_1 g p a b c w
  · rw [← is_2]
    exact in_2 g p a b c w
  · rw [← is_3]
    exact in_3 g p a b c w
  · rw [← is_4]
    exact in_4 g p a b c w
  · rw [← is_5]
    exact in_5 g p a b c w
  · rw [← is_6]
    exact in_6 g p a b c w
  · rw [← is_7]
    exact in_7 g p a b c w
  · rw [← is_8]
    exact in_8 g p a b c w
  · rw [← is_9]
    exact in_9 g p a b c w
  · rw [← is_10]
    exact in_10 g p a b c w
  · rw [← is_11]
    exact in_11 g p a b c w
  · rw [← is_12]
    exact in_12 g p a b c w
  · rw [← is_13]
    exact in_13 g p a b c w
  · rw [← is_14]
    exact in_14 g p a b c w
  · rw [← is_15]
    exact in_15 g p a b c w
  · rw [← is_16]
    exact in_16 g p a b c w
  · rw [← is_17]
    exact in_17 g p a b c w
  · rw [← is_18]
    exact in_18 g p a b c w
  · rw [← is_19]
    exact in_19 g p a b c w
  · rw [← is_20]
    exact in_20 g p a b c w
  · rw [← is_21]
    exact in_21 g p a b c w
  · rw [← is_22]
    exact in_22 g p a b c w
  · rw [← is_23]
    exact in_23 g p a b c w
  · rw [← is_24]
    exact in_24 g p a b c w
  · rw [← is_25]
    exact in_25 g p a b c w
  · rw [← is_26]
    exact in_26 g p a b c w
  · rw [← is_27]
    exact in_27 g p a b c w
  · rw [← is_28]
    exact in_28 g p a b c w
  · rw [← is_29]
    exact in_29 g p a b c w
  · rw [← is_30]
    exact in_30 g p a b c w hp.r0 hp.r1
  · rw [← is_31]
    exact in_31 g p a b c w hp.r0 hp.r1
  · rw [← is_32]
    exact in_32 g p a b c w hg hf hp.r0 hp.r1
  · rw [← is_33]
    exact in_33 g p a b c w hg hf hp.r0 hp.r1
  · rw [← is_34]
    exact in_34 g p a b c w
  · rw [← is_35]
    exact in_35 g p a b c w
end Go.Proofs.YtccofgdcpmplmaaGreatDoor
