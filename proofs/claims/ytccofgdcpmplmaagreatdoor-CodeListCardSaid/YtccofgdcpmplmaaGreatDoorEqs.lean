/- Are two lists the same? -/
import Derived.Test.YtccofgdcpmplmaaGreatDoorData
import Derived.Deep.RegionHeld3
namespace Go.Proofs.YtccofgdcpmplmaaGreatDoor
open Go Go.RowKit
theorem bytes_dec (a b : ByteArray) : (a.toList == b.toList) = decide (a = b) := by
  by_cases h : a = b
  · subst h
    rw [bytes_eq]; simp
  · rw [bytes_ne h]; simp [h]
theorem cmp_ins (p q : Ins) (W : World) : (binOp BinOp.neq 42 (.agg p.vals) (.agg q.vals)).run Tryz.prog W = .ok (.bool (!decide (p = q))) W := by
  have h3 : decide (p = q) = (decide (p.op = q.op) && decide (p.a = q.a) && decide (p.b = q.b) && decide (p.c = q.c)) := by
    cases p; cases q
    simp [Bool.and_assoc]
  rw [h3]
  simp [go_sem]
  by_cases e1 : p.op = q.op <;> by_cases e2 : p.a = q.a <;> by_cases e3 : p.b = q.b <;> by_cases e4 : p.c = q.c <;> simp [e1, e2, e3, e4]
theorem cmp_int (p q : Int) (W : World) : (binOp BinOp.neq 2 (.int .i64 p) (.int .i64 q)).run Tryz.prog W = .ok (.bool (!decide (p = q))) W := by
  simp [go_sem]
  by_cases e1 : p = q <;> simp [e1]
theorem cmp_str (p q : ByteArray) (W : World) : (binOp BinOp.neq 9 (.string p) (.string q)).run Tryz.prog W = .ok (.bool (!decide (p = q))) W := by
  have h1 := bytes_dec p q
  simp [go_sem, h1]
theorem take_eq_next {α : Type} {a b : List α} {k : Nat} (ha : k < a.length) (hb : k < b.length) (h : a.take k = b.take k) (he : a[k] = b[k]) : a.take (k + 1) = b.take (k + 1) := by
  rw [List.take_succ_eq_append_getElem ha, List.take_succ_eq_append_getElem hb, h, he]
end Go.Proofs.YtccofgdcpmplmaaGreatDoor
