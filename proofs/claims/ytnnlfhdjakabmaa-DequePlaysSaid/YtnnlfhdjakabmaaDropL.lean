/- What stays when texts are dropped. -/
import Derived.Test.YtnnlfhdjakabmaaBase
namespace Go.Proofs.Ytnnlfhdjakabmaa
open Go Go.RowKit
/-- May one more be dropped? -/
def wanted (cnt : Int) (d : Nat) : Bool := decide (cnt = 0) || (decide (0 < cnt) && decide ((d : Int) < cnt)) || (decide (cnt < 0) && decide (cnt < -(d : Int)))
def dropStep (cnt : Int) (t : ByteArray) (st : List ByteArray × Nat) (s : ByteArray) : List ByteArray × Nat := if s = t ∧ wanted cnt st.2 = true then (st.1, st.2 + 1) else (st.1 ++ [s], st.2)
def dropSt (cnt : Int) (t : ByteArray) (l : List ByteArray) : List ByteArray × Nat := l.foldl (dropStep cnt t) ([], 0)
theorem dropSt_snoc (cnt : Int) (t : ByteArray) (l : List ByteArray) (s : ByteArray) : dropSt cnt t (l ++ [s]) = dropStep cnt t (dropSt cnt t l) s := by simp [dropSt]
theorem dropSt_len (cnt : Int) (t : ByteArray) (l : List ByteArray) : (dropSt cnt t l).1.length + (dropSt cnt t l).2 = l.length := by
  have key : ∀ (l : List ByteArray) (st : List ByteArray × Nat), (l.foldl (dropStep cnt t) st).1.length + (l.foldl (dropStep cnt t) st).2 = st.1.length + st.2 + l.length := by
    intro l
    induction l with
    | nil => simp
    | cons s l ih =>
      intro st
      rw [List.foldl_cons, ih]
      unfold dropStep
      split <;> simp <;> omega
  have := key l ([], 0)
  simpa [dropSt] using this
/-- What stays. -/
def dropL (cnt : Int) (t : ByteArray) (l : List ByteArray) : List ByteArray := if cnt < 0 then (dropSt cnt t l.reverse).1.reverse else (dropSt cnt t l).1
/-- How many were dropped. -/
def dropN (cnt : Int) (t : ByteArray) (l : List ByteArray) : Nat := if cnt < 0 then (dropSt cnt t l.reverse).2 else (dropSt cnt t l).2
theorem dropL_len (cnt : Int) (t : ByteArray) (l : List ByteArray) : (dropL cnt t l).length + dropN cnt t l = l.length := by
  unfold dropL dropN
  split
  · have := dropSt_len cnt t l.reverse; simp at this ⊢; omega
  · exact dropSt_len cnt t l
end Go.Proofs.Ytnnlfhdjakabmaa
