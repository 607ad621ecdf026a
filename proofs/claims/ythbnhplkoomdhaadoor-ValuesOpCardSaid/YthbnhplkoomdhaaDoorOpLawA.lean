/- Two heaps of some cells; what both are to tell. -/
import Derived.Test.YthbnhplkoomdhaaDoorRefD
import Derived.Test.YthbnhplkoomdhaaDoorOpArith
namespace Go.Proofs.YthbnhplkoomdhaaDoor
open Go Go.RowKit
/-- The cells of a heap: none where less than none are asked for. -/
def capI (n : Int) : Int := if n < 0 then 0 else n
theorem capI_in (n : Int) (h : n ≤ 1000) : 0 ≤ capI n ∧ capI n ≤ 1000 := by unfold capI; split <;> omega
theorem new_neg (n : Int) (w : World) (hn : n < 0) :
    Calls Tryd.prog 8 #[.int .i64 n] w fun e w' => ∃ H ob, e = .returned (.pointer (some ⟨H, 0, none⟩)) ∧ HeapAt w' H ob (.slice none 0 0) 0 0 ∧ Below w.heap.size w w' ∧ w.heap.size ≤ H := by
  have hmx : max n 0 = 0 := by omega
  go_enter Tryd.func8, Tryd.ntmps8
  go_wp2_with fail
  refine (ops_any w).mono ?_
  rintro e w1 ⟨ob, rfl, ho, hb1⟩
  have hrow : (w1.alloc (.cells #[.slice none 0 0, .int .i64 0, .int .i64 0, .map (some ob)] 51)).heap[w1.heap.size]? = some (.cells #[.slice none 0 0, .int .i64 0, .int .i64 0, .map (some ob)] 51 (0, 0)) := newc w1 _
  have ho2 : OpsAt (w1.alloc (.cells #[.slice none 0 0, .int .i64 0, .int .i64 0, .map (some ob)] 51)) ob := ho.below ((Below.refl _ _).alloc (Nat.le_refl _) _)
  have hb2 : Below w.heap.size w (w1.alloc (.cells #[.slice none 0 0, .int .i64 0, .int .i64 0, .map (some ob)] 51)) := hb1.alloc hb1.size _
  have HR := Lib.hid hrow
  have HO := Lib.hid ho2
  clear hrow ho ho2
  go_wp2
  go_ret
  exact ⟨_, ob, rfl, ⟨HR.out, HO.out⟩, hb2, hb1.size⟩

theorem new_cap (n : Int) (w : World) (hn : n ≤ 1000) :
    Calls Tryd.prog 8 #[.int .i64 n] w fun e w' => ∃ H ob, e = .returned (.pointer (some ⟨H, 0, none⟩)) ∧ HeapAt w' H ob (.slice none 0 0) (capI n) 0 ∧ Below w.heap.size w w' ∧ w.heap.size ≤ H := by
  unfold capI
  split
  · exact new_neg n w (by omega)
  · obtain ⟨m, rfl⟩ : ∃ m : Nat, n = (m : Int) := ⟨n.toNat, by omega⟩
    exact new_any m w (by omega)
theorem refnew_neg (n : Int) (w : World) (hn : n < 0) :
    Calls Tryd.prog 9 #[.int .i64 n] w fun e w' => e = .returned (.pointer (some ⟨w.heap.size, 0, none⟩)) ∧ w'.heap[w.heap.size]? = some (.cells #[.slice none 0 0, .int .i64 0, .int .i64 0] 38 (0, 0)) ∧ Below w.heap.size w w' := by
  have hmx : max n 0 = 0 := by omega
  have HR := Lib.hid (newc w (.cells #[.slice none 0 0, .int .i64 0, .int .i64 0] 38))
  have HB := Lib.hid ((Below.refl w.heap.size w).alloc (Nat.le_refl _) (.cells #[.slice none 0 0, .int .i64 0, .int .i64 0] 38))
  go_enter Tryd.func9, Tryd.ntmps9
  go_wp2
  go_ret
  exact ⟨rfl, HR.out, HB.out⟩
theorem refnew_pos (n : Nat) (w : World) (hn : n ≤ 1000) :
    Calls Tryd.prog 9 #[.int .i64 n] w fun e w' => e = .returned (.pointer (some ⟨w.heap.size, 0, none⟩)) ∧ w'.heap[w.heap.size]? = some (.cells #[.slice none 0 0, .int .i64 n, .int .i64 0] 38 (0, 0)) ∧ Below w.heap.size w w' := by
  have HR := Lib.hid (newc w (.cells #[.slice none 0 0, .int .i64 n, .int .i64 0] 38))
  have HB := Lib.hid ((Below.refl w.heap.size w).alloc (Nat.le_refl _) (.cells #[.slice none 0 0, .int .i64 n, .int .i64 0] 38))
  go_enter Tryd.func9, Tryd.ntmps9
  go_wp2
  go_ret
  exact ⟨rfl, HR.out, HB.out⟩
theorem refnew_cap (n : Int) (w : World) (hn : n ≤ 1000) :
    Calls Tryd.prog 9 #[.int .i64 n] w fun e w' => e = .returned (.pointer (some ⟨w.heap.size, 0, none⟩)) ∧ w'.heap[w.heap.size]? = some (.cells #[.slice none 0 0, .int .i64 (capI n), .int .i64 0] 38 (0, 0)) ∧ Below w.heap.size w w' := by
  unfold capI
  split
  · exact refnew_neg n w (by omega)
  · obtain ⟨m, rfl⟩ : ∃ m : Nat, n = (m : Int) := ⟨n.toNat, by omega⟩
    exact refnew_pos m w (by omega)
/-- What an operator tells of two values, and what it takes. -/
def OpP (op t t' : Array UInt8) (k n k' n' c s : Int) (V why : Value) : Prop := ∀ W H ob, HeapAt W H ob (.slice none 0 0) c 0 → TAB W →
  Calls Tryd.prog 10 #[.pointer (some ⟨H, 0, none⟩), .string { data := op }, .agg #[.int .i64 k, .int .i64 n, .string { data := t }], .agg #[.int .i64 k', .int .i64 n', .string { data := t' }]] W fun e w' => e = .returned (.tuple #[V, why]) ∧ w'.heap[H]? = some (.cells #[.slice none 0 0, .int .i64 c, .int .i64 s, .map (some ob)] 51 (0, 0)) ∧ KB H W w'
def OpR (op t t' : Array UInt8) (k n k' n' c s : Int) (V why : Value) : Prop := ∀ W G, W.heap[G]? = some (.cells #[.slice none 0 0, .int .i64 c, .int .i64 0] 38 (0, 0)) → TAB W →
  Calls Tryd.prog 11 #[.pointer (some ⟨G, 0, none⟩), .string { data := op }, .agg #[.int .i64 k, .int .i64 n, .string { data := t }], .agg #[.int .i64 k', .int .i64 n', .string { data := t' }]] W fun e w' => e = .returned (.tuple #[V, why]) ∧ w'.heap[G]? = some (.cells #[.slice none 0 0, .int .i64 c, .int .i64 s] 38 (0, 0)) ∧ KB G W w'
end Go.Proofs.YthbnhplkoomdhaaDoor
