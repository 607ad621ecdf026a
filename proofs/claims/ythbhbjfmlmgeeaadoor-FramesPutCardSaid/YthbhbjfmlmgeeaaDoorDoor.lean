/- How 'Read' ends. -/
import Derived.Test.YthbhbjfmlmgeeaaDoorCatch
import Derived.Test.YthbhbjfmlmgeeaaDoorOwn
namespace Go.Proofs.YthbhbjfmlmgeeaaDoor
open Go Go.RowKit
def ReadEnd (w : World) (l : List UInt8) (e : Ending) (w' : World) : Prop := ∃ v ls, e = .returned (.tuple #[v, .int .i64 ((readL l).2.1 : Nat), .int .i64 ((readL l).2.2 : Nat)]) ∧ (readL l).1 = bl ls ∧ w'.ownsRow w.heap.size 9 1 v ls.length (cellsS ls) ∧ Below w.heap.size w w'
abbrev D3 (g : Nat) : Deferred := { target := .fn (.func 31) #[.pointer (some ⟨g, 0, none⟩), .pointer (some ⟨g + 1, 0, none⟩), .pointer (some ⟨g + 2, 0, none⟩)], args := #[] }
theorem res17 (tmps : Array Value) (g : Nat) (x y z : Value) (W : World) (t2 : tmps.getD 2 undef = .pointer (some ⟨g, 0, none⟩)) (t3 : tmps.getD 3 undef = .pointer (some ⟨g + 1, 0, none⟩)) (t4 : tmps.getD 4 undef = .pointer (some ⟨g + 2, 0, none⟩))
    (c0 : W.cell? ⟨g, 0, none⟩ = some x) (c1 : W.cell? ⟨g + 1, 0, none⟩ = some y) (c2 : W.cell? ⟨g + 2, 0, none⟩ = some z) : (results Tryd.f17 tmps).run Tryd.prog W = .ok (.tuple #[x, y, z]) W := by
  simp only [Array.getD_eq_getD_getElem?] at t2 t3 t4
  simp [results, Tryd.results17, t2, t3, t4, c0, c1, c2, go_sem]
theorem door_torn (w W : World) (l : List UInt8) (k : Nat) (x0 x1 x2 : Value) (tmps : Array Value) (t2 : tmps.getD 2 undef = .pointer (some ⟨w.heap.size, 0, none⟩)) (t3 : tmps.getD 3 undef = .pointer (some ⟨w.heap.size + 1, 0, none⟩)) (t4 : tmps.getD 4 undef = .pointer (some ⟨w.heap.size + 2, 0, none⟩))
    (h0 : W.heap[w.heap.size]? = some (.cells #[x0] 22 (0, 0))) (h1 : W.heap[w.heap.size + 1]? = some (.cells #[x1] 3 (0, 0))) (h2 : W.heap[w.heap.size + 2]? = some (.cells #[x2] 26 (0, 0))) (hb : Below w.heap.size w W) (hr : readL l = ([], 0, k)) :
    bodyPostD Tryd.prog Tryd.f17 (ReadEnd w l) (.panic (torn k)) { tmps := tmps, defers := [D3 w.heap.size] } W := by
  refine leaves_cons (f := 31) (args := #[.pointer (some ⟨w.heap.size, 0, none⟩), .pointer (some ⟨w.heap.size + 1, 0, none⟩), .pointer (some ⟨w.heap.size + 2, 0, none⟩)]) (by simp) (by simp [go_sem]) ?_
  refine (catch_torn w.heap.size k [] x0 x1 x2 W h0 h1 h2).mono ?_
  rintro e u' w'' ⟨rfl, rfl, r0, r1, r2, hb'⟩
  refine ⟨.tuple #[.slice none 0 0, .int .i64 0, .int .i64 k], res17 tmps w.heap.size _ _ _ w'' t2 t3 t4 (cell_of_one r0) (cell_of_one r1) (cell_of_one r2), .slice none 0 0, [], ?_, ?_, World.ownsRow_nil _ _ _ _, hb.trans hb'⟩
  · rw [hr]; rfl
  · rw [hr]; rfl
theorem door_ret (w W : World) (l : List UInt8) (v : Value) (ls : List ByteArray) (tmps : Array Value) (t2 : tmps.getD 2 undef = .pointer (some ⟨w.heap.size, 0, none⟩)) (t3 : tmps.getD 3 undef = .pointer (some ⟨w.heap.size + 1, 0, none⟩)) (t4 : tmps.getD 4 undef = .pointer (some ⟨w.heap.size + 2, 0, none⟩))
    (n : Nat) (h0 : W.heap[w.heap.size]? = some (.cells #[v] 22 (0, 0))) (h1 : W.heap[w.heap.size + 1]? = some (.cells #[.int .i64 n] 3 (0, 0))) (h2 : W.heap[w.heap.size + 2]? = some (.cells #[.int .i64 0] 26 (0, 0))) (hb : Below w.heap.size w W) (hr : readL l = (bl ls, n, 0)) (ho : W.ownsRow w.heap.size 9 1 v ls.length (cellsS ls)) :
    bodyPostD Tryd.prog Tryd.f17 (ReadEnd w l) .ret { tmps := tmps, defers := [D3 w.heap.size] } W := by
  refine leaves_cons (f := 31) (args := #[.pointer (some ⟨w.heap.size, 0, none⟩), .pointer (some ⟨w.heap.size + 1, 0, none⟩), .pointer (some ⟨w.heap.size + 2, 0, none⟩)]) (by simp) (by simp [go_sem]) ?_
  refine (catch_idle w.heap.size W).mono ?_
  rintro e u' w'' ⟨rfl, rfl, rfl⟩
  refine ⟨.tuple #[v, .int .i64 n, .int .i64 0], res17 tmps w.heap.size _ _ _ w'' t2 t3 t4 (cell_of_one h0) (cell_of_one h1) (cell_of_one h2), v, ls, ?_, ?_, ho, hb⟩
  · rw [hr]; rfl
  · rw [hr]
end Go.Proofs.YthbhbjfmlmgeeaaDoor
