/- How 'Parse' ends. -/
import Derived.Test.YtglicojojpggmaaDoorCatch
namespace Go.Proofs.YtglicojojpggmaaDoor
open Go Go.RowKit
/-- What Parse answers: why not, the texts, how many bytes. -/
def ParseEnd (w : World) (R : Int × List ByteArray × Nat) (e : Ending) (w' : World) : Prop := ∃ v, e = .returned (.tuple #[v, .int .i64 (R.2.2 : Nat), .int .i64 R.1]) ∧ w'.ownsRow w.heap.size 9 1 v R.2.1.length (cellsS R.2.1) ∧ Below w.heap.size w w'
abbrev D3 (g : Nat) : Deferred := { target := .fn (.func 38) #[.pointer (some ⟨g, 0, none⟩), .pointer (some ⟨g + 1, 0, none⟩), .pointer (some ⟨g + 2, 0, none⟩)], args := #[] }
theorem res18 (tmps : Array Value) (g : Nat) (x y z : Value) (W : World) (t2 : tmps.getD 2 undef = .pointer (some ⟨g, 0, none⟩)) (t3 : tmps.getD 3 undef = .pointer (some ⟨g + 1, 0, none⟩)) (t4 : tmps.getD 4 undef = .pointer (some ⟨g + 2, 0, none⟩))
    (c0 : W.cell? ⟨g, 0, none⟩ = some x) (c1 : W.cell? ⟨g + 1, 0, none⟩ = some y) (c2 : W.cell? ⟨g + 2, 0, none⟩ = some z) : (results Tryd.f18 tmps).run Tryd.prog W = .ok (.tuple #[x, y, z]) W := by
  simp only [Array.getD_eq_getD_getElem?] at t2 t3 t4
  simp [results, Tryd.results18, t2, t3, t4, c0, c1, c2, go_sem]
theorem door_stop (w W : World) (k : Int) (hk : k ≠ 0) (x0 x1 x2 : Value) (tmps : Array Value) (t2 : tmps.getD 2 undef = .pointer (some ⟨w.heap.size, 0, none⟩)) (t3 : tmps.getD 3 undef = .pointer (some ⟨w.heap.size + 1, 0, none⟩)) (t4 : tmps.getD 4 undef = .pointer (some ⟨w.heap.size + 2, 0, none⟩))
    (h0 : W.heap[w.heap.size]? = some (.cells #[x0] 22 (0, 0))) (h1 : W.heap[w.heap.size + 1]? = some (.cells #[x1] 3 (0, 0))) (h2 : W.heap[w.heap.size + 2]? = some (.cells #[x2] 26 (0, 0))) (hb : Below w.heap.size w W) (R : Int × List ByteArray × Nat) (hr : R = (k, [], 0)) :
    bodyPostD Tryd.prog Tryd.f18 (ParseEnd w R) (.panic (stopP k)) { tmps := tmps, defers := [D3 w.heap.size] } W := by
  subst hr
  refine leaves_cons (f := 38) (args := #[.pointer (some ⟨w.heap.size, 0, none⟩), .pointer (some ⟨w.heap.size + 1, 0, none⟩), .pointer (some ⟨w.heap.size + 2, 0, none⟩)]) (by simp) (by simp [go_sem]) ?_
  refine (catch_stop w.heap.size k hk [] x0 x1 x2 W h0 h1 h2).mono ?_
  rintro e u' w'' ⟨rfl, rfl, r0, r1, r2, hb'⟩
  exact ⟨.tuple #[.slice none 0 0, .int .i64 0, .int .i64 k], res18 tmps w.heap.size _ _ _ w'' t2 t3 t4 (cell_one r0) (cell_one r1) (cell_one r2), .slice none 0 0, rfl, World.ownsRow_nil _ _ _ _, hb.trans hb'⟩
theorem door_ret (w W : World) (v : Value) (ls : List ByteArray) (tmps : Array Value) (t2 : tmps.getD 2 undef = .pointer (some ⟨w.heap.size, 0, none⟩)) (t3 : tmps.getD 3 undef = .pointer (some ⟨w.heap.size + 1, 0, none⟩)) (t4 : tmps.getD 4 undef = .pointer (some ⟨w.heap.size + 2, 0, none⟩))
    (n : Nat) (h0 : W.heap[w.heap.size]? = some (.cells #[v] 22 (0, 0))) (h1 : W.heap[w.heap.size + 1]? = some (.cells #[.int .i64 n] 3 (0, 0))) (h2 : W.heap[w.heap.size + 2]? = some (.cells #[.int .i64 0] 26 (0, 0))) (hb : Below w.heap.size w W) (R : Int × List ByteArray × Nat) (hr : R = (0, ls, n)) (ho : W.ownsRow w.heap.size 9 1 v ls.length (cellsS ls)) :
    bodyPostD Tryd.prog Tryd.f18 (ParseEnd w R) .ret { tmps := tmps, defers := [D3 w.heap.size] } W := by
  subst hr
  refine leaves_cons (f := 38) (args := #[.pointer (some ⟨w.heap.size, 0, none⟩), .pointer (some ⟨w.heap.size + 1, 0, none⟩), .pointer (some ⟨w.heap.size + 2, 0, none⟩)]) (by simp) (by simp [go_sem]) ?_
  refine (catch_idle w.heap.size W).mono ?_
  rintro e u' w'' ⟨rfl, rfl, rfl⟩
  exact ⟨.tuple #[v, .int .i64 n, .int .i64 0], res18 tmps w.heap.size _ _ _ w'' t2 t3 t4 (cell_one h0) (cell_one h1) (cell_one h2), v, rfl, ho, hb⟩
theorem one_setCell {W : World} {g : Nat} {x u : Value} {t : TypeId} (h : W.heap[g]? = some (.cells #[x] t (0, 0))) : (W.setCell ⟨g, 0, none⟩ u).heap[g]? = some (.cells #[u] t (0, 0)) := row_set h
/-- The three results' variables. -/
def Vars (w W : World) : Prop := W.heap[w.heap.size]? = some (.cells #[.slice none 0 0] 22 (0, 0)) ∧ W.heap[w.heap.size + 1]? = some (.cells #[.int .i64 0] 3 (0, 0)) ∧ W.heap[w.heap.size + 2]? = some (.cells #[.int .i64 0] 26 (0, 0)) ∧ Below w.heap.size w W ∧ w.heap.size + 3 ≤ W.heap.size
theorem Vars.new (w : World) : Vars w (((w.alloc (.cells #[.slice none 0 0] 22)).alloc (.cells #[.int .i64 0] 3)).alloc (.cells #[.int .i64 0] 26)) := by
  have a0 := heap_alloc_new w (.cells #[.slice none 0 0] 22)
  have b0 := (Below.refl w.heap.size w).alloc (Nat.le_refl _) (.cells #[.slice none 0 0] 22)
  have s0 : (w.alloc (.cells #[.slice none 0 0] 22)).heap.size = w.heap.size + 1 := by simp
  generalize w.alloc (.cells #[.slice none 0 0] 22) = w1 at *
  have a1 := heap_alloc_new w1 (.cells #[.int .i64 0] 3)
  have c0 := (Below.heap_alloc w1 (.cells #[.int .i64 0] 3) w.heap.size (by omega)).trans a0
  have b1 := b0.alloc (by omega) (.cells #[.int .i64 0] 3)
  have s1 : (w1.alloc (.cells #[.int .i64 0] 3)).heap.size = w.heap.size + 2 := by simp [s0]
  rw [s0] at a1
  generalize w1.alloc (.cells #[.int .i64 0] 3) = w2 at *
  have a2 := heap_alloc_new w2 (.cells #[.int .i64 0] 26)
  rw [s1] at a2
  exact ⟨(Below.heap_alloc w2 _ w.heap.size (by omega)).trans c0, (Below.heap_alloc w2 _ (w.heap.size + 1) (by omega)).trans a1, a2, b1.alloc (by omega) _, by simp; omega⟩
theorem Vars.below {w W W' : World} (h : Vars w W) (hb : Below (w.heap.size + 3) W W') : Vars w W' := by
  obtain ⟨h0, h1, h2, h3, h4⟩ := h
  exact ⟨(hb.block _ (by omega)).trans h0, (hb.block _ (by omega)).trans h1, (hb.block _ (by omega)).trans h2, h3.trans (hb.mono (by omega)), Nat.le_trans h4 hb.size⟩

theorem Vars.stop {w W : World} (h : Vars w W) (R : Int × List ByteArray × Nat) (k : Int) (hk : k ≠ 0) (hr : R = (k, [], 0)) (tmps : Array Value) (t2 : tmps.getD 2 undef = .pointer (some ⟨w.heap.size, 0, none⟩)) (t3 : tmps.getD 3 undef = .pointer (some ⟨w.heap.size + 1, 0, none⟩)) (t4 : tmps.getD 4 undef = .pointer (some ⟨w.heap.size + 2, 0, none⟩)) :
    bodyPostD Tryd.prog Tryd.f18 (ParseEnd w R) (.panic (stopP k)) { tmps := tmps, defers := [D3 w.heap.size] } W := by
  obtain ⟨h0, h1, h2, h3, _⟩ := h
  exact door_stop w W k hk _ _ _ tmps t2 t3 t4 h0 h1 h2 h3 R hr
theorem fin_parse {w W : World} {H : Nat} {v : Value} {ls : List ByteArray} (hV : Vars w W) (ho : W.ownsRow (H + 1) 9 1 v ls.length (cellsS ls)) (n : Nat) (hH : w.heap.size + 3 ≤ H) :
    (((W.setCell ⟨w.heap.size, 0, none⟩ v).setCell ⟨w.heap.size + 1, 0, none⟩ (.int .i64 n)).setCell ⟨w.heap.size + 1 + 1, 0, none⟩ (.int .i64 0)).heap[w.heap.size]? = some (.cells #[v] 22 (0, 0)) ∧
    (((W.setCell ⟨w.heap.size, 0, none⟩ v).setCell ⟨w.heap.size + 1, 0, none⟩ (.int .i64 n)).setCell ⟨w.heap.size + 1 + 1, 0, none⟩ (.int .i64 0)).heap[w.heap.size + 1]? = some (.cells #[.int .i64 n] 3 (0, 0)) ∧
    (((W.setCell ⟨w.heap.size, 0, none⟩ v).setCell ⟨w.heap.size + 1, 0, none⟩ (.int .i64 n)).setCell ⟨w.heap.size + 1 + 1, 0, none⟩ (.int .i64 0)).heap[w.heap.size + 2]? = some (.cells #[.int .i64 0] 26 (0, 0)) ∧
    Below w.heap.size w (((W.setCell ⟨w.heap.size, 0, none⟩ v).setCell ⟨w.heap.size + 1, 0, none⟩ (.int .i64 n)).setCell ⟨w.heap.size + 1 + 1, 0, none⟩ (.int .i64 0)) ∧
    (((W.setCell ⟨w.heap.size, 0, none⟩ v).setCell ⟨w.heap.size + 1, 0, none⟩ (.int .i64 n)).setCell ⟨w.heap.size + 1 + 1, 0, none⟩ (.int .i64 0)).ownsRow w.heap.size 9 1 v ls.length (cellsS ls) := by
  obtain ⟨h0, h1, h2, h3, h4⟩ := hV
  generalize w.heap.size = s at *
  have p0 := one_setCell (u := v) h0
  have p1 := (Below.heap_setCell W ⟨s, 0, none⟩ v (s + 1) (by simp)).trans h1
  have p2 := (Below.heap_setCell W ⟨s, 0, none⟩ v (s + 2) (by simp)).trans h2
  have hb1 := h3.setCell (p := ⟨s, 0, none⟩) (Nat.le_refl _) v
  have ne : ∀ k, k < H + 1 → v.ownBlock ≠ some k := fun k hk e => by have := (ho.lt k e).1; omega
  have o1 := ownsRow_setCell_other ho (a := ⟨s, 0, none⟩) (ne s (by omega)) v
  generalize W.setCell ⟨s, 0, none⟩ v = V at *
  have q0 := (Below.heap_setCell V ⟨s + 1, 0, none⟩ (.int .i64 n) s (by simp)).trans p0
  have q1 := one_setCell (u := .int .i64 n) p1
  have q2 := (Below.heap_setCell V ⟨s + 1, 0, none⟩ (.int .i64 n) (s + 2) (by simp)).trans p2
  have hb2 := hb1.setCell (p := ⟨s + 1, 0, none⟩) (by simp) (.int .i64 n)
  have o2 := ownsRow_setCell_other o1 (a := ⟨s + 1, 0, none⟩) (ne (s + 1) (by omega)) (.int .i64 n)
  generalize V.setCell ⟨s + 1, 0, none⟩ (.int .i64 n) = U at *
  exact ⟨(Below.heap_setCell U ⟨s + 2, 0, none⟩ (.int .i64 0) s (by simp)).trans q0, (Below.heap_setCell U ⟨s + 2, 0, none⟩ (.int .i64 0) (s + 1) (by simp)).trans q1, one_setCell (u := .int .i64 0) q2, hb2.setCell (p := ⟨s + 2, 0, none⟩) (by simp) (.int .i64 0), own_down (ownsRow_setCell_other o2 (a := ⟨s + 2, 0, none⟩) (ne (s + 2) (by omega)) (.int .i64 0)) (by omega)⟩

/-- The texts of a request, so many, from a place on. -/
def itemsF : Nat → List UInt8 → Nat → Nat → List ByteArray → Int × List ByteArray × Nat
  | 0, _, a, _, acc => (0, acc, a)
  | m + 1, l, a, tx, acc =>
    if expE l a 36 ≠ 0 then (expE l a 36, [], 0)
    else if lenE tx l (a + 1) ≠ 0 then (lenE tx l (a + 1), [], 0)
    else if textE l ((digR tx l (a + 1)).2.2 + 2) (digR tx l (a + 1)).2.1 ≠ 0 then (textE l ((digR tx l (a + 1)).2.2 + 2) (digR tx l (a + 1)).2.1, [], 0)
    else itemsF m l ((digR tx l (a + 1)).2.2 + 2 + (digR tx l (a + 1)).2.1 + 2) (tx - (digR tx l (a + 1)).2.1) (acc ++ [cutT l ((digR tx l (a + 1)).2.2 + 2) (digR tx l (a + 1)).2.1])
/-- The request with which bytes begin. -/
def parseR (l : List UInt8) : Int × List ByteArray × Nat :=
  if expE l 0 42 ≠ 0 then (expE l 0 42, [], 0)
  else match l[1]? with
    | none => (130, [], 0)
    | some x => if x = 48 then (131, [], 0)
      else if lenE 65536 l 1 ≠ 0 then (lenE 65536 l 1, [], 0)
      else itemsF (digR 65536 l 1).2.1 l ((digR 65536 l 1).2.2 + 2) 1048576 []
end Go.Proofs.YtglicojojpggmaaDoor
