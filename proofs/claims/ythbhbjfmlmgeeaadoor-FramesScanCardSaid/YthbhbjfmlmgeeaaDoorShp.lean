/- Blocks that keep their form while texts in them are written. -/
import Derived.Test.YthbhbjfmlmgeeaaDoorCopy
import Derived.Test.YthbhbjfmlmgeeaaDoorAll
namespace Go.Proofs.YthbhbjfmlmgeeaaDoor
open Go Go.RowKit
/-- Each block of cells is one of as many cells of that type still. -/
def Shp (w W : World) : Prop := ∀ (k : Nat) (cs : Array Value) (t : TypeId) (fr : Nat × Nat), w.heap[k]? = some (.cells cs t fr) → ∃ cs' : Array Value, W.heap[k]? = some (.cells cs' t fr) ∧ cs'.size = cs.size
theorem Shp.refl (w : World) : Shp w w := fun _ cs _ _ h => ⟨cs, h, rfl⟩
theorem Shp.trans {w W V : World} (h : Shp w W) (k : Shp W V) : Shp w V := fun i cs t fr hi => by
  obtain ⟨c1, h1, s1⟩ := h i cs t fr hi
  obtain ⟨c2, h2, s2⟩ := k i c1 t fr h1
  exact ⟨c2, h2, s2.trans s1⟩
theorem Shp.of_below {w W : World} (h : Below w.heap.size w W) : Shp w W := fun k cs t fr hk => ⟨cs, (h.block k (Array.getElem?_eq_some_iff.1 hk).1).trans hk, rfl⟩
theorem Shp.set (w : World) (p : Addr) (u : Value) (hp : p.spot = none) : Shp w (w.setCell p u) := fun k cs t fr hk => by
  obtain ⟨g, o, spot⟩ := p
  cases hp
  by_cases h : k = g
  · subst h
    exact ⟨cs.setIfInBounds o u, by simp [World.setCell, Array.getElem?_modify, hk], by simp⟩
  · exact ⟨cs, (Below.heap_setCell w ⟨g, o, none⟩ u k h).trans hk, rfl⟩
theorem Shp.row {w W : World} (hs : Shp w W) {B : Nat} {e : TypeId} {v : Value} {n : Nat} {xs : List Value} (h : w.ownsRow B e 1 v n xs) : ∃ ys, W.ownsRow B e 1 v n ys := by
  rcases h.2 with ⟨rfl, rfl⟩ | ⟨g, cap, cur, rfl, hb, hg, hn, hm, hc, _⟩
  · exact ⟨[], World.ownsRow_nil _ _ _ _⟩
  · obtain ⟨cs', h1, h2⟩ := hs g cur e (0, 0) hg
    exact ⟨cs'.toList.take (n * 1), by rw [List.length_take, Array.length_toList, h2, hc]; omega, .inr ⟨g, cap, cs', rfl, hb, h1, hn, hm, by rw [h2, hc], rfl⟩⟩
/-- A text that is appended to a row of texts. -/
theorem run_append_shp (w : World) (ty : TypeId) (base : Nat) (v : Value) (n : Nat) (xs : List Value) (hown : w.ownsRow base 9 1 v n xs) (ad : Addr) (c : Nat) (s : ByteArray) (hnew : w.cell? ad = some (.string s)) (hn : n ≤ 1000000) (hb : base ≤ w.heap.size) :
    ∃ v' w', (Builtin.append_ #[22, 22] ty #[v, .slice (some ad) 1 c]).run Tryd.prog w = .ok v' w' ∧ w'.ownsRow base 9 1 v' (n + 1) (xs ++ [.string s]) ∧ w.grownBy w' v.ownBlock ∧ Shp w w' := by
  obtain ⟨i0, hi, hz0, hz1, hz2⟩ := info_parts str_info
  obtain ⟨v', w', hr, ho, hg, _⟩ := run_append_own (P := Tryd.prog) w base 22 ty 9 i0 _ 1 16 Tryd.underlying22 hi hz0 hz1 hz2 rfl (by omega) v n xs hown ad 1 c [.string s] rfl (fun j u hj => by
    cases j with
    | zero => simp at hj; subst hj; rw [add_zero]; exact hnew
    | succ j => simp at hj) (by simp [Value.oneCell']) (by simp only [maxLen]; omega) (by omega) hb
  refine ⟨v', w', hr, ho, hg, ?_⟩
  have hnews : ∀ j u, [Value.string s][j]? = some u → w.cell? (ad.add j) = some u := fun j u hj => by
    cases j with
    | zero => simp at hj; subst hj; rw [add_zero]; exact hnew
    | succ j => simp at hj
  have hgrow : (∀ k, k < w.heap.size → w'.heap[k]? = w.heap[k]?) → Shp w w' := fun h k cs t fr hk => ⟨cs, (h k (Array.getElem?_eq_some_iff.1 hk).1).trans hk, rfl⟩
  rcases hown.2 with ⟨rfl, rfl⟩ | ⟨g, cap, cur, rfl, hbg, hgg, hnc, hcm, hcs, _⟩
  · exact hgrow fun k hk => hg.block k hk (by simp [Value.ownBlock])
  · by_cases hroom : n + 1 ≤ cap
    · have h1 := run_append_room (P := Tryd.prog) w 22 ty 9 i0 Tryd.underlying22 hi g n cap cur hgg ad 1 c [.string s] (by rw [hz1]; rfl) hnews (by simp [Value.oneCell']) hroom (by rw [hz1, hcs]; simp; omega)
      rw [hr] at h1
      injection h1 with h2 h3
      subst h3
      intro k cs t fr hk
      by_cases hkg : k = g
      · subst hkg
        rw [hgg] at hk
        cases hk
        refine ⟨_, setRow_heap w k cur _ 9 (0, 0) hgg, ?_⟩
        simp only [List.size_toArray, List.length_append, List.length_take, List.length_drop, Array.length_toList, List.length_cons, List.length_nil, hz1]
        omega
      · exact ⟨cs, (setRow_other w g k _ hkg).trans hk, rfl⟩
    · have h1 := run_append_grow (P := Tryd.prog) w 22 ty 9 i0 _ Tryd.underlying22 hi hz0 ⟨g, 0, none⟩ n cap xs (by rw [hz1]; exact hown.1) (hown.cells (g := g) rfl) ad 1 c [.string s] (by rw [hz1]; rfl) hnews (by omega) (by omega) (growslice_fits (by omega) (by rw [hz2]; omega))
      rw [hr] at h1
      injection h1 with h2 h3
      subst h3
      exact hgrow fun k hk => (Below.heap_alloc w.drew _ k hk)
section
variable {w : World} {ops : Array Oper} {rest : List Oper} {o : Oper} {a : Act} {Q : Exit → Act → World → Prop}
theorem wpList_append_shp (hgd : o.guard = none) (s x : Operand) (ho : o.op = .call { callee := .builtin .append, args := #[s, x], argTypes := #[22, 22] })
    (base : Nat) (v : Value) (n : Nat) (xs : List Value) (hs : a.eval s = v) (hown : w.ownsRow base 9 1 v n xs) (ad : Addr) (c : Nat) (t : ByteArray) (hx : a.eval x = .slice (some ad) 1 c) (hnew : w.cell? ad = some (.string t)) (hn : n ≤ 1000000) (hb : base ≤ w.heap.size)
    (hK : ∀ v' w', w'.ownsRow base 9 1 v' (n + 1) (xs ++ [.string t]) → w.grownBy w' v.ownBlock → Shp w w' → wpList Tryd.prog ops Q rest (a.put o.dst v') w') : wpList Tryd.prog ops Q (o :: rest) a w := by
  refine wpList_plain hgd fun K hK' => ?_
  obtain ⟨v', w', hr, h2, h3, h4⟩ := run_append_shp w o.type base v n xs hown ad c t hnew hn hb
  unfold Oper.wp execOp
  simp only [ho, resolve, invoke, builtin, Sem.run_bind, Sem.run_pure, Result.andThen_ok, List.map_toArray, List.map_cons, List.map_nil, hs, hx, hr]
  exact hK' _ _ (hK v' w' h2 h3 h4)
end
/-- A list that was read, as a row's element. -/
def Item.row (x : Item) : Row := match x.v with
  | .slice A _ c => ⟨A, c, x.ls⟩
  | _ => ⟨none, 0, x.ls⟩
theorem Item.row_ls (x : Item) : x.row.ls = x.ls := by
  unfold Item.row
  split <;> rfl
theorem item_row {B : Nat} {x : Item} {W : World} (h : itemOk B x W) : x.row.v = x.v ∧ RdV W x.row.A (cellsS x.row.ls) ∧ x.row.ls.length ≤ 9223372036854775807 := by
  obtain ⟨at_, v, ls⟩ := x
  obtain ⟨A, c, hv, hc, _, hm, hr⟩ := own_rdV h
  have hc' : ls.length ≤ c := hc
  dsimp only at hv
  subst hv
  exact ⟨rfl, hr, by show ls.length ≤ _; simp only [maxLen] at hm; omega⟩
/-- Rows that were scanned, as they are read. -/
theorem rows_items {B B' : Nat} {v : Value} {xs : List Item} {W : World} (ho : W.ownsRow B 22 1 v xs.length (xs.map Item.v)) (hi : ∀ x ∈ xs, itemOk B' x W) :
    ∃ A n c rs, v = .slice A n c ∧ List.length rs = n ∧ n = xs.length ∧ n ≤ 9223372036854775807 ∧ RdR W A rs ∧ lsOf rs = xs.map Item.ls := by
  obtain ⟨A, c, hv, _, _, hm, hr⟩ := own_rdV ho
  refine ⟨A, xs.length, c, xs.map Item.row, hv, by simp, rfl, by simp only [maxLen] at hm; omega, ⟨?_, fun r hr' => ?_⟩, ?_⟩
  · have e : (xs.map Item.row).map Row.v = xs.map Item.v := by
      rw [List.map_map]
      exact List.map_congr_left fun x hx => (item_row (hi x hx)).1
    rw [e]
    exact hr
  · obtain ⟨x, hx, rfl⟩ := List.mem_map.1 hr'
    exact ⟨(item_row (hi x hx)).2.1, (item_row (hi x hx)).2.2⟩
  · unfold lsOf
    rw [List.map_map]
    exact List.map_congr_left fun x _ => Item.row_ls x
theorem scanned_same {l : List UInt8} {xs ys : List Item} (h : Scanned l xs) (k : Scanned l ys) : xs.map Item.ls = ys.map Item.ls := by
  have h1 := h.1.trans k.1.symm
  have e : ∀ zs : List Item, (zs.map fun x => bl x.ls) = (zs.map Item.ls).map bl := fun zs => by rw [List.map_map]; rfl
  rw [e, e] at h1
  exact List.map_inj_right (fun _ _ h => bl_inj h) |>.1 h1
/-- What holds while the first answer is spoilt: base is where it begins, S where the second begins, w9 what stood behind the comparisons. -/
structure MutI (w w8 w9 : World) (B g : Nat) (xs : List Item) (i : Nat) (W : World) : Prop where
  shp : Shp w8 W
  low : Below w.heap.size w W
  mid : ∀ k, w8.heap.size ≤ k → k < w9.heap.size → W.heap[k]? = w9.heap[k]?
  big : w9.heap.size ≤ W.heap.size
  row : ∀ j x, i ≤ j → xs[j]? = some x → W.cell? ⟨g, j, none⟩ = some x.v
section
variable {w w8 w9 W W' : World} {B g i : Nat} {xs : List Item}
theorem MutI.drew (h : MutI w w8 w9 B g xs i W) : MutI w w8 w9 B g xs i W.drew := ⟨h.shp, h.low.drew, h.mid, h.big, h.row⟩
theorem MutI.alloc (h : MutI w w8 w9 B g xs i W) (hw : w.heap.size ≤ w9.heap.size) (hg : g < w9.heap.size) (o : Obj) : MutI w w8 w9 B g xs i (W.alloc o) := by
  have hb := below_new W o
  exact ⟨h.shp.trans (Shp.of_below hb), h.low.alloc (Nat.le_trans hw h.big) o, fun k h1 h2 => (hb.block k (Nat.lt_of_lt_of_le h2 h.big)).trans (h.mid k h1 h2), Nat.le_trans h.big hb.size, fun j x hj hx => (hb.cell (p := ⟨g, j, none⟩) (Nat.lt_of_lt_of_le hg h.big)).trans (h.row j x hj hx)⟩
/-- A change of one block among those of the first answer, that keeps forms. -/
theorem MutI.change (h : MutI w w8 w9 B g xs i W) (hs : Shp W W') (row : Option Nat) (hg : W.grownBy W' row) (hr : ∀ k, row = some k → w.heap.size ≤ k ∧ k < w8.heap.size ∧ k ≠ g) (hw : w.heap.size ≤ w9.heap.size) (hg9 : g < w9.heap.size) : MutI w w8 w9 B g xs i W' := by
  refine ⟨h.shp.trans hs, h.low.grown hg (Nat.le_trans hw h.big) (fun k hk => (hr k hk).1), fun k h1 h2 => (hg.block k (Nat.lt_of_lt_of_le h2 h.big) fun e => ?_).trans (h.mid k h1 h2), Nat.le_trans h.big hg.size, fun j x hj hx => ?_⟩
  · have := (hr k e.symm).2.1; omega
  · exact (World.cell?_of_block (w := W) (a := ⟨g, j, none⟩) (hg.block g (Nat.lt_of_lt_of_le hg9 h.big) fun e => (hr g e.symm).2.2 rfl)).trans (h.row j x hj hx)
theorem MutI.next (h : MutI w w8 w9 B g xs i W) (hw : w.heap.size ≤ g) (h8 : g < w8.heap.size) (hw9 : w.heap.size ≤ w9.heap.size) (u : Value) : MutI w w8 w9 B g xs (i + 1) (W.setCell ⟨g, i, none⟩ u) := by
  refine ⟨h.shp.trans (Shp.set _ _ _ rfl), h.low.setCell (p := ⟨g, i, none⟩) hw u, fun k h1 h2 => (Below.heap_setCell W ⟨g, i, none⟩ u k (by show k ≠ g; omega)).trans (h.mid k h1 h2), by simp [World.setCell]; exact h.big, fun j x hj hx => ?_⟩
  refine (World.cell?_setCell_other (w := W) (a := ⟨g, i, none⟩) (b := ⟨g, j, none⟩) (v := u) (by intro e; injection e; omega)).trans (h.row j x (by omega) hx)
end
theorem set_grown' (w : World) (g o : Nat) (u : Value) : w.grownBy (w.setCell ⟨g, o, none⟩ u) (some g) :=
  ⟨rfl, rfl, rfl, by simp [World.setCell], fun k _ hk => Below.heap_setCell w ⟨g, o, none⟩ u k (fun e => hk (by rw [e]))⟩
end Go.Proofs.YthbhbjfmlmgeeaaDoor
