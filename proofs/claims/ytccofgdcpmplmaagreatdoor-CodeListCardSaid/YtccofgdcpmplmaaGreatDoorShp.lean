/- A number below another one; the table of shapes. -/
import Derived.Test.YtccofgdcpmplmaaGreatDoorKw
import Derived.Deep.WholeRow
namespace Go.Proofs.YtccofgdcpmplmaaGreatDoor
open Go Go.RowKit Go.Shelf
def belB (n m : Int) : Bool := decide (0 ≤ n) && decide (n < m)
set_option maxRecDepth 100000 in
theorem below_any' (n m : Int) (w : World) (hn : inI n) (hm : inI m) : Calls Tryz.prog 84 #[.int .i64 n, .int .i64 m] w fun e w' => e = .returned (.bool (belB n m)) ∧ w' = w := by
  unfold belB
  by_cases h : 0 ≤ n
  · rw [decide_eq_true h]
    have d1 : decide (n ≥ 0) = true := decide_eq_true h
    have d2 : decide (0 ≤ n) = true := decide_eq_true h
    clear h
    go_enter Tryz.func84, Tryz.ntmps84
    go_wp2_with fail
    go_ret
    exact ⟨by simp, rfl⟩
  · rw [decide_eq_false h]
    have d1 : decide (n ≥ 0) = false := decide_eq_false h
    have d2 : decide (0 ≤ n) = false := decide_eq_false h
    clear h
    go_enter Tryz.func84, Tryz.ntmps84
    go_wp2_with fail
    go_ret
    exact ⟨rfl, rfl⟩
def shp0 : List Int := [0, 0, 0, 1, 2, 0, 1, 0, 0, 1, 0, 0, 1, 5, 0, 1, 6, 0, 1, 1, 0, 1, 0, 0, 1, 0, 0, 1, 0, 0, 1, 1, 1, 1, 1, 1, 0, 0, 0, 0, 0, 0, 0, 0, 0, 0, 0, 0, 0, 0, 0, 0, 0, 0, 0, 0, 0, 0, 0, 0, 0, 0, 0, 0, 0, 0, 0, 0, 0, 0, 0, 0, 1, 1, 0, 1, 1, 0, 1, 1, 0, 4, 0, 0, 1, 4, 0, 1, 4, 0, 3, 4, 1, 3, 4, 1, 1, 8, 0, 1, 7, 9, 1, 0, 0, 0, 0, 0]
abbrev one : Value := .int .i64 1
def arrK : Nat → Array Value
  | 0 => (shp0.map (Value.int .i64)).toArray
  | j + 1 => (((arrK j).setIfInBounds ((12 + j) * 3) one).setIfInBounds ((12 + j) * 3 + 1) one).setIfInBounds ((12 + j) * 3 + 2) one
theorem arrK_size : ∀ j, (arrK j).size = 108
  | 0 => rfl
  | j + 1 => by simp [arrK, arrK_size j]
theorem arrK_one : ∀ j, (arrK j).all (·.oneCell') = true := by
  intro j
  rw [Array.all_eq_true]
  intro i hi
  have key : ∀ (a : Array Value) (n : Nat) (v : Value), (∀ i (h : i < a.size), (a[i]).oneCell' = true) → v.oneCell' = true → ∀ i (h : i < (a.setIfInBounds n v).size), ((a.setIfInBounds n v)[i]).oneCell' = true := by
    intro a n v ha hv i h
    rw [Array.getElem_setIfInBounds]
    split
    · exact hv
    · exact ha i (by simpa using h)
  have all : ∀ j, ∀ i (h : i < (arrK j).size), ((arrK j)[i]).oneCell' = true := by
    intro j
    induction j with
    | zero =>
      intro i h
      simp [arrK]
      rfl
    | succ j ih => exact key _ _ _ (key _ _ _ (key _ _ _ ih rfl) rfl) rfl
  exact all j i hi
theorem row_put {W : World} {g j : Nat} {cs : Array Value} {v : Value} {t : TypeId} (h : W.heap[g]? = some (.cells cs t (0, 0))) : (W.setCell ⟨g, j, none⟩ v).heap[g]? = some (.cells (cs.setIfInBounds j v) t (0, 0)) := by
  have hlt := (Array.getElem?_eq_some_iff.1 h).1
  have h' : W.heap[g] = .cells cs t (0, 0) := by simpa [Array.getElem?_eq_getElem hlt] using h
  show (W.heap.modify g _)[g]? = _
  rw [Array.getElem?_eq_getElem (by simpa using hlt), Array.getElem_modify_self, h']
  rfl
theorem size68 : (Tryz.prog.info? 91).map (·.size) = some 108 := by kernel_rfl
theorem info68 (j : Nat) : (Tryz.prog.info? 91).map (·.size) = some (arrK j).size := by rw [arrK_size]; exact size68
theorem z68 : (Tryz.zeroCells91).size = 108 := by kernel_rfl
theorem rowK {W : World} {b : Nat} {j : Nat} (h : W.heap[b]? = some (.cells (arrK j) 91 (0, 0))) {n : Nat} (hn : n < 108) : ∃ v, W.cell? ⟨b, n, none⟩ = some v := by
  have : n < (arrK j).size := by rw [arrK_size]; exact hn
  exact ⟨(arrK j)[n], by simp [World.cell?, h, this]⟩
theorem freeK {W : World} {b : Nat} {a : Array Value} {t : TypeId} (h : W.heap[b]? = some (.cells a t (0, 0))) (n : Nat) : W.frozen? ⟨b, n, none⟩ = false := by simp [World.frozen?, h]
set_option maxRecDepth 100000 in
set_option maxHeartbeats 4000000 in
theorem shapes_any (w : World) : Calls Tryz.prog 47 #[] w fun e w' => e = .returned (.agg (arrK 12)) ∧ Below w.heap.size w w' := by
  obtain ⟨h1, h2, hb⟩ := two_boxes w Tryz.zeroCells91 Tryz.zeroCells91 91
  have HX := Lib.hid h2
  have HY := Lib.hid h1
  have HB := Lib.hid hb
  clear h1 h2 hb
  go_enter Tryz.func47, Tryz.ntmps47
  go_upto_region 1 with (fail)
  go_wp2_with (refine wpList_store_row rfl 91 (.tmp 1) (.tmp 25) rfl (w.heap.size + 1) (arrK 0) rfl (by kernel_rfl) 91 _ HX.out (info68 0) (by rw [arrK_size]; exact z68) (arrK_one 0) ?_)
  have hy1 := (setRow_other ((w.alloc (.cells Tryz.zeroCells91 91)).alloc (.cells Tryz.zeroCells91 91)) (w.heap.size + 1) w.heap.size (arrK 0) (by omega)).trans HY.out
  have hx1 := setRow_heap _ (w.heap.size + 1) _ (arrK 0) _ _ HX.out
  have hb1 : Below w.heap.size w (((w.alloc (.cells Tryz.zeroCells91 91)).alloc (.cells Tryz.zeroCells91 91)).setRow (w.heap.size + 1) (arrK 0)) := ⟨HB.out.os, HB.out.tape, HB.out.output, Nat.le_trans HB.out.size (by simp [World.setRow]), fun k hk => (setRow_other _ _ _ _ (by omega)).trans (HB.out.block k hk)⟩
  have HX1 := Lib.hid hx1
  have HY1 := Lib.hid hy1
  have HB1 := Lib.hid hb1
  clear hx1 hy1 hb1 HX HY HB
  generalize ((w.alloc (.cells Tryz.zeroCells91 91)).alloc (.cells Tryz.zeroCells91 91)).setRow (w.heap.size + 1) (arrK 0) = w1 at *
  go_loopw [2] (fun i wr => ∃ j : Nat, j ≤ 12 ∧ i = .int .i64 ((12 + j : Nat) : Int) ∧ Hid (wr.heap[w.heap.size + 1]? = some (.cells (arrK j) 91 (0, 0))) ∧ Hid (wr.heap[w.heap.size]? = some (.cells Tryz.zeroCells91 91 (0, 0))) ∧ Hid (Below w.heap.size w wr)) (fun i _ => 24 - (intOf i).toNat)
  case atStart => exact ⟨0, Nat.zero_le _, rfl, HX1, HY1, HB1⟩
  case round =>
    clear HX1 HY1 HB1
    obtain ⟨j, hj, rfl, HX, HY, HB⟩ := hrel
    by_cases hlt : j < 12
    rotate_left
    · obtain rfl : j = 12 := by omega
      have hbz : Below w.heap.size w (wr.setRow w.heap.size (arrK 12)) := ⟨HB.out.os, HB.out.tape, HB.out.output, Nat.le_trans HB.out.size (by simp [World.setRow]), fun k hk => (setRow_other _ _ _ _ (by omega)).trans (HB.out.block k hk)⟩
      have hz := setRow_heap wr w.heap.size _ (arrK 12) _ _ HY.out
      go_wp2_with (first | refine wpList_load_row rfl 91 (.tmp 1) rfl (w.heap.size + 1) rfl 91 (arrK 12) (0, 0) _ HX.out Tryz.underlying91 rfl (info68 12) ?_ | refine wpList_store_row rfl 91 (.tmp 0) (.tmp 33) rfl w.heap.size (arrK 12) rfl rfl 91 _ HY.out (info68 12) (by rw [arrK_size]; exact z68) (arrK_one 12) ?_)
      refine bodyPost_ret (results_cell_row Tryz.results47 _ _ w.heap.size 91 _ (0, 0) _ rfl hz Tryz.underlying91 rfl (info68 12)) rfl ?_
      exact ⟨rfl, hbz⟩
    have d1 : decide (((12 + j : Nat) : Int) ≤ 23) = true := decide_eq_true (by omega)
    have d2 : decide (12 + j ≤ 23) = true := decide_eq_true (by omega)
    have i0 : (0 : Int) ≤ ((12 + j : Nat) : Int) := by omega
    have i1 : ((12 + j : Nat) : Int) < 36 := by omega
    obtain ⟨v0, x0⟩ := rowK HX.out (n := (12 + j) * 3) (by omega)
    obtain ⟨v1, x1⟩ := rowK HX.out (n := (12 + j) * 3 + 1) (by omega)
    obtain ⟨v2, x2⟩ := rowK HX.out (n := (12 + j) * 3 + 2) (by omega)
    have f0 := freeK HX.out ((12 + j) * 3)
    have f1 := freeK HX.out ((12 + j) * 3 + 1)
    have f2 := freeK HX.out ((12 + j) * 3 + 2)
    go_wp2_with fail
    have hne : w.heap.size ≠ w.heap.size + 1 := by omega
    refine ⟨⟨j + 1, by omega, by congr 1, Lib.hid (row_put (row_put (row_put HX.out))), Lib.hid ?_, Lib.hid (((HB.out.setCell (p := ⟨w.heap.size + 1, _, none⟩) (by show w.heap.size ≤ w.heap.size + 1; omega) _).setCell (p := ⟨w.heap.size + 1, _, none⟩) (by show w.heap.size ≤ w.heap.size + 1; omega) _).setCell (p := ⟨w.heap.size + 1, _, none⟩) (by show w.heap.size ≤ w.heap.size + 1; omega) _)⟩, by simp [intOf]; omega⟩
    exact (Below.heap_setCell _ ⟨w.heap.size + 1, _, none⟩ _ w.heap.size hne).trans ((Below.heap_setCell _ ⟨w.heap.size + 1, _, none⟩ _ w.heap.size hne).trans ((Below.heap_setCell _ ⟨w.heap.size + 1, _, none⟩ _ w.heap.size hne).trans HY.out))
end Go.Proofs.YtccofgdcpmplmaaGreatDoor
