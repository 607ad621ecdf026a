/- What FramesScan stands on. -/
import Derived.Test.YthbhbjfmlmgeeaaDoorShp
import Derived.Test.YthbhbjfmlmgeeaaDoorCopyS
import Derived.Test.YthbhbjfmlmgeeaaDoorFrame
namespace Go.Proofs.YthbhbjfmlmgeeaaDoor
open Go Go.RowKit
theorem own_mid {w10 W : World} {B b n : Nat} {e : TypeId} {v : Value} {xs : List Value} (h : w10.ownsRow B e 1 v n xs) (hB : b ≤ B) (hm : ∀ k, b ≤ k → k < w10.heap.size → W.heap[k]? = w10.heap[k]?) : W.ownsRow B e 1 v n xs := by
  refine ⟨h.1, ?_⟩
  rcases h.2 with h2 | ⟨g, cap, cur, rfl, hb, hgg, r⟩
  · exact .inl h2
  · exact .inr ⟨g, cap, cur, rfl, hb, (hm g (by omega) (Array.getElem?_eq_some_iff.1 hgg).1).trans hgg, r⟩
/-- The rows that were scanned, where they lie. -/
theorem rows_at {w8 : World} {B : Nat} {v : Value} {xs : List Item} (h : w8.ownsRow B 22 1 v xs.length (xs.map Item.v)) :
    ∃ A N c, v = .slice A N c ∧ xs.length = N ∧ N ≤ 9223372036854775807 ∧ (0 < N → ∃ g cs, A = some ⟨g, 0, none⟩ ∧ B ≤ g ∧ g < w8.heap.size ∧ w8.heap[g]? = some (.cells cs 22 (0, 0)) ∧ ∀ j x, xs[j]? = some x → w8.cell? ⟨g, j, none⟩ = some x.v) := by
  obtain ⟨A, c, rfl, _, _, hm, hr⟩ := own_rdV h
  refine ⟨A, xs.length, c, rfl, rfl, by simp only [maxLen] at hm; omega, fun h0 => ?_⟩
  rcases h.2 with ⟨e, e2⟩ | ⟨g, cap, cur, e, hb, hgg, _⟩
  · have : xs = [] := by simpa using e2
    subst this
    simp at h0
  · cases e
    refine ⟨g, cur, rfl, hb, (Array.getElem?_eq_some_iff.1 hgg).1, hgg, fun j x hj => ?_⟩
    have := h.cells (g := g) rfl j x.v (by rw [List.getElem?_map, hj]; rfl)
    rwa [add0] at this
theorem mut_item {w8 W : World} {x : Item} {g B : Nat} {cs : Array Value} (hx : itemOk B x w8) (hg : w8.heap[g]? = some (.cells cs 22 (0, 0))) (hS : Shp w8 W) :
    ∃ ys, W.ownsRow B 9 1 x.v x.ls.length ys ∧ ∀ k, x.v.ownBlock = some k → B ≤ k ∧ k < w8.heap.size ∧ k ≠ g := by
  obtain ⟨ys, hy⟩ := hS.row hx
  refine ⟨ys, hy, fun k hk => ⟨(hx.lt k hk).1, (hx.lt k hk).2, ?_⟩⟩
  rcases hx.2 with ⟨e, _⟩ | ⟨g', cap, cur, e, hb, hgg, _⟩
  · rw [e] at hk; cases hk
  · rw [e] at hk
    cases hk
    rintro rfl
    rw [hg] at hgg
    cases hgg
theorem item_form {B : Nat} {x : Item} {W : World} (h : itemOk B x W) : ∃ A c n, x.v = .slice A n c ∧ x.ls.length = n := by
  obtain ⟨A, c, hv, _⟩ := own_rdV h
  exact ⟨A, c, _, hv, rfl⟩
theorem own_at {W : World} {B : Nat} {A : Option Addr} {n c q : Nat} {ys : List Value} (h : W.ownsRow B 9 1 (.slice A n c) n ys) (hq : q < n) :
    ∃ g' u, A = some ⟨g', 0, none⟩ ∧ (Value.slice A n c).ownBlock = some g' ∧ W.cell? ⟨g', q, none⟩ = some u ∧ W.frozen? ⟨g', q, none⟩ = false := by
  have hl := h.1
  rcases h.2 with ⟨e, e2⟩ | ⟨g, cap, cur, e, hb, hgg, _⟩
  · cases e; omega
  · cases e
    have hc := h.cells (g := g) rfl q (ys[q]'(by omega)) (by simp)
    rw [add0] at hc
    exact ⟨g, _, rfl, rfl, hc, h.frozenAt q⟩
theorem Shp.free {w W : World} (h : Shp w W) {g o : Nat} {cs : Array Value} {t : TypeId} (hg : w.heap[g]? = some (.cells cs t (0, 0))) : W.frozen? ⟨g, o, none⟩ = false := by
  obtain ⟨cs', h1, _⟩ := h g cs t (0, 0) hg
  simp [World.frozen?, h1]
theorem new_str (w : World) (s : ByteArray) : (w.alloc (.cells #[.string s] 9)).cell? ⟨w.heap.size, 0, none⟩ = some (.string s) := by
  have h := heap_alloc_new w (.cells #[.string s] 9)
  unfold World.cell?
  rw [h]
  rfl
theorem scanned_len {l : List UInt8} {xs : List Item} (h : Scanned l xs) {x : Item} (hx : x ∈ xs) : x.ls.length ≤ 65536 := by
  have h1 : bl x.ls ∈ (scanL l).1 := by rw [← h.1]; exact List.mem_map.2 ⟨x, hx, rfl⟩
  have h2 := (scanL_back l.length l (Nat.le_refl _)).2.2 _ h1
  rw [may_iff] at h2
  simp only [Bool.and_eq_true, decide_eq_true_eq] at h2
  exact h2.1
theorem MutI.start {w w7 w8 w10 : World} {B g : Nat} {xs : List Item} (h7 : Below w.heap.size w w7) (h8 : Below w7.heap.size w7 w8) (h10 : Below w8.heap.size w8 w10) (hr : ∀ j x, xs[j]? = some x → w8.cell? ⟨g, j, none⟩ = some x.v) (hg : 0 < xs.length → g < w8.heap.size) : MutI w w8 w10 B g xs 0 w10 := by
  refine ⟨Shp.of_below h10, h7.trans ((h8.trans (h10.mono h8.size)).mono h7.size), fun _ _ _ => rfl, Nat.le_refl _, fun j x _ hx => ?_⟩
  have h0 : 0 < xs.length := by have := (List.getElem?_eq_some_iff.1 hx).1; omega
  exact (h10.cell (p := ⟨g, j, none⟩) (hg h0)).trans (hr j x hx)
/-- The second answer, when the first has been spoilt. -/
theorem MutI.items {w w8 w10 W : World} {B g i B' : Nat} {xs : List Item} (h : MutI w w8 w10 B g xs i W) {v : Value} {ys : List Item} (hB : w8.heap.size ≤ B') (ho : w10.ownsRow B' 22 1 v ys.length (ys.map Item.v)) (hi : ∀ y ∈ ys, itemOk B' y w10) :
    ∃ A n c rs, v = .slice A n c ∧ List.length rs = n ∧ n = ys.length ∧ n ≤ 9223372036854775807 ∧ RdR W A rs ∧ lsOf rs = ys.map Item.ls :=
  rows_items (own_mid ho hB h.mid) (fun y hy => own_mid (hi y hy) hB h.mid)
end Go.Proofs.YthbhbjfmlmgeeaaDoor
