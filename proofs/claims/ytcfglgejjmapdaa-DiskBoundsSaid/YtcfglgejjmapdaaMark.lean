/- Rows of bytes, with the mark of a conversion or without. -/
import Derived.Test.YtcfglgejjmapdaaBase
import Derived.Maps.AppendAt
import Derived.Lib.ConvBytes
namespace Go.Proofs.Ytcfglgejjmapdaa
open Go Go.RowKit
/-- A slice of bytes over a row of its own; no cell of the row is frozen. -/
def OwnsM (w : World) (v : Value) (n : Nat) (xs : List Value) : Prop :=
  xs.length = n ∧ ((v = .slice none 0 0 ∧ n = 0) ∨ ∃ (g cap : Nat) (cur : Array Value) (fz : Nat × Nat), v = .slice (some ⟨g, 0, none⟩) n cap ∧ w.heap[g]? = some (.cells cur 5 fz) ∧ (fz = (0, 0) ∨ cur.size ≤ fz.1) ∧ n ≤ cap ∧ cap ≤ maxLen ∧ cur.size = cap ∧ cur.toList.take n = xs)
section
variable {w w' : World} {v : Value} {n : Nat} {xs : List Value}
theorem OwnsM.of {base : Nat} (h : w.ownsRow base 5 1 v n xs) : OwnsM w v n xs := by
  refine ⟨by simpa using h.1, ?_⟩
  rcases h.2 with h2 | ⟨g, cap, cur, h2, _, h3, h4, h5, h6, h7⟩
  · exact .inl h2
  · exact .inr ⟨g, cap, cur, (0, 0), h2, h3, .inl rfl, h4, h5, by simpa using h6, by simpa using h7⟩
theorem OwnsM.lt (h : OwnsM w v n xs) : ∀ r, v.ownBlock = some r → r < w.heap.size := by
  intro r e
  rcases h.2 with ⟨rfl, _⟩ | ⟨g, cap, cur, fz, rfl, h3, _⟩
  · cases e
  · cases e
    exact (Array.getElem?_eq_some_iff.1 h3).1
theorem OwnsM.keep (h : OwnsM w v n xs) (hk : ∀ r, v.ownBlock = some r → w'.heap[r]? = w.heap[r]?) : OwnsM w' v n xs := by
  refine ⟨h.1, ?_⟩
  rcases h.2 with h2 | ⟨g, cap, cur, fz, rfl, h3, h4⟩
  · exact .inl h2
  · exact .inr ⟨g, cap, cur, fz, rfl, (hk g rfl).trans h3, h4⟩
theorem OwnsM.cellAt {g cap : Nat} {cur : Array Value} {fz : Nat × Nat} (h3 : w.heap[g]? = some (.cells cur 5 fz)) (h7 : cur.toList.take n = xs) : ∀ j (hj : j < xs.length), w.cell? ⟨g, j, none⟩ = some xs[j] := fun j hj => by
  rw [cell_of_row w g j cur 5 fz h3]
  have hl : xs.length ≤ n := by rw [← h7, List.length_take]; omega
  have e : xs[j]? = some xs[j] := List.getElem?_eq_getElem hj
  have e2 : (cur.toList.take n)[j]? = some xs[j] := by rw [h7]; exact e
  rw [List.getElem?_take, if_pos (by omega)] at e2
  simpa using e2
theorem OwnsM.rdV (h : OwnsM w v n xs) : ∃ A c, v = .slice A n c ∧ n ≤ c ∧ (A = none → c = 0) ∧ c ≤ maxLen ∧ RdV w A xs := by
  have hl := h.1
  rcases h.2 with ⟨rfl, rfl⟩ | ⟨g, cap, cur, fz, rfl, h3, _, h4, h5, h6, h7⟩
  · have : xs = [] := List.eq_nil_of_length_eq_zero hl
    subst this
    exact ⟨none, 0, rfl, Nat.le_refl _, fun _ => rfl, by simp [maxLen], RdV.nil _ _⟩
  · exact ⟨_, cap, rfl, h4, (fun h => by cases h), h5, fun _ => ⟨g, 0, rfl, (Array.getElem?_eq_some_iff.1 h3).1, fun j hj => by rw [Nat.zero_add]; exact OwnsM.cellAt (cap := cap) h3 h7 j hj⟩⟩
theorem OwnsM.take {A : Option Addr} {m c : Nat} (h : OwnsM w (.slice A m c) n xs) (k : Nat) (hk : k ≤ n) : OwnsM w (.slice A k c) k (xs.take k) := by
  refine ⟨by rw [List.length_take, h.1]; omega, ?_⟩
  rcases h.2 with ⟨h2, h3⟩ | ⟨g, cap, cur, fz, h2, h3, hf, h4, h5, h6, h7⟩
  · cases h2
    obtain rfl : k = 0 := by omega
    exact .inl ⟨rfl, rfl⟩
  · cases h2
    refine .inr ⟨g, c, cur, fz, rfl, h3, hf, by omega, h5, h6, ?_⟩
    rw [← h7, List.take_take]
    congr 1
    omega
theorem OwnsM.len {A : Option Addr} {m c : Nat} (h : OwnsM w (.slice A m c) n xs) : m = n ∧ n ≤ c := by
  rcases h.2 with ⟨h2, h3⟩ | ⟨g, cap, cur, fz, h2, h3, hf, h4, _⟩
  · cases h2; exact ⟨h3.symm, by omega⟩
  · cases h2; exact ⟨rfl, h4⟩
theorem OwnsM.nil (w : World) : OwnsM w (.slice none 0 0) 0 [] := ⟨rfl, .inl ⟨rfl, rfl⟩⟩
theorem OwnsM.spot {A : Option Addr} {m c : Nat} (h : OwnsM w v n xs) (hv : v = .slice A m c) : ∀ ad, A = some ad → ad.spot = none := by
  intro ad e
  rcases h.2 with ⟨h2, _⟩ | ⟨g, cap, cur, fz, h2, _⟩
  · rw [h2] at hv; cases hv; cases e
  · rw [h2] at hv; cases hv; cases e; rfl
end
theorem marked_free {w : World} {g k : Nat} {cur : Array Value} {t : TypeId} {fz : Nat × Nat} (hg : w.heap[g]? = some (.cells cur t fz)) (hm : cur.size ≤ fz.1) (hk : k < cur.size) : w.frozen? ⟨g, k, none⟩ = false := by
  have : ¬ fz.1 ≤ k := by omega
  obtain ⟨p, q⟩ := fz
  simp only [World.frozen?, hg]
  simp at this
  simp
  omega
/-- Cells stored in a marked row. -/
theorem store_marked (g o : Nat) (t : TypeId) (fz : Nat × Nat) (vs : List Value) : ∀ (i : Nat) (cur : Array Value) (w : World), w.heap[g]? = some (.cells cur t fz) → cur.size ≤ fz.1 → o + i + vs.length ≤ cur.size → (∀ v ∈ vs, v.oneCell' = true) →
    (storeCells ⟨g, o, none⟩ vs i).run Try.prog w = .ok () (w.setRow g (cur.toList.take (o + i) ++ vs ++ cur.toList.drop (o + i + vs.length)).toArray) := by
  induction vs with
  | nil =>
    intro i cur w hg _ _ _
    have e : (cur.toList.take (o + i) ++ [] ++ cur.toList.drop (o + i + ([] : List Value).length)).toArray = cur := by simp
    rw [e, setRow_self w g cur t fz hg]
    rfl
  | cons v rest ih =>
    intro i cur w hg hm hl h1
    rw [List.length_cons] at hl
    have hlt : o + i < cur.size := by omega
    have hcell : w.cell? ⟨g, o + i, none⟩ = some cur[o + i] := by rw [cell_of_row w g (o + i) cur t fz hg]; simp [hlt]
    have hst : (store ((⟨g, o, none⟩ : Addr).add i) v).run Try.prog w = .ok () (w.setRow g (cur.setIfInBounds (o + i) v)) := by
      rw [addoff, run_store Try.prog w _ v _ (h1 v (List.mem_cons_self ..)), hcell]
      simp [marked_free hg hm hlt, setCell_eq_setRow w g (o + i) cur t fz v hg]
    have hnext := ih (i + 1) (cur.setIfInBounds (o + i) v) (w.setRow g (cur.setIfInBounds (o + i) v)) (setRow_heap w g cur _ t _ hg) (by simpa using hm) (by simp; omega) (fun x hx => h1 x (List.mem_cons_of_mem _ hx))
    simp only [storeCells, Sem.run_bind, hst, Result.andThen_ok, hnext, setRow_setRow]
    congr 3
    have e := list_seg_step cur.toList (o + i) v rest (by simp; omega)
    simpa [Array.toList_setIfInBounds, Nat.add_assoc] using e
theorem append_marked (w : World) (ty : TypeId) (i0 : TypeInfo) (hi : Try.prog.info? 5 = some i0) (hz1 : i0.size = 1) (g N cap : Nat) (cur : Array Value) (fz : Nat × Nat) (h3 : w.heap[g]? = some (.cells cur 5 fz)) (hm : cur.size ≤ fz.1) (h6 : cur.size = cap) (ad : Addr) (n c : Nat) (news : List Value) (hl : news.length = n)
    (hn : ∀ j u, news[j]? = some u → w.cell? (ad.add j) = some u) (h1 : ∀ u ∈ news, u.oneCell' = true) (hroom : N + n ≤ cap) :
    (Builtin.append_ #[35, 35] ty #[.slice (some ⟨g, 0, none⟩) N cap, .slice (some ad) n c]).run Try.prog w = .ok (.slice (some ⟨g, 0, none⟩) (N + n) cap) (w.setRow g (cur.toList.take N ++ news ++ cur.toList.drop (N + news.length)).toArray) := by
  have hf := run_firstCells_some (P := Try.prog) w i0.size n ad n c news (by rw [hz1, hl, Nat.mul_one]) hn
  have hst := store_marked g (N * i0.size) 5 fz news 0 cur w h3 hm (by rw [hz1]; omega) h1
  rw [hz1] at hf hst
  simp only [Nat.add_zero, Nat.mul_one] at hst hf
  simp [Builtin.append_, run_underlying Try.underlying35, sizeOf, typeInfo, hi, hz1, Builtin.lenOf, hroom, hf, Addr.add_lit, hst]
/-- Bytes behind a row's. -/
theorem run_bytes {w : World} (ty : Nat) (v : Value) (l : List UInt8) (N : Nat) (hown : OwnsM w v N (cellsB l)) (A : Option Addr) (n c : Nat) (m : List UInt8) (hm : m.length = n)
    (hr : Rd w A m) (hn : A = none → c = 0) (hc : n ≤ c) (b1 : N + n ≤ 1048576) (i0 : TypeInfo) (hi : Try.prog.info? 5 = some i0) (hz0 : i0.zero = some (.int .u8 0)) (hz1 : i0.size = 1) (hz2 : i0.bytes = 1) :
    ∃ v' w', (Builtin.append_ #[35, 35] ty #[v, .slice A n c]).run Try.prog w = .ok v' w' ∧ OwnsM w' v' (N + n) (cellsB l ++ cellsB m) ∧ w.grownBy w' v.ownBlock ∧ (v'.ownBlock = v.ownBlock ∨ v'.ownBlock = some w.heap.size) := by
  have hcl := cellsB_len m
  have same : ∀ x : World, x.grownBy x v.ownBlock := fun x => ⟨rfl, rfl, rfl, Nat.le_refl _, fun _ _ _ => rfl⟩
  have old : w.ownsRow 0 5 1 v N (cellsB l) → ∃ v' w', (Builtin.append_ #[35, 35] ty #[v, .slice A n c]).run Try.prog w = .ok v' w' ∧ OwnsM w' v' (N + n) (cellsB l ++ cellsB m) ∧ w.grownBy w' v.ownBlock ∧ (v'.ownBlock = v.ownBlock ∨ v'.ownBlock = some w.heap.size) := fun ho => by
    cases A with
    | some ad =>
      obtain ⟨v', w', hrun, h1, h2, _, h4⟩ := run_append_own_at (P := Try.prog) (w := w) 0 35 ty 5 i0 _ 1 1 Try.underlying35 hi hz0 hz1 hz2 rfl (by omega) v N (cellsB l) ho ad n c (cellsB m) (by rw [hcl]; omega) hr.rdV.news (cellsB_one m) (by simp only [maxLen]; omega) (by omega) (Nat.zero_le _)
      exact ⟨v', w', hrun, .of h1, h2, h4⟩
    | none =>
      have hc0 := hn rfl
      subst hc0
      obtain rfl : n = 0 := by omega
      have hnil : m = [] := List.eq_nil_of_length_eq_zero hm
      subst hnil
      have hrun := run_append_owned_none (P := Try.prog) (w := w) 0 35 ty 5 i0 1 Try.underlying35 hi _ N _ ho
      exact ⟨v, w, hrun, by simpa [cellsB] using hown, same w, .inl rfl⟩
  rcases hown.2 with ⟨rfl, rfl⟩ | ⟨g, cap, cur, fz, rfl, h3, hfz, h4, h5, h6, h7⟩
  · exact old ⟨hown.1, .inl ⟨rfl, rfl⟩⟩
  · rcases hfz with rfl | hmk
    · exact old ⟨by simpa using hown.1, .inr ⟨g, cap, cur, rfl, Nat.zero_le _, h3, h4, h5, by simpa using h6, by simpa using h7⟩⟩
    · cases A with
      | none =>
        have hc0 := hn rfl
        subst hc0
        obtain rfl : n = 0 := by omega
        have hnil : m = [] := List.eq_nil_of_length_eq_zero hm
        subst hnil
        refine ⟨_, w, ?_, by simpa [cellsB] using hown, same w, .inl rfl⟩
        simp [Builtin.append_, run_underlying Try.underlying35, sizeOf, typeInfo, hi, Builtin.lenOf, Builtin.firstCells, loadCells, loadCellsFrom, storeCells, h4]
      | some ad =>
        by_cases hroom : N + n ≤ cap
        · have hrun := append_marked w ty i0 hi hz1 g N cap cur fz h3 hmk h6 ad n c (cellsB m) (by rw [hcl, hm]) hr.rdV.news (cellsB_one m) hroom
          refine ⟨_, _, hrun, ⟨by rw [List.length_append, hown.1, hcl, hm], .inr ⟨g, cap, _, fz, rfl, setRow_heap w g cur _ 5 _ h3, .inr ?_, hroom, h5, ?_, ?_⟩⟩, ⟨rfl, rfl, rfl, by simp, fun k _ hk => setRow_other w g k _ (fun e => hk (by simp [Value.ownBlock, e]))⟩, .inl rfl⟩
          · simp only [List.size_toArray, List.length_append, List.length_take, List.length_drop, Array.length_toList]
            omega
          · simp only [List.size_toArray, List.length_append, List.length_take, List.length_drop, Array.length_toList]
            omega
          · have e1 : (cellsB l ++ cellsB m).length = N + n := by rw [List.length_append, hown.1, hcl, hm]
            rw [h7, ← e1]
            exact List.take_left
        · have hr2 := run_append_grow (P := Try.prog) w 35 ty 5 i0 (.int .u8 0) Try.underlying35 hi hz0 ⟨g, 0, none⟩ N cap (cellsB l) (by rw [hz1, hown.1, Nat.mul_one]) (fun j u hu => by
            obtain ⟨hj, he⟩ := List.getElem?_eq_some_iff.1 hu
            rw [add0, OwnsM.cellAt (cap := cap) h3 h7 j hj, he]) ad n c (cellsB m) (by rw [hz1, hcl, hm, Nat.mul_one]) hr.rdV.news (by omega) (by omega) (growslice_fits (by omega) (by rw [hz2]; omega))
          have hge := grownCap_ge w (N + n) cap 5
          have hle := grownCap_le_maxLen w (N + n) cap 5 (by simp only [maxLen]; omega)
          refine ⟨_, _, hr2, ⟨by rw [List.length_append, hown.1, hcl, hm], .inr ⟨w.heap.size, _, _, (0, 0), rfl, heap_alloc_new w.drew _, .inl rfl, hge, hle, ?_, ?_⟩⟩, ⟨rfl, rfl, rfl, by simp, fun k hk _ => heap_alloc_old w.drew _ k hk⟩, .inr rfl⟩
          · have hz : (Value.int IntKind.u8 0).cells.size = 1 := rfl
            simp only [Array.size_append, List.size_toArray, size_zeroCells, hz, hown.1, hcl, hm]
            omega
          · have e1 : (cellsB l ++ cellsB m).length = N + n := by rw [List.length_append, hown.1, hcl, hm]
            simp only [Array.toList_append, List.append_assoc]
            rw [← List.append_assoc, ← e1]
            exact List.take_left
/-- A text's bytes, in a row of their own. -/
theorem conv_own (w : World) (s : ByteArray) (hs : s.size ≤ maxLen) : ∃ c, (convert 9 35 (.string s)).run Try.prog w = .ok (.slice (some ⟨w.heap.size, 0, none⟩) s.size c) (Go.Lib.bytesWorld w 5 s) ∧ OwnsM (Go.Lib.bytesWorld w 5 s) (.slice (some ⟨w.heap.size, 0, none⟩) s.size c) s.size (cellsB s.data.toList) ∧ Below w.heap.size w (Go.Lib.bytesWorld w 5 s) ∧ (Go.Lib.bytesWorld w 5 s).heap.size = w.heap.size + 1 := by
  have hsz : s.data.toList.length = s.size := by rw [Array.length_toList]; rfl
  have hge := grownCap_ge w s.size 0 5
  have hsd : s.data.size = s.size := rfl
  refine ⟨_, Go.Lib.run_convert_string_bytes (P := Try.prog) w 9 35 5 s Try.underlying9 Try.underlying35 Try.underlying5, ⟨by rw [cellsB_len, hsz], .inr ⟨w.heap.size, _, _, _, rfl, Go.Lib.bytesWorld_at_new w 5 s, .inr (Nat.le_refl _), hge, grownCap_le_maxLen w s.size 0 5 hs, ?_, ?_⟩⟩, ⟨rfl, rfl, rfl, by rw [Go.Lib.bytesWorld_size]; omega, fun k hk => Go.Lib.bytesWorld_at_old w 5 s k hk⟩, Go.Lib.bytesWorld_size w 5 s⟩
  · simp only [Go.Lib.bytesCells, Array.size_append, Array.size_map, Array.size_replicate, hsd]
    omega
  · have e1 : (cellsB s.data.toList).length = s.size := by rw [cellsB_len, hsz]
    simp only [Go.Lib.bytesCells, Array.toList_append, Array.toList_map]
    rw [← e1]
    exact List.take_left
end Go.Proofs.Ytcfglgejjmapdaa
