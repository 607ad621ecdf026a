/- Texts gathered from a deque that is gone over. -/
import Derived.Test.YtnnlfhdjakabmaaRangeB
namespace Go.Proofs.Ytnnlfhdjakabmaa
open Go Go.RowKit
open Go.Shelf
/-- What holds between two rounds. -/
structure AmI (w : World) (B : Nat) (pre : List (Nat × ByteArray)) (W : World) : Prop where
  out : ∃ v, W.heap[w.heap.size]? = some (.cells #[v] 29 (0, 0)) ∧ W.ownsRow B 9 1 v pre.length (cellsS (pre.map Prod.snd))
  below : Below w.heap.size w W
  size : B ≤ W.heap.size
theorem AmI.keep {w : World} {B : Nat} (hB : w.heap.size ≤ B) {pre : List (Nat × ByteArray)} {A A' : World} {row : Option Nat} (h : AmI w B pre A) (hg : A.grownBy A' row) (ht : ∀ r, row = some r → B ≤ r ∧ ∃ o : Obj, A.heap[r]? = some o ∧ o.isCells = false) : AmI w B pre A' := by
  have ht' : ∀ r, row = some r → ∃ o : Obj, A.heap[r]? = some o ∧ o.isCells = false := fun r e => (ht r e).2
  obtain ⟨⟨v, h1, h2⟩, h5, h6⟩ := h
  exact ⟨⟨v, cells_keepc h1 hg ht', own_keepc h2 hg ht'⟩, h5.grown hg h5.size (fun k e => by have := (ht k e).1; omega), Nat.le_trans h6 hg.size⟩
theorem am_step {w W w3 : World} {B : Nat} (hB : w.heap.size + 1 ≤ B) {pre : List (Nat × ByteArray)} {x : Nat × ByteArray} {v v' : Value} (hv : W.heap[w.heap.size]? = some (.cells #[v] 29 (0, 0))) (ho : W.ownsRow B 9 1 v pre.length (cellsS (pre.map Prod.snd))) (h5 : Below w.heap.size w W) (h6 : B ≤ W.heap.size)
    (ho3 : w3.ownsRow B 9 1 v' (pre.length + 1) (cellsS (pre.map Prod.snd) ++ [.string x.2])) (hg3 : (W.alloc (.cells #[.string x.2] 9)).grownBy w3 v.ownBlock) :
    Hid (w3.heap[w.heap.size]? = some (.cells #[v] 29 (0, 0))) ∧
    Hid (KeepsOthers W (w3.setCell ⟨w.heap.size, 0, none⟩ v')) ∧ Hid (Same2 B w.heap.size w.heap.size W (w3.setCell ⟨w.heap.size, 0, none⟩ v')) ∧
    Hid (AmI w B (pre ++ [x]) (w3.setCell ⟨w.heap.size, 0, none⟩ v')) := by
  have bB : Below B W w3 := ((Below.refl B W).alloc h6 (.cells #[.string x.2] 9)).grown hg3 (by simp; omega) (fun k hk => (ho.lt k hk).1)
  have c3 : w3.heap[w.heap.size]? = some (.cells #[v] 29 (0, 0)) := (bB.block _ (by omega)).trans hv
  have below3 : Below w.heap.size w w3 := h5.trans (bB.mono (by omega))
  have ko : KeepsOthers W w3 := (KeepsOthers.alloc W _).trans (KeepsOthers.of_grownBy hg3 (fun j o e he => by
    rcases ho.2 with ⟨e2, _⟩ | ⟨g2, cap2, cur2, e2, hb2, hgg2, _⟩
    · rw [e2] at e; cases e
    · rw [e2] at e
      cases e
      have : (W.alloc (.cells #[.string x.2] 9)).heap[g2]? = some (.cells cur2 9 (0, 0)) := (Below.heap_alloc W _ g2 (Array.getElem?_eq_some_iff.1 hgg2).1).trans hgg2
      rw [this] at he
      cases he
      rfl))
  refine ⟨c3, ko.trans (KeepsOthers.setCell _ _ _), ⟨fun k hk hk1 _ => ?_, ?_⟩, ?_⟩
  · exact (Below.heap_setCell _ ⟨w.heap.size, 0, none⟩ _ k hk1).trans (bB.block k hk)
  · simp [World.setCell]; exact bB.size
  · have nb : ∀ (u : Value) (n : Nat) (xs : List Value) (e : TypeId) (W' : World), W'.ownsRow B e 1 u n xs → ∀ k, k < B → u.ownBlock ≠ some k := fun u n xs e W' h k hk e2 => by have := (h.lt k e2).1; omega
    have q0 := one_setCell (u := v') c3
    refine ⟨⟨v', q0, ?_⟩, below3.setCell (p := ⟨w.heap.size, 0, none⟩) (Nat.le_refl _) _, by simp [World.setCell]; exact Nat.le_trans h6 bB.size⟩
    rw [List.length_append, List.map_append, cellsS_app]
    exact ownsRow_setCell_other ho3 (a := ⟨w.heap.size, 0, none⟩) (nb _ _ _ _ _ ho3 w.heap.size (by omega)) v'
theorem two_marks {F : Fence} {n : Nat} {fn : Func} {tmps : Array Value} {w0 W6 V : World} {D1 D2 : Nat} {v : Value} (hb : Below w0.heap.size w0 W6) (hv : Below W6.heap.size W6 V) (h1 : W6.heap[D1]? = some (.deferred (some []))) (h2 : W6.heap[D2]? = some (.deferred (some []))) (hne : D1 ≠ D2) (h3 : w0.heap.size ≤ D1) (h4 : w0.heap.size ≤ D2)
    (u : Value) (hr : ∀ W, (results fn tmps).run Try.prog W = .ok v W) (R : Ending → World → Prop) (hR : ∀ W, Below w0.heap.size w0 W → R (.returned v) W) :
    LeavesInM F n Try.prog fn tmps R [{ target := .collected D2, args := #[] }, { target := .collected D1, args := #[] }] .returning V := by
  have k2 := (hv.block D2 (Array.getElem?_eq_some_iff.1 h2).1).trans h2
  have k1 := (hv.block D1 (Array.getElem?_eq_some_iff.1 h1).1).trans h1
  have b0 := hb.trans (hv.mono hb.size)
  refine ⟨by simp, .inl ⟨_, _, rfl, run_takeDeferred k2, ?_⟩⟩
  have k1' : (V.putObj D2 (.deferred none)).heap[D1]? = some (.deferred (some [])) := (World.putObj_heap_other (by omega)).trans k1
  refine ⟨by simp, .inl ⟨_, _, rfl, run_takeDeferred k1', ?_⟩⟩
  refine ⟨v, hr _, hR _ ?_⟩
  have g2 : V.grownBy (V.putObj D2 (.deferred none)) (some D2) := grownBy_putObj' _ _ _
  have g1 : (V.putObj D2 (.deferred none)).grownBy ((V.putObj D2 (.deferred none)).putObj D1 (.deferred none)) (some D1) := grownBy_putObj' _ _ _
  have b1 := b0.grown g2 b0.size (fun k e => by cases e; exact h4)
  exact b1.grown g1 b1.size (fun k e => by cases e; exact h3)
theorem new_ps (w : World) (A : Option Addr) (n c : Nat) (ls : List ByteArray) (W : World) (hb : Below w.heap.size w W) (hn : ls.length = n) (ha : RdV W A (cellsS ls)) (hlong : longB ls = false) (hfit : n ≤ 65536) :
    Calls Try.prog 19 #[.slice A n c] W fun e W' => ∃ D, e = .returned (.tuple #[.pointer (some ⟨D, 0, none⟩), .int .i64 0]) ∧ PS w D ls (fun _ => False) W' :=
  (new_ds w A n c ls W hb hn ha hlong hfit).mono fun e W' ⟨D, he, ⟨r, h1, h2⟩, h3⟩ => ⟨D, he, r, h1, h2, h3, fun k hk => hk.elim⟩
/-- A number that stands in block C2, and what was there before. -/
def OneI (V : World) (C2 : Nat) (k : Int) (W : World) : Prop := W.heap[C2]? = some (.cells #[.int .i64 k] 3 (0, 0)) ∧ Below C2 V W
theorem OneI.keep {V : World} {C2 S : Nat} {k : Int} (hV : C2 ≤ V.heap.size) (hS : C2 < S) {A A' : World} {row : Option Nat} (h : OneI V C2 k A) (hg : A.grownBy A' row) (ht : ∀ r, row = some r → S ≤ r ∧ ∃ o : Obj, A.heap[r]? = some o ∧ o.isCells = false) : OneI V C2 k A' :=
  ⟨cells_keepc h.1 hg (fun r e => (ht r e).2), h.2.grown hg (Nat.le_trans hV (by have := h.2.size; omega)) (fun j e => by have := (ht j e).1; omega)⟩
/-- The iterator of a deque, and the deque: their blocks are apart. -/
def AllP (w : World) (D : Nat) (l : List ByteArray) (E : Nat) (A : Option Addr) (c : Nat) (M : List ByteArray) (W : World) : Prop := PS w D M (fun k => k = E ∨ LB A l k) W ∧ W.heap[E]? = some (.cells #[.slice A l.length c] 29 (0, 0)) ∧ RdV W A (cellsS l)
theorem all_ps (w : World) (D : Nat) (l : List ByteArray) (W : World) (h : PS w D l (fun _ => False) W) :
    Calls Try.prog 35 #[.pointer (some ⟨D, 0, none⟩)] W fun e W' => ∃ E A c, e = .returned (.func (.func 49) #[] #[.pointer (some ⟨E, 0, none⟩)]) ∧ AllP w D l E A c l W' := by
  obtain ⟨r, hd, hf, hb, h4⟩ := h
  refine (all_any D r l W hd).mono fun e W' ⟨E, A, c, he, h1, h2, h3, h5, h6⟩ => ⟨E, A, c, he, ?_, h1, h3⟩
  refine (PS.new (S := fun _ => False) ⟨r, hd, hf, hb, h4⟩ h6 (fun k hk => .inr ?_))
  rcases hk with rfl | ⟨h0, off, e⟩
  · exact ⟨h2, (Array.getElem?_eq_some_iff.1 h1).1⟩
  · obtain ⟨b, o2, e2, hlt, _⟩ := h3 (by rw [cellsS_len]; exact h0)
    rw [e] at e2
    cases e2
    exact ⟨h5 _ e, hlt⟩
theorem allp_front (w : World) (D : Nat) (l : List ByteArray) (E : Nat) (A : Option Addr) (c : Nat) (M : List ByteArray) (t : ByteArray) (W : World) (h : AllP w D l E A c M W) (ht : t.size ≤ 1048576) (hM : M.length + 1 ≤ 65536) :
    Calls Try.prog 20 #[.pointer (some ⟨D, 0, none⟩), .slice (some ⟨W.heap.size, 0, none⟩) 1 1] (W.alloc (.cells #[.string t] 9)) fun e W' => e = .returned (.int .i64 0) ∧ AllP w D l E A c (t :: M) W' := by
  obtain ⟨h1, h2, h3⟩ := h
  have hb := below_new W (.cells #[.string t] 9)
  have h4 := h1.new (T := fun k => (k = E ∨ LB A l k) ∨ k = W.heap.size) hb (fun k hk => hk.elim .inl (fun e => .inr (by subst e; exact ⟨Nat.le_refl _, by simp⟩)))
  refine (ps_front W.heap.size t _ h4 (new_rdS W [t]) (.inr rfl) ht hM).mono fun e W' ⟨he, hp, hk⟩ => ⟨he, hp.mono (fun k hk => .inl hk), ?_, ?_⟩
  · rw [hk.1 E (.inl (.inl rfl)), hb.block E (Array.getElem?_eq_some_iff.1 h2).1, h2]
  · exact (h3.below hb).keepS hk (fun k off h0 e => .inl (.inr ⟨by simpa [cellsS] using h0, off, e⟩))
end Go.Proofs.Ytnnlfhdjakabmaa
