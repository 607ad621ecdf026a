/- Lex: a text's words, or the place where there is none. -/
import Derived.Test.YtejicjcdbfjajaaDoorEac
import Derived.Deep.CutRange
import Derived.OwnWalkIn
import Derived.OneCell
import Derived.Deep.AppendLies
namespace Go.Proofs.YtejicjcdbfjajaaDoor
open Go Go.RowKit
open Go.Shelf
attribute [local go_sem] Oper.semAt_some
/-- The cells of words. -/
def wdsC (xs : List Itm) : List Value := xs.flatMap fun x => (wdV x.at_ x.o).toList
theorem wdV_len (a : Nat) (o : Option Wd) : (wdV a o).toList.length = 4 := by
  rcases o with _ | ⟨k, t, n, e⟩ <;> rfl
theorem wdV_one (a : Nat) (o : Option Wd) : ∀ u ∈ (wdV a o).toList, u.oneCell' = true := by
  rcases o with _ | ⟨k, t, n, e⟩ <;> simp [wdV, Value.oneCell']
theorem wdsC_snoc (xs : List Itm) (x : Itm) : wdsC (xs ++ [x]) = wdsC xs ++ (wdV x.at_ x.o).toList := by simp [wdsC]
theorem own4_keepc {A A' : World} {B n : Nat} {e : TypeId} {v : Value} {xs : List Value} {row : Option Nat} (h : A.ownsRow B e 4 v n xs) (hg : A.grownBy A' row) (ht : ∀ r, row = some r → ∃ o : Obj, A.heap[r]? = some o ∧ o.isCells = false) : A'.ownsRow B e 4 v n xs := by
  refine h.kept hg ?_
  rcases h.2 with ⟨rfl, _⟩ | ⟨g, cap, cur, rfl, hb, hgg, rest⟩
  · exact .inl rfl
  · right
    intro e
    obtain ⟨o, ho, hc⟩ := ht g e.symm
    rw [hgg] at ho
    cases ho
    cases hc
theorem own4_slice {A : World} {B n : Nat} {e : TypeId} {v : Value} {xs : List Value} (h : A.ownsRow B e 4 v n xs) : ∃ ad c, v = .slice ad n c := by
  rcases h.2 with ⟨rfl, rfl⟩ | ⟨g, cap, cur, rfl, hb, hgg, rest⟩
  · exact ⟨_, _, rfl⟩
  · exact ⟨_, _, rfl⟩
theorem own4_down {w : World} {base base' n : Nat} {e : TypeId} {v : Value} {xs : List Value} (h : w.ownsRow base e 4 v n xs) (hb : base' ≤ base) : w.ownsRow base' e 4 v n xs := by
  refine ⟨h.1, ?_⟩
  rcases h.2 with h | ⟨g, cap, cur, hv, hg, r⟩
  · exact .inl h
  · exact .inr ⟨g, cap, cur, hv, Nat.le_trans hb hg, r⟩
theorem cells_keepx {A A' : World} {k : Nat} {c : Array Value} {t : TypeId} {row : Option Nat} (h : A.heap[k]? = some (.cells c t (0, 0))) (hg : A.grownBy A' row) (ht : ∀ r, row = some r → ∃ o : Obj, A.heap[r]? = some o ∧ o.isCells = false) : A'.heap[k]? = some (.cells c t (0, 0)) := by
  refine (hg.block k (Array.getElem?_eq_some_iff.1 h).1 fun e => ?_).trans h
  obtain ⟨o, ho, hc⟩ := ht k e.symm
  rw [h] at ho
  cases ho
  cases hc
theorem Keep9.set {W : World} {g : Nat} {c : Array Value} {t : TypeId} {fr : Nat × Nat} (h : W.heap[g]? = some (.cells c t fr)) (h1 : t ≠ 74) (h2 : t ≠ 9) (j : Nat) (v : Value) : Keep9 W (W.setCell ⟨g, j, none⟩ v) := by
  refine ⟨by simp [World.setCell], fun i es cl e => ?_, fun i cs t' fr' ht e => ?_⟩
  · refine (Below.heap_setCell _ ⟨g, j, none⟩ _ i (fun q => ?_)).trans e
    have q' : i = g := q
    rw [q', h] at e
    cases e
  · refine (Below.heap_setCell _ ⟨g, j, none⟩ _ i (fun q => ?_)).trans e
    have q' : i = g := q
    rw [q', h] at e
    cases e
    rcases ht with e | e
    · exact h1 e
    · exact h2 e
theorem Keep9.grown {W W' : World} {row : Option Nat} (hg : W.grownBy W' row) (hr : ∀ r, row = some r → ∃ c fr, W.heap[r]? = some (.cells c 31 fr)) : Keep9 W W' := by
  refine ⟨hg.size, fun i es cl e => ?_, fun i cs t' fr' ht e => ?_⟩
  · refine (hg.block i (Array.getElem?_eq_some_iff.1 e).1 fun q => ?_).trans e
    obtain ⟨c, fr, h⟩ := hr i q.symm
    rw [h] at e
    cases e
  · refine (hg.block i (Array.getElem?_eq_some_iff.1 e).1 fun q => ?_).trans e
    obtain ⟨c, fr, h⟩ := hr i q.symm
    rw [h] at e
    cases e
    rcases ht with e | e <;> cases e
/-- What stands in the answer's cells. -/
structure Ans (w : World) (v : Value) (a e : Int) (W : World) : Prop where
  r0 : W.heap[w.heap.size]? = some (.cells #[v] 23 (0, 0))
  r1 : W.heap[w.heap.size + 1]? = some (.cells #[.int .i64 a] 3 (0, 0))
  r2 : W.heap[w.heap.size + 1 + 1]? = some (.cells #[.int .i64 e] 24 (0, 0))
  below : Below w.heap.size w W
theorem Ans.keep {w : World} {v : Value} {a e : Int} {A A' : World} {row : Option Nat} (h : Ans w v a e A) (hg : A.grownBy A' row) (ht : ∀ r, row = some r → w.heap.size ≤ r ∧ ∃ o : Obj, A.heap[r]? = some o ∧ o.isCells = false) : Ans w v a e A' := by
  have ht' : ∀ r, row = some r → ∃ o : Obj, A.heap[r]? = some o ∧ o.isCells = false := fun r e => (ht r e).2
  exact ⟨cells_keepx h.r0 hg ht', cells_keepx h.r1 hg ht', cells_keepx h.r2 hg ht', h.below.grown hg h.below.size (fun k e => (ht k e).1)⟩
/-- What holds between two rounds. -/
structure LexI (w : World) (pre : List Itm) (W : World) : Prop where
  ans : Ans w (.slice none 0 0) 0 0 W
  out : ∃ v, W.heap[w.heap.size + 1 + 1 + 1]? = some (.cells #[v] 23 (0, 0)) ∧ W.ownsRow (w.heap.size + 5) 31 4 v pre.length (wdsC pre)
  size : w.heap.size + 5 ≤ W.heap.size
theorem LexI.keep {w : World} {pre : List Itm} {A A' : World} {row : Option Nat} (h : LexI w pre A) (hg : A.grownBy A' row) (ht : ∀ r, row = some r → w.heap.size ≤ r ∧ ∃ o : Obj, A.heap[r]? = some o ∧ o.isCells = false) : LexI w pre A' := by
  obtain ⟨v, h1, h2⟩ := h.out
  have ht' : ∀ r, row = some r → ∃ o : Obj, A.heap[r]? = some o ∧ o.isCells = false := fun r e => (ht r e).2
  exact ⟨h.ans.keep hg ht, ⟨v, cells_keepx h1 hg ht', own4_keepc h2 hg ht'⟩, Nat.le_trans h.size hg.size⟩
/-- What holds where it left. -/
def LexE (w : World) (xs : List Itm) (W : World) : Prop := ∃ (pre : List Itm) (b : Nat), xs = pre ++ [⟨b, none⟩] ∧ Ans w (.slice none 0 0) b 210 W
theorem LexE.keep {w : World} {xs : List Itm} {A A' : World} {row : Option Nat} (h : LexE w xs A) (hg : A.grownBy A' row) (ht : ∀ r, row = some r → w.heap.size ≤ r ∧ ∃ o : Obj, A.heap[r]? = some o ∧ o.isCells = false) : LexE w xs A' := by
  obtain ⟨pre, b, e, h⟩ := h
  exact ⟨pre, b, e, h.keep hg ht⟩
def LexQ (w : World) (s : ByteArray) (e : Ending) (w' : World) : Prop :=
  Below w.heap.size w w' ∧
  ((1048576 < s.size ∧ e = .returned (.tuple #[.slice none 0 0, .int .i64 0, .int .i64 3])) ∨
   (s.size ≤ 1048576 ∧ (∀ x ∈ lexT (bl s), x.o ≠ none) ∧ ∃ v, e = .returned (.tuple #[v, .int .i64 0, .int .i64 0]) ∧ w'.ownsRow w.heap.size 31 4 v (lexT (bl s)).length (wdsC (lexT (bl s)))) ∨
   (s.size ≤ 1048576 ∧ ∃ (pre : List Itm) (b : Nat), lexT (bl s) = pre ++ [⟨b, none⟩] ∧ (∀ x ∈ pre, x.o ≠ none) ∧ e = .returned (.tuple #[.slice none 0 0, .int .i64 (b : Nat), .int .i64 210])))
theorem w31_info : (Tryd.prog.info? 31).map (fun i => (i.zero, i.size, i.bytes)) = some (some (.agg #[.int .i64 0, .string ⟨#[]⟩, .int .i64 0, .int .i64 0]), 4, 40) := by kernel_rfl
theorem res10 (tmps : Array Value) (g0 g1 g2 : Nat) (v : Value) (a e : Int) (W : World) (t2 : tmps.getD 2 undef = .pointer (some ⟨g0, 0, none⟩)) (t3 : tmps.getD 3 undef = .pointer (some ⟨g1, 0, none⟩)) (t4 : tmps.getD 4 undef = .pointer (some ⟨g2, 0, none⟩))
    (c0 : W.heap[g0]? = some (.cells #[v] 23 (0, 0))) (c1 : W.heap[g1]? = some (.cells #[.int .i64 a] 3 (0, 0))) (c2 : W.heap[g2]? = some (.cells #[.int .i64 e] 24 (0, 0))) :
    (results Tryd.f10 tmps).run Tryd.prog W = .ok (.tuple #[v, .int .i64 a, .int .i64 e]) W := by
  have q0 := cell_of_one c0
  have q1 := cell_of_one c1
  have q2 := cell_of_one c2
  simp only [Array.getD_eq_getD_getElem?] at t2 t3 t4
  simp [results, Tryd.results10, t2, t3, t4, q0, q1, q2, go_sem]
/-- A round that goes on. -/
theorem lex_step {w W w3 : World} {pre : List Itm} {x : Itm} {v v' : Value} (h : LexI w pre W) (hv : W.heap[w.heap.size + 1 + 1 + 1]? = some (.cells #[v] 23 (0, 0))) (ho : W.ownsRow (w.heap.size + 5) 31 4 v pre.length (wdsC pre))
    (ho3 : w3.ownsRow (w.heap.size + 5) 31 4 v' (pre.length + 1) (wdsC pre ++ (wdV x.at_ x.o).toList)) (hg3 : (W.alloc (.cells (wdV x.at_ x.o) 31)).grownBy w3 v.ownBlock) :
    Hid (w3.heap[w.heap.size + 1 + 1 + 1]? = some (.cells #[v] 23 (0, 0))) ∧ Hid (onPost Keep9 (LexI w) (pre ++ [x]) W .normal { tmps := #[], defers := [] } (w3.setCell ⟨w.heap.size + 1 + 1 + 1, 0, none⟩ v')) := by
  have bB : Below (w.heap.size + 5) W w3 := ((Below.refl _ W).alloc h.size (.cells (wdV x.at_ x.o) 31)).grown hg3 (by simp; have := h.size; omega) (fun k hk => (ho.lt k hk).1)
  have c3 : w3.heap[w.heap.size + 1 + 1 + 1]? = some (.cells #[v] 23 (0, 0)) := (bB.block _ (by omega)).trans hv
  have row31 : ∀ r, v.ownBlock = some r → ∃ c fr, (W.alloc (.cells (wdV x.at_ x.o) 31)).heap[r]? = some (.cells c 31 fr) := by
    intro r hr
    rcases ho.2 with ⟨e2, _⟩ | ⟨g2, cap2, cur2, e2, hb2, hgg2, _⟩
    · rw [e2] at hr; cases hr
    · rw [e2] at hr
      cases hr
      exact ⟨cur2, _, (Below.heap_alloc W _ g2 (Array.getElem?_eq_some_iff.1 hgg2).1).trans hgg2⟩
  have ko : KeepsOthers W w3 := (KeepsOthers.alloc W _).trans (KeepsOthers.of_grownBy hg3 (fun j o e he => by
    obtain ⟨c, fr, h1⟩ := row31 j e
    rw [h1] at he
    cases he
    rfl))
  have k9 : Keep9 W w3 := (Keep9.below (below_new W _)).trans (Keep9.grown hg3 row31)
  have off : ∀ k, k ≠ w.heap.size + 1 + 1 + 1 → (w3.setCell ⟨w.heap.size + 1 + 1 + 1, 0, none⟩ v').heap[k]? = w3.heap[k]? := fun k hk => Below.heap_setCell _ ⟨w.heap.size + 1 + 1 + 1, 0, none⟩ _ k hk
  refine ⟨c3, ko.trans (KeepsOthers.setCell _ _ _), k9.trans (Keep9.set c3 (by decide) (by decide) _ _), ⟨⟨?_, ?_, ?_, ?_⟩, ⟨v', one_setCell c3, ?_⟩, ?_⟩⟩
  · exact (off _ (by omega)).trans ((bB.block _ (by omega)).trans h.ans.r0)
  · exact (off _ (by omega)).trans ((bB.block _ (by omega)).trans h.ans.r1)
  · exact (off _ (by omega)).trans ((bB.block _ (by omega)).trans h.ans.r2)
  · exact (h.ans.below.trans (bB.mono (by omega))).setCell (p := ⟨w.heap.size + 1 + 1 + 1, 0, none⟩) (by show w.heap.size ≤ w.heap.size + 1 + 1 + 1; omega) _
  · rw [List.length_append, wdsC_snoc]
    refine ownsRow_setCell_other ho3 (a := ⟨w.heap.size + 1 + 1 + 1, 0, none⟩) (fun e2 => ?_) _
    have := (ho3.lt _ e2).1
    simp only at this
    omega
  · simp [World.setCell]; have := bB.size; have := h.size; omega
/-- The round that leaves. -/
theorem lex_left {w W : World} {pre : List Itm} {b : Nat} (h : LexI w pre W) (q : Nat) :
    Hid (retPost Keep9 (LexE w) (pre ++ [⟨b, none⟩]) W .ret { tmps := #[], defers := [] } ((((W.setCell ⟨w.heap.size, 0, none⟩ (.slice none 0 0)).setCell ⟨w.heap.size + 1, 0, none⟩ (.int .i64 b)).setCell ⟨w.heap.size + 1 + 1, 0, none⟩ (.int .i64 210)).drewN q)) := by
  obtain ⟨h0, h1, h2, h3⟩ := h.ans
  have o0 : ∀ k, k ≠ w.heap.size → (W.setCell ⟨w.heap.size, 0, none⟩ (.slice none 0 0)).heap[k]? = W.heap[k]? := fun k hk => Below.heap_setCell _ ⟨w.heap.size, 0, none⟩ _ k hk
  generalize hA : W.setCell ⟨w.heap.size, 0, none⟩ (.slice none 0 0) = A at *
  have a0 : A.heap[w.heap.size]? = some (.cells #[.slice none 0 0] 23 (0, 0)) := by rw [← hA]; exact one_setCell h0
  have a1 := (o0 _ (by omega)).trans h1
  have a2 := (o0 _ (by omega)).trans h2
  have o1 : ∀ k, k ≠ w.heap.size + 1 → (A.setCell ⟨w.heap.size + 1, 0, none⟩ (.int .i64 b)).heap[k]? = A.heap[k]? := fun k hk => Below.heap_setCell _ ⟨w.heap.size + 1, 0, none⟩ _ k hk
  have kA : KeepsOthers W A ∧ Keep9 W A ∧ Below w.heap.size w A := by
    rw [← hA]
    exact ⟨KeepsOthers.setCell _ _ _, Keep9.set h0 (by decide) (by decide) _ _, h3.setCell (p := ⟨w.heap.size, 0, none⟩) (Nat.le_refl _) _⟩
  generalize hB : A.setCell ⟨w.heap.size + 1, 0, none⟩ (.int .i64 b) = B at *
  have b0 := (o1 _ (by omega)).trans a0
  have b1 : B.heap[w.heap.size + 1]? = some (.cells #[.int .i64 b] 3 (0, 0)) := by rw [← hB]; exact one_setCell a1
  have b2 := (o1 _ (by omega)).trans a2
  have kB : KeepsOthers W B ∧ Keep9 W B ∧ Below w.heap.size w B := by
    rw [← hB]
    exact ⟨kA.1.trans (KeepsOthers.setCell _ _ _), kA.2.1.trans (Keep9.set a1 (by decide) (by decide) _ _), kA.2.2.setCell (p := ⟨w.heap.size + 1, 0, none⟩) (by show w.heap.size ≤ w.heap.size + 1; omega) _⟩
  have o2 : ∀ k, k ≠ w.heap.size + 1 + 1 → (B.setCell ⟨w.heap.size + 1 + 1, 0, none⟩ (.int .i64 210)).heap[k]? = B.heap[k]? := fun k hk => Below.heap_setCell _ ⟨w.heap.size + 1 + 1, 0, none⟩ _ k hk
  have c2 : (B.setCell ⟨w.heap.size + 1 + 1, 0, none⟩ (.int .i64 210)).heap[w.heap.size + 1 + 1]? = some (.cells #[.int .i64 210] 24 (0, 0)) := one_setCell b2
  have kC := kB.1.trans (KeepsOthers.setCell B ⟨w.heap.size + 1 + 1, 0, none⟩ (.int .i64 210))
  refine ⟨⟨kC.size, kC.same⟩, ?_, pre, b, rfl, (o2 _ (by omega)).trans b0, (o2 _ (by omega)).trans b1, c2, below_any q (kB.2.2.setCell (p := ⟨w.heap.size + 1 + 1, 0, none⟩) (by show w.heap.size ≤ w.heap.size + 1 + 1; omega) _)⟩
  exact kB.2.1.trans (Keep9.set (W := B) b2 (by decide) (by decide) _ _)
/-- The end, when all words are told. -/
theorem lex_done {w W : World} {pre : List Itm} {v : Value} {D : Nat} (h : LexI w pre W) (hv : W.heap[w.heap.size + 1 + 1 + 1]? = some (.cells #[v] 23 (0, 0))) (ho : W.ownsRow (w.heap.size + 5) 31 4 v pre.length (wdsC pre)) (hD : w.heap.size ≤ D) (hd : W.heap[D]? = some (.deferred (some []))) :
    Hid ((((W.setCell ⟨w.heap.size, 0, none⟩ v).setCell ⟨w.heap.size + 1, 0, none⟩ (.int .i64 0)).setCell ⟨w.heap.size + 1 + 1, 0, none⟩ (.int .i64 0)).heap[D]? = some (.deferred (some []))) ∧
    Hid (Ans w v 0 0 ((((W.setCell ⟨w.heap.size, 0, none⟩ v).setCell ⟨w.heap.size + 1, 0, none⟩ (.int .i64 0)).setCell ⟨w.heap.size + 1 + 1, 0, none⟩ (.int .i64 0)).putObj D (.deferred none))) ∧
    Hid (((((W.setCell ⟨w.heap.size, 0, none⟩ v).setCell ⟨w.heap.size + 1, 0, none⟩ (.int .i64 0)).setCell ⟨w.heap.size + 1 + 1, 0, none⟩ (.int .i64 0)).putObj D (.deferred none)).ownsRow w.heap.size 31 4 v pre.length (wdsC pre)) := by
  obtain ⟨h0, h1, h2, h3⟩ := h.ans
  have ne : ∀ k c t, W.heap[k]? = some (.cells c t (0, 0)) → D ≠ k := fun k c t hk e => by rw [← e, hd] at hk; cases hk
  have n0 := ne _ _ _ h0
  have n1 := ne _ _ _ h1
  have n2 := ne _ _ _ h2
  have nb : ∀ k, k < w.heap.size + 5 → v.ownBlock ≠ some k := fun k hk e2 => by have := (ho.lt k e2).1; omega
  have o0 : ∀ k, k ≠ w.heap.size → (W.setCell ⟨w.heap.size, 0, none⟩ v).heap[k]? = W.heap[k]? := fun k hk => Below.heap_setCell _ ⟨w.heap.size, 0, none⟩ _ k hk
  have a0 : (W.setCell ⟨w.heap.size, 0, none⟩ v).heap[w.heap.size]? = some (.cells #[v] 23 (0, 0)) := one_setCell h0
  have aO := ownsRow_setCell_other ho (a := ⟨w.heap.size, 0, none⟩) (nb _ (by show w.heap.size < _; omega)) v
  have aB := h3.setCell (p := ⟨w.heap.size, 0, none⟩) (Nat.le_refl _) v
  generalize W.setCell ⟨w.heap.size, 0, none⟩ v = A at *
  have a1 := (o0 _ (by omega)).trans h1
  have a2 := (o0 _ (by omega)).trans h2
  have aD := (o0 _ n0).trans hd
  have o1 : ∀ k, k ≠ w.heap.size + 1 → (A.setCell ⟨w.heap.size + 1, 0, none⟩ (.int .i64 0)).heap[k]? = A.heap[k]? := fun k hk => Below.heap_setCell _ ⟨w.heap.size + 1, 0, none⟩ _ k hk
  have b1 : (A.setCell ⟨w.heap.size + 1, 0, none⟩ (.int .i64 0)).heap[w.heap.size + 1]? = some (.cells #[.int .i64 0] 3 (0, 0)) := one_setCell a1
  have bO := ownsRow_setCell_other aO (a := ⟨w.heap.size + 1, 0, none⟩) (nb _ (by show w.heap.size + 1 < _; omega)) (.int .i64 0)
  have bB := aB.setCell (p := ⟨w.heap.size + 1, 0, none⟩) (by show w.heap.size ≤ w.heap.size + 1; omega) (.int .i64 0)
  generalize A.setCell ⟨w.heap.size + 1, 0, none⟩ (.int .i64 0) = B at *
  have b0 := (o1 _ (by omega)).trans a0
  have b2 := (o1 _ (by omega)).trans a2
  have bD := (o1 _ n1).trans aD
  have o2 : ∀ k, k ≠ w.heap.size + 1 + 1 → (B.setCell ⟨w.heap.size + 1 + 1, 0, none⟩ (.int .i64 0)).heap[k]? = B.heap[k]? := fun k hk => Below.heap_setCell _ ⟨w.heap.size + 1 + 1, 0, none⟩ _ k hk
  have c2 : (B.setCell ⟨w.heap.size + 1 + 1, 0, none⟩ (.int .i64 0)).heap[w.heap.size + 1 + 1]? = some (.cells #[.int .i64 0] 24 (0, 0)) := one_setCell b2
  have cO := ownsRow_setCell_other bO (a := ⟨w.heap.size + 1 + 1, 0, none⟩) (nb _ (by show w.heap.size + 1 + 1 < _; omega)) (.int .i64 0)
  have cB := bB.setCell (p := ⟨w.heap.size + 1 + 1, 0, none⟩) (by show w.heap.size ≤ w.heap.size + 1 + 1; omega) (.int .i64 0)
  generalize B.setCell ⟨w.heap.size + 1 + 1, 0, none⟩ (.int .i64 0) = C at *
  have c0 := (o2 _ (by omega)).trans b0
  have c1 := (o2 _ (by omega)).trans b1
  have cD := (o2 _ n2).trans bD
  have hrow : C.grownBy (C.putObj D (.deferred none)) (some D) := grownBy_putObj' _ _ _
  have htd : ∀ r, some D = some r → ∃ o : Obj, C.heap[r]? = some o ∧ o.isCells = false := fun r e => by cases e; exact ⟨_, cD, rfl⟩
  exact ⟨cD, (Ans.mk c0 c1 c2 cB).keep hrow (fun r e => ⟨by cases e; exact hD, htd r e⟩), own4_down (own4_keepc cO hrow htd) (by omega)⟩
end Go.Proofs.YtejicjcdbfjajaaDoor
