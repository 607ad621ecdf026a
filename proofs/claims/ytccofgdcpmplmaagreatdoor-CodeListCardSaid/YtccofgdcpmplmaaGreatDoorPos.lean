/- A program that is built up in memory. -/
import Derived.Test.YtccofgdcpmplmaaGreatDoorApd
import Derived.Test.YtccofgdcpmplmaaGreatDoorNum
import Derived.OneCell
import Derived.RangeFuncOwn
namespace Go.Proofs.YtccofgdcpmplmaaGreatDoor
open Go Go.RowKit Go.Shelf
/-- What a call leaves alone. -/
structure KS (S : Nat → Prop) (W W' : World) : Prop where
  os : W'.os = W.os
  tape : W'.tape = W.tape
  output : W'.output = W.output
  size : W.heap.size ≤ W'.heap.size
  keep : ∀ k, S k → k < W.heap.size → W'.heap[k]? = W.heap[k]?
  oth : KeepsOthers W W'
theorem KS.of_below {S : Nat → Prop} {W W' : World} (h : Below W.heap.size W W') : KS S W W' := ⟨h.os, h.tape, h.output, h.size, fun k _ hk => h.block k hk, KeepsOthers.of_grownBy (row := none) ⟨h.os, h.tape, h.output, h.size, fun k hk _ => h.block k hk⟩ (fun j o e => by cases e)⟩
theorem KS.trans {S : Nat → Prop} {A B C : World} (h : KS S A B) (k : KS S B C) : KS S A C := ⟨k.os.trans h.os, k.tape.trans h.tape, k.output.trans h.output, Nat.le_trans h.size k.size, fun i hi hl => (k.keep i hi (Nat.lt_of_lt_of_le hl h.size)).trans (h.keep i hi hl), h.oth.trans k.oth⟩
theorem KS.of_grown {S : Nat → Prop} {W W' : World} {row : Option Nat} (h : W.grownBy W' row) (hr : ∀ k, row = some k → ¬ S k) (ht : ∀ k, row = some k → ∃ cs fr e, W.heap[k]? = some (.cells cs e fr)) : KS S W W' := ⟨h.os, h.tape, h.output, h.size, fun k hk hl => h.block k hl (fun e => hr k e.symm hk), KeepsOthers.of_grownBy h (fun j o e ho => by obtain ⟨cs, fr, t, h1⟩ := ht j e; rw [h1] at ho; cases ho; rfl)⟩
theorem KS.of_set {S : Nat → Prop} {W : World} {p : Addr} {v : Value} (hr : ¬ S p.block) : KS S W (W.setCell p v) := ⟨rfl, rfl, rfl, by simp [World.setCell], fun k hk _ => Below.heap_setCell _ _ _ _ (fun e => hr (e ▸ hk)), KeepsOthers.setCell _ _ _⟩
abbrev Pr.v (p : Pr) : Value := .slice p.A p.code.length p.cap
/-- The blocks that a program owns. -/
def owns (B : Nat) (g : Pg) (k : Nat) : Prop := k = B ∨ g.v0.ownBlock = some k ∨ g.v1.ownBlock = some k ∨ g.v2.ownBlock = some k ∨ ∃ p ∈ g.ps, p.v.ownBlock = some k
structure PO (S : Nat → Prop) (B : Nat) (g : Pg) (W : World) : Prop where
  box : W.heap[B]? = some (.cells g.vals 26 (0, 0))
  ps : W.ownsRow 0 39 3 g.v0 g.ps.length (prsC g.ps)
  is : W.ownsRow 0 2 1 g.v1 g.is.length (intsV g.is)
  ts : W.ownsRow 0 9 1 g.v2 g.ts.length (cellsS g.ts)
  code : ∀ p ∈ g.ps, W.ownsRow 0 42 4 p.v p.code.length (insC p.code)
  apart : g.ps.Pairwise fun p q => ∀ k, p.v.ownBlock = some k → q.v.ownBlock ≠ some k
  far : ∀ k, owns B g k → ¬ S k
  low : ∀ k, S k → k < W.heap.size
theorem own_below' {w w' : World} {base n size : Nat} {e : TypeId} {v : Value} {xs : List Value} (h : w.ownsRow base e size v n xs) (hb : Below w.heap.size w w') : w'.ownsRow base e size v n xs :=
  h.kept ⟨hb.os, hb.tape, hb.output, hb.size, fun k hk _ => hb.block k hk⟩ (row := none) (by cases v.ownBlock <;> simp)
theorem PO.below {S : Nat → Prop} {B : Nat} {g : Pg} {W W' : World} (h : PO S B g W) (hb : Below W.heap.size W W') : PO S B g W' :=
  ⟨(hb.block _ (Array.getElem?_eq_some_iff.1 h.box).1).trans h.box, own_below' h.ps hb, own_below' h.is hb, own_below' h.ts hb, fun p hp => own_below' (h.code p hp) hb, h.apart, h.far, fun k hk => Nat.lt_of_lt_of_le (h.low k hk) hb.size⟩
/-- The blocks of two types are not the same. -/
theorem own_ne {W : World} {base n size k : Nat} {e t : TypeId} {v : Value} {xs : List Value} {cs : Array Value} {fr : Nat × Nat} (h : W.ownsRow base e size v n xs) (hk : W.heap[k]? = some (.cells cs t fr)) (hne : e ≠ t) : v.ownBlock ≠ some k := by
  intro hv
  obtain ⟨c, f, h1⟩ := own_type h k hv
  rw [hk] at h1
  cases h1
  exact hne rfl
theorem own_nes {W : World} {base n size base' n' size' : Nat} {e t : TypeId} {v v' : Value} {xs xs' : List Value} (h : W.ownsRow base e size v n xs) (k : W.ownsRow base' t size' v' n' xs') (hne : e ≠ t) : v.ownBlock = none ∨ v.ownBlock ≠ v'.ownBlock := by
  cases hv : v.ownBlock with
  | none => exact .inl rfl
  | some b =>
    refine .inr fun e' => ?_
    obtain ⟨c, f, h1⟩ := own_type k b e'.symm
    exact own_ne h h1 hne hv
/-- A row that has grown by some cells. -/
structure Psh (e : TypeId) (size : Nat) (v : Value) (n : Nat) (xs xv : List Value) (W : World) (v' : Value) (W' : World) : Prop where
  own : W'.ownsRow 0 e size v' (n + 1) (xs ++ xv)
  grown : W.grownBy W' v.ownBlock
  block : v'.ownBlock = v.ownBlock ∨ v'.ownBlock = some W.heap.size
theorem run_push {P : Program} {w : World} {t e : TypeId} {size bytes : Nat} {z : Value} (ty : TypeId) (ht : P.underlying t = some (.slice e)) (hinfo : (P.info? e).map (fun i => (i.zero, i.size, i.bytes)) = some (some z, size, bytes)) (hz : z.cells.size = size) (hsz : 0 < size) (hby : bytes ≤ 1000)
    (v : Value) (n : Nat) (xs : List Value) (hown : w.ownsRow 0 e size v n xs) (g0 : Nat) (xv : List Value) (hx : w.heap[g0]? = some (.cells xv.toArray e)) (hxl : xv.length = size) (h1 : ∀ u ∈ xv, u.oneCell' = true) (hn : n ≤ 10000000) :
    ∃ v' w', (Builtin.append_ #[t, t] ty #[v, .slice (some ⟨g0, 0, none⟩) 1 1]).run P w = .ok v' w' ∧ Psh e size v n xs xv w v' w' := by
  obtain ⟨i0, hi, hz0, hz1, hz2⟩ := info_parts hinfo
  have hb : (n + 1) * bytes ≤ 140737488355328 := Nat.le_trans (Nat.mul_le_mul (show n + 1 ≤ 10000001 by omega) hby) (by omega)
  obtain ⟨v', w', hrun, h2, h3, _, h4⟩ := run_append_own_at (P := P) (w := w) 0 t ty e i0 z size bytes ht hi hz0 hz1 hz2 hz hsz v n xs hown ⟨g0, 0, none⟩ 1 1 xv (by omega) (fun j u hj => by
    rw [addoff, Lib.cell_of_heap hx]
    simpa using hj) h1 (by simp only [maxLen]; omega) hb (Nat.zero_le _)
  exact ⟨v', w', hrun, h2, h3, h4⟩
section
variable {w : World} {ops : Array Oper} {rest : List Oper} {o : Oper} {a : Go.Act} {K : Go.Act → World → Prop} {Q : Exit → Go.Act → World → Prop} {E : Prop}
theorem step_push {t e : TypeId} {size bytes : Nat} {z : Value} (hgd : o.guard = none) (s y : Operand) (ho : o.op = .call { callee := .builtin .append, args := #[s, y], argTypes := #[t, t] }) (ht : Tryz.prog.underlying t = some (.slice e)) (hinfo : (Tryz.prog.info? e).map (fun i => (i.zero, i.size, i.bytes)) = some (some z, size, bytes)) (hz : z.cells.size = size) (hsz : 0 < size) (hby : bytes ≤ 1000)
    (v : Value) (n : Nat) (xs : List Value) (hs : a.eval s = v) (hown : w.ownsRow 0 e size v n xs) (g0 : Nat) (xv : List Value) (hy : a.eval y = .slice (some ⟨g0, 0, none⟩) 1 1) (hx : w.heap[g0]? = some (.cells xv.toArray e)) (hxl : xv.length = size) (h1 : ∀ u ∈ xv, u.oneCell' = true) (hn : n ≤ 10000000)
    (hK : ∀ v' w', Psh e size v n xs xv w v' w' → K (a.put o.dst v') w') : if Region.wanted o (yielded ops a.tmps) = true then Oper.wp Tryz.prog o a w K Q else E := by
  have hw : Region.wanted o (yielded ops a.tmps) = true := by simp [Region.wanted, hgd]
  rw [if_pos hw]
  obtain ⟨v', w', hrun, h4⟩ := run_push o.type ht hinfo hz hsz hby v n xs hown g0 xv hx hxl h1 hn
  have h5 := hK v' w' h4
  unfold Oper.wp
  simp [execOp, ho, resolve, invoke, builtin, hs, hy, hrun, Result.andThen]
  exact h5
theorem wpList_push {t e : TypeId} {size bytes : Nat} {z : Value} (hgd : o.guard = none) (s y : Operand) (ho : o.op = .call { callee := .builtin .append, args := #[s, y], argTypes := #[t, t] }) (ht : Tryz.prog.underlying t = some (.slice e)) (hinfo : (Tryz.prog.info? e).map (fun i => (i.zero, i.size, i.bytes)) = some (some z, size, bytes)) (hz : z.cells.size = size) (hsz : 0 < size) (hby : bytes ≤ 1000)
    (v : Value) (n : Nat) (xs : List Value) (hs : a.eval s = v) (hown : w.ownsRow 0 e size v n xs) (g0 : Nat) (xv : List Value) (hy : a.eval y = .slice (some ⟨g0, 0, none⟩) 1 1) (hx : w.heap[g0]? = some (.cells xv.toArray e)) (hxl : xv.length = size) (h1 : ∀ u ∈ xv, u.oneCell' = true) (hn : n ≤ 10000000)
    (hK : ∀ v' w', Psh e size v n xs xv w v' w' → wpList Tryz.prog ops Q rest (a.put o.dst v') w') : wpList Tryz.prog ops Q (o :: rest) a w := by
  refine wpList_plain hgd fun K hKK => ?_
  obtain ⟨v', w', hrun, h4⟩ := run_push o.type ht hinfo hz hsz hby v n xs hown g0 xv hx hxl h1 hn
  have h5 := hK v' w' h4
  unfold Oper.wp execOp
  simp only [ho, resolve, invoke, builtin, Sem.run_bind, Sem.run_pure, Result.andThen_ok, List.map_toArray, List.map_cons, List.map_nil, hs, hy, hrun]
  exact hKK _ _ h5
end
theorem Psh.slice {e : TypeId} {size : Nat} {v : Value} {n : Nat} {xs xv : List Value} {W : World} {v' : Value} {W' : World} (h : Psh e size v n xs xv W v' W') : ∃ G c, v' = .slice (some ⟨G, 0, none⟩) (n + 1) c := by
  obtain ⟨G, c, hv, _⟩ := own_slice (g := 0) h.own (by omega)
  exact ⟨G, c, hv⟩
section
variable {S : Nat → Prop} {B : Nat} {g : Pg} {W W' : World}
theorem PO.new_far (h : PO S B g W) : ¬ S W.heap.size := fun hs => Nat.lt_irrefl _ (h.low _ hs)
theorem PO.box_lt (h : PO S B g W) : B < W.heap.size := (Array.getElem?_eq_some_iff.1 h.box).1
/-- A function is put behind the others. -/
theorem PO.pushP (h : PO S B g W) (p : Pr) (hp : p.A = none ∧ p.code = [] ∧ p.cap = 0) {G c : Nat} (hq : Psh 39 3 g.v0 g.ps.length (prsC g.ps) [p.cell 0, p.cell 1, p.cell 2] W (.slice (some ⟨G, 0, none⟩) (g.ps.length + 1) c) W') :
    PO S B { g with PA := some ⟨G, 0, none⟩, Pc := c, ps := g.ps ++ [p] } (W'.setCell ⟨B, 0, none⟩ (.slice (some ⟨G, 0, none⟩) (g.ps.length + 1) c)) ∧ KS S W (W'.setCell ⟨B, 0, none⟩ (.slice (some ⟨G, 0, none⟩) (g.ps.length + 1) c)) := by
  obtain ⟨pA, pc, pk⟩ := hp
  have hfB : ¬ S B := h.far B (.inl rfl)
  have hrow : ∀ k, g.v0.ownBlock = some k → ¬ S k := fun k hk => h.far k (.inr (.inl hk))
  have hB1 : g.v0.ownBlock ≠ some B := own_ne h.ps h.box (by decide)
  have hbox : W'.heap[B]? = some (.cells g.vals 26 (0, 0)) := (hq.grown.block B h.box_lt (fun e => hB1 e.symm)).trans h.box
  have h2 : W'.ownsRow 0 2 1 g.v1 g.is.length (intsV g.is) := h.is.kept hq.grown (own_nes h.is h.ps (by decide))
  have h3 : W'.ownsRow 0 9 1 g.v2 g.ts.length (cellsS g.ts) := h.ts.kept hq.grown (own_nes h.ts h.ps (by decide))
  have h4 : ∀ q ∈ g.ps, W'.ownsRow 0 42 4 q.v q.code.length (insC q.code) := fun q hm => (h.code q hm).kept hq.grown (own_nes (h.code q hm) h.ps (by decide))
  have hG : (Value.slice (some ⟨G, 0, none⟩) (g.ps.length + 1) c).ownBlock ≠ some B := own_ne hq.own hbox (by decide)
  have hGf : ¬ S G := by
    rcases hq.block with e | e
    · exact hrow G e.symm
    · have e' : G = W.heap.size := by simpa [Value.ownBlock] using e
      rw [e']
      exact h.new_far
  refine ⟨⟨?_, ?_, ?_, ?_, ?_, ?_, ?_, ?_⟩, (KS.of_grown hq.grown hrow (fun k hk => by obtain ⟨c, f, h1⟩ := own_type h.ps k hk; exact ⟨c, f, _, h1⟩)).trans (KS.of_set hfB)⟩
  · rw [heap_setCell_same W' B 0 _ 26 _ hbox]
    simp
  · have e1 : prsC (g.ps ++ [p]) = prsC g.ps ++ [p.cell 0, p.cell 1, p.cell 2] := by simp [prsC]
    show (W'.setCell ⟨B, 0, none⟩ _).ownsRow 0 39 3 (.slice (some ⟨G, 0, none⟩) (g.ps ++ [p]).length c) (g.ps ++ [p]).length (prsC (g.ps ++ [p]))
    rw [e1, List.length_append, List.length_singleton]
    exact ownsRow_setCell_other hq.own hG _
  · exact ownsRow_setCell_other h2 (own_ne h2 hbox (by decide)) _
  · exact ownsRow_setCell_other h3 (own_ne h3 hbox (by decide)) _
  · intro q hm
    rcases List.mem_append.1 hm with hm | hm
    · exact ownsRow_setCell_other (h4 q hm) (own_ne (h4 q hm) hbox (by decide)) _
    · rw [List.mem_singleton.1 hm]
      show (W'.setCell ⟨B, 0, none⟩ _).ownsRow 0 42 4 (.slice p.A p.code.length p.cap) p.code.length (insC p.code)
      rw [pA, pc, pk]
      exact World.ownsRow_nil _ 0 42 4
  · refine List.pairwise_append.2 ⟨h.apart, List.pairwise_singleton _ _, fun q hm r hr k hk => ?_⟩
    rw [List.mem_singleton.1 hr]
    simp [Value.ownBlock, pA]
  · rintro k (rfl | e | e | e | ⟨q, hm, e⟩)
    · exact hfB
    · have e' : G = k := by simpa [Value.ownBlock] using e
      rw [← e']
      exact hGf
    · exact h.far k (.inr (.inr (.inl e)))
    · exact h.far k (.inr (.inr (.inr (.inl e))))
    · rcases List.mem_append.1 hm with hm | hm
      · exact h.far k (.inr (.inr (.inr (.inr ⟨q, hm, e⟩))))
      · rw [List.mem_singleton.1 hm] at e
        simp [Value.ownBlock, pA] at e
  · intro k hk
    have h5 := h.low k hk
    have h6 := hq.grown.size
    have h7 : (W'.setCell ⟨B, 0, none⟩ (.slice (some ⟨G, 0, none⟩) (g.ps.length + 1) c)).heap.size = W'.heap.size := by simp [World.setCell]
    omega
theorem PO.pushZ (h : PO S B g W) (z : Int) {G c : Nat} (hq : Psh 2 1 g.v1 g.is.length (intsV g.is) [.int .i64 z] W (.slice (some ⟨G, 0, none⟩) (g.is.length + 1) c) W') :
    PO S B { g with IA := some ⟨G, 0, none⟩, Ic := c, is := g.is ++ [z] } (W'.setCell ⟨B, 1, none⟩ (.slice (some ⟨G, 0, none⟩) (g.is.length + 1) c)) ∧ KS S W (W'.setCell ⟨B, 1, none⟩ (.slice (some ⟨G, 0, none⟩) (g.is.length + 1) c)) := by
  have hfB : ¬ S B := h.far B (.inl rfl)
  have hrow : ∀ k, g.v1.ownBlock = some k → ¬ S k := fun k hk => h.far k (.inr (.inr (.inl hk)))
  have hB1 : g.v1.ownBlock ≠ some B := own_ne h.is h.box (by decide)
  have hbox : W'.heap[B]? = some (.cells g.vals 26 (0, 0)) := (hq.grown.block B h.box_lt (fun e => hB1 e.symm)).trans h.box
  have h1 : W'.ownsRow 0 39 3 g.v0 g.ps.length (prsC g.ps) := h.ps.kept hq.grown (own_nes h.ps h.is (by decide))
  have h3 : W'.ownsRow 0 9 1 g.v2 g.ts.length (cellsS g.ts) := h.ts.kept hq.grown (own_nes h.ts h.is (by decide))
  have h4 : ∀ q ∈ g.ps, W'.ownsRow 0 42 4 q.v q.code.length (insC q.code) := fun q hm => (h.code q hm).kept hq.grown (own_nes (h.code q hm) h.is (by decide))
  have hG : (Value.slice (some ⟨G, 0, none⟩) (g.is.length + 1) c).ownBlock ≠ some B := own_ne hq.own hbox (by decide)
  have hGf : ¬ S G := by
    rcases hq.block with e | e
    · exact hrow G e.symm
    · have e' : G = W.heap.size := by simpa [Value.ownBlock] using e
      rw [e']
      exact h.new_far
  have hnew : (W'.setCell ⟨B, 1, none⟩ (.slice (some ⟨G, 0, none⟩) (g.is.length + 1) c)).ownsRow 0 2 1 (.slice (some ⟨G, 0, none⟩) (g.is ++ [z]).length c) (g.is ++ [z]).length (intsV (g.is ++ [z])) := by
    have e1 : intsV (g.is ++ [z]) = intsV g.is ++ [.int .i64 z] := by simp [intsV]
    rw [e1, List.length_append, List.length_singleton]
    exact ownsRow_setCell_other hq.own hG _
  have hbx : (W'.setCell ⟨B, 1, none⟩ (.slice (some ⟨G, 0, none⟩) (g.is.length + 1) c)).heap[B]? = some (.cells (Pg.vals { g with IA := some ⟨G, 0, none⟩, Ic := c, is := g.is ++ [z] }) 26 (0, 0)) := by
    rw [heap_setCell_same W' B 1 _ 26 _ hbox]
    simp
  refine ⟨⟨hbx, ownsRow_setCell_other h1 (own_ne h1 hbox (by decide)) _, hnew, ownsRow_setCell_other h3 (own_ne h3 hbox (by decide)) _, fun q hm => ownsRow_setCell_other (h4 q hm) (own_ne (h4 q hm) hbox (by decide)) _, h.apart, ?_, ?_⟩, (KS.of_grown hq.grown hrow (fun k hk => by obtain ⟨c, f, h1⟩ := own_type h.is k hk; exact ⟨c, f, _, h1⟩)).trans (KS.of_set hfB)⟩
  · rintro k (rfl | e | e | e | ⟨q, hm, e⟩)
    · exact hfB
    · exact h.far k (.inr (.inl e))
    · have e' : G = k := by simpa [Value.ownBlock] using e
      rw [← e']
      exact hGf
    · exact h.far k (.inr (.inr (.inr (.inl e))))
    · exact h.far k (.inr (.inr (.inr (.inr ⟨q, hm, e⟩))))
  · intro k hk
    have h5 := h.low k hk
    have h6 := hq.grown.size
    have h7 : (W'.setCell ⟨B, 1, none⟩ (.slice (some ⟨G, 0, none⟩) (g.is.length + 1) c)).heap.size = W'.heap.size := by simp [World.setCell]
    omega
theorem PO.pushT (h : PO S B g W) (s : ByteArray) {G c : Nat} (hq : Psh 9 1 g.v2 g.ts.length (cellsS g.ts) [.string s] W (.slice (some ⟨G, 0, none⟩) (g.ts.length + 1) c) W') :
    PO S B { g with TA := some ⟨G, 0, none⟩, Tc := c, ts := g.ts ++ [s] } (W'.setCell ⟨B, 2, none⟩ (.slice (some ⟨G, 0, none⟩) (g.ts.length + 1) c)) ∧ KS S W (W'.setCell ⟨B, 2, none⟩ (.slice (some ⟨G, 0, none⟩) (g.ts.length + 1) c)) := by
  have hfB : ¬ S B := h.far B (.inl rfl)
  have hrow : ∀ k, g.v2.ownBlock = some k → ¬ S k := fun k hk => h.far k (.inr (.inr (.inr (.inl hk))))
  have hB1 : g.v2.ownBlock ≠ some B := own_ne h.ts h.box (by decide)
  have hbox : W'.heap[B]? = some (.cells g.vals 26 (0, 0)) := (hq.grown.block B h.box_lt (fun e => hB1 e.symm)).trans h.box
  have h1 : W'.ownsRow 0 39 3 g.v0 g.ps.length (prsC g.ps) := h.ps.kept hq.grown (own_nes h.ps h.ts (by decide))
  have h3 : W'.ownsRow 0 2 1 g.v1 g.is.length (intsV g.is) := h.is.kept hq.grown (own_nes h.is h.ts (by decide))
  have h4 : ∀ q ∈ g.ps, W'.ownsRow 0 42 4 q.v q.code.length (insC q.code) := fun q hm => (h.code q hm).kept hq.grown (own_nes (h.code q hm) h.ts (by decide))
  have hG : (Value.slice (some ⟨G, 0, none⟩) (g.ts.length + 1) c).ownBlock ≠ some B := own_ne hq.own hbox (by decide)
  have hGf : ¬ S G := by
    rcases hq.block with e | e
    · exact hrow G e.symm
    · have e' : G = W.heap.size := by simpa [Value.ownBlock] using e
      rw [e']
      exact h.new_far
  have hnew : (W'.setCell ⟨B, 2, none⟩ (.slice (some ⟨G, 0, none⟩) (g.ts.length + 1) c)).ownsRow 0 9 1 (.slice (some ⟨G, 0, none⟩) (g.ts ++ [s]).length c) (g.ts ++ [s]).length (cellsS (g.ts ++ [s])) := by
    have e1 : cellsS (g.ts ++ [s]) = cellsS g.ts ++ [.string s] := by simp [cellsS]
    rw [e1, List.length_append, List.length_singleton]
    exact ownsRow_setCell_other hq.own hG _
  have hbx : (W'.setCell ⟨B, 2, none⟩ (.slice (some ⟨G, 0, none⟩) (g.ts.length + 1) c)).heap[B]? = some (.cells (Pg.vals { g with TA := some ⟨G, 0, none⟩, Tc := c, ts := g.ts ++ [s] }) 26 (0, 0)) := by
    rw [heap_setCell_same W' B 2 _ 26 _ hbox]
    simp
  refine ⟨⟨hbx, ownsRow_setCell_other h1 (own_ne h1 hbox (by decide)) _, ownsRow_setCell_other h3 (own_ne h3 hbox (by decide)) _, hnew, fun q hm => ownsRow_setCell_other (h4 q hm) (own_ne (h4 q hm) hbox (by decide)) _, h.apart, ?_, ?_⟩, (KS.of_grown hq.grown hrow (fun k hk => by obtain ⟨c, f, h1⟩ := own_type h.ts k hk; exact ⟨c, f, _, h1⟩)).trans (KS.of_set hfB)⟩
  · rintro k (rfl | e | e | e | ⟨q, hm, e⟩)
    · exact hfB
    · exact h.far k (.inr (.inl e))
    · exact h.far k (.inr (.inr (.inl e)))
    · have e' : G = k := by simpa [Value.ownBlock] using e
      rw [← e']
      exact hGf
    · exact h.far k (.inr (.inr (.inr (.inr ⟨q, hm, e⟩))))
  · intro k hk
    have h5 := h.low k hk
    have h6 := hq.grown.size
    have h7 : (W'.setCell ⟨B, 2, none⟩ (.slice (some ⟨G, 0, none⟩) (g.ts.length + 1) c)).heap.size = W'.heap.size := by simp [World.setCell]
    omega
theorem prsC_app (a b : List Pr) : prsC (a ++ b) = prsC a ++ prsC b := by simp [prsC]
theorem prsC_last (l : List Pr) (q q' : Pr) (h : q'.params = q.params ∧ q'.regs = q.regs) : (prsC (l ++ [q])).set (l.length * 3 + 2) (q'.cell 2) = prsC (l ++ [q']) := by
  rw [prsC_app, prsC_app, ← prsC_len l, List.set_append_right _ _ (by omega)]
  rw [show (prsC l).length + 2 - (prsC l).length = 2 by omega]
  simp [prsC, Pr.cell, h.1, h.2]
/-- An instruction is put behind the last function's. -/
theorem PO.pushI (h : PO S B g W) (l : List Pr) (q : Pr) (hl : g.ps = l ++ [q]) (x : Ins) {G c GP : Nat} (hGP : g.PA = some ⟨GP, 0, none⟩) (hq : Psh 42 4 q.v q.code.length (insC q.code) [x.cell 0, x.cell 1, x.cell 2, x.cell 3] W (.slice (some ⟨G, 0, none⟩) (q.code.length + 1) c) W') :
    PO S B { g with ps := l ++ [⟨q.params, q.regs, some ⟨G, 0, none⟩, c, q.code ++ [x]⟩] } (W'.setCell ⟨GP, l.length * 3 + 2, none⟩ (.slice (some ⟨G, 0, none⟩) (q.code.length + 1) c)) ∧ KS S W (W'.setCell ⟨GP, l.length * 3 + 2, none⟩ (.slice (some ⟨G, 0, none⟩) (q.code.length + 1) c)) := by
  have hqm : q ∈ g.ps := by rw [hl]; simp
  have hfP : ¬ S GP := h.far GP (.inr (.inl (by show (Value.slice g.PA g.ps.length g.Pc).ownBlock = some GP; rw [hGP]; rfl)))
  have hrow : ∀ k, q.v.ownBlock = some k → ¬ S k := fun k hk => h.far k (.inr (.inr (.inr (.inr ⟨q, hqm, hk⟩))))
  have hcq := h.code q hqm
  have hB1 : q.v.ownBlock ≠ some B := own_ne hcq h.box (by decide)
  have hbox : W'.heap[B]? = some (.cells g.vals 26 (0, 0)) := (hq.grown.block B h.box_lt (fun e => hB1 e.symm)).trans h.box
  have h1 : W'.ownsRow 0 39 3 g.v0 g.ps.length (prsC g.ps) := h.ps.kept hq.grown (own_nes h.ps hcq (by decide))
  have h2 : W'.ownsRow 0 2 1 g.v1 g.is.length (intsV g.is) := h.is.kept hq.grown (own_nes h.is hcq (by decide))
  have h3 : W'.ownsRow 0 9 1 g.v2 g.ts.length (cellsS g.ts) := h.ts.kept hq.grown (own_nes h.ts hcq (by decide))
  have hap := h.apart
  rw [hl] at hap
  have hap2 := (List.pairwise_append.1 hap).2.2
  have h4 : ∀ p ∈ l, W'.ownsRow 0 42 4 p.v p.code.length (insC p.code) := fun p hm => (h.code p (by rw [hl]; simp [hm])).kept hq.grown (by
    cases hv : p.v.ownBlock with
    | none => exact .inl rfl
    | some b => exact .inr (fun e => hap2 p hm q (by simp) b hv e.symm))
  have hlen : g.ps.length = l.length + 1 := by rw [hl]; simp
  have hv0 : g.v0 = .slice (some ⟨GP, 0, none⟩) g.ps.length g.Pc := by simp [hGP]
  obtain ⟨cP, frP, hPP⟩ := own_type h1 GP (by rw [hv0]; rfl)
  have hst := (World.ownsRow.stored (hv0 ▸ h1) (l.length * 3 + 2) (.slice (some ⟨G, 0, none⟩) (q.code.length + 1) c)).1
  have hne : ∀ {e : TypeId} {size n : Nat} {v : Value} {xs : List Value}, W'.ownsRow 0 e size v n xs → e ≠ 39 → (W'.setCell ⟨GP, l.length * 3 + 2, none⟩ (.slice (some ⟨G, 0, none⟩) (q.code.length + 1) c)).ownsRow 0 e size v n xs := fun ho hn => ownsRow_setCell_other ho (own_ne ho hPP hn) _
  have hGPB : GP ≠ B := by
    rintro rfl
    rw [hbox] at hPP
    cases hPP
  have hGf : ¬ S G := by
    rcases hq.block with e | e
    · exact hrow G e.symm
    · have e' : G = W.heap.size := by simpa [Value.ownBlock] using e
      rw [e']
      exact h.new_far
  have hps : (W'.setCell ⟨GP, l.length * 3 + 2, none⟩ (.slice (some ⟨G, 0, none⟩) (q.code.length + 1) c)).ownsRow 0 39 3 (Pg.v0 { g with ps := l ++ [⟨q.params, q.regs, some ⟨G, 0, none⟩, c, q.code ++ [x]⟩] }) (l ++ [(⟨q.params, q.regs, some ⟨G, 0, none⟩, c, q.code ++ [x]⟩ : Pr)]).length (prsC (l ++ [⟨q.params, q.regs, some ⟨G, 0, none⟩, c, q.code ++ [x]⟩])) := by
    rw [← prsC_last l q ⟨q.params, q.regs, some ⟨G, 0, none⟩, c, q.code ++ [x]⟩ ⟨rfl, rfl⟩, ← hl]
    have e1 : (l ++ [(⟨q.params, q.regs, some ⟨G, 0, none⟩, c, q.code ++ [x]⟩ : Pr)]).length = g.ps.length := by rw [hlen]; simp
    have e2 : Pg.v0 { g with ps := l ++ [⟨q.params, q.regs, some ⟨G, 0, none⟩, c, q.code ++ [x]⟩] } = .slice (some ⟨GP, 0, none⟩) g.ps.length g.Pc := by
      show Value.slice g.PA (l ++ [(⟨q.params, q.regs, some ⟨G, 0, none⟩, c, q.code ++ [x]⟩ : Pr)]).length g.Pc = _
      rw [e1, hGP]
    rw [e1, e2]
    have e3 : (⟨q.params, q.regs, some ⟨G, 0, none⟩, c, q.code ++ [x]⟩ : Pr).cell 2 = .slice (some ⟨G, 0, none⟩) (q.code.length + 1) c := by simp [Pr.cell]
    rw [e3]
    exact hst
  refine ⟨⟨?_, hps, hne h2 (by decide), hne h3 (by decide), ?_, ?_, ?_, ?_⟩, (KS.of_grown hq.grown hrow (fun k hk => by obtain ⟨c, f, h1⟩ := own_type hcq k hk; exact ⟨c, f, _, h1⟩)).trans (KS.of_set hfP)⟩
  · rw [heap_setCell_other W' _ B _ (fun e => hGPB e.symm), hbox]
    have e1 : (l ++ [(⟨q.params, q.regs, some ⟨G, 0, none⟩, c, q.code ++ [x]⟩ : Pr)]).length = g.ps.length := by rw [hlen]; simp
    show _ = some (Obj.cells #[.slice g.PA (l ++ [(⟨q.params, q.regs, some ⟨G, 0, none⟩, c, q.code ++ [x]⟩ : Pr)]).length g.Pc, g.v1, g.v2] 26 (0, 0))
    rw [e1]
  · intro p hm
    rcases List.mem_append.1 hm with hm | hm
    · exact hne (h4 p hm) (by decide)
    · rw [List.mem_singleton.1 hm]
      show (W'.setCell ⟨GP, l.length * 3 + 2, none⟩ _).ownsRow 0 42 4 (.slice (some ⟨G, 0, none⟩) (q.code ++ [x]).length c) (q.code ++ [x]).length (insC (q.code ++ [x]))
      have e1 : insC (q.code ++ [x]) = insC q.code ++ [x.cell 0, x.cell 1, x.cell 2, x.cell 3] := by simp [insC]
      rw [e1, List.length_append, List.length_singleton]
      exact hne hq.own (by decide)
  · refine List.pairwise_append.2 ⟨(List.pairwise_append.1 hap).1, List.pairwise_singleton _ _, fun p hm r hr k hk => ?_⟩
    rw [List.mem_singleton.1 hr]
    rcases hq.block with e | e
    · have e2 : (Pr.v ⟨q.params, q.regs, some ⟨G, 0, none⟩, c, q.code ++ [x]⟩).ownBlock = q.v.ownBlock := e
      rw [e2]
      exact hap2 p hm q (by simp) k hk
    · have e' : G = W.heap.size := by simpa [Value.ownBlock] using e
      intro hk2
      have e3 : G = k := by simpa [Value.ownBlock] using hk2
      have h7 := ((h.code p (by rw [hl]; simp [hm])).lt k hk).2
      omega
  · rintro k (rfl | e | e | e | ⟨p, hm, e⟩)
    · exact h.far _ (.inl rfl)
    · have e' : GP = k := by simpa [Value.ownBlock, hGP] using e
      rw [← e']
      exact hfP
    · exact h.far k (.inr (.inr (.inl e)))
    · exact h.far k (.inr (.inr (.inr (.inl e))))
    · rcases List.mem_append.1 hm with hm | hm
      · exact h.far k (.inr (.inr (.inr (.inr ⟨p, by rw [hl]; simp [hm], e⟩))))
      · rw [List.mem_singleton.1 hm] at e
        have e' : G = k := by simpa [Value.ownBlock] using e
        rw [← e']
        exact hGf
  · intro k hk
    have h5 := h.low k hk
    have h6 := hq.grown.size
    have h7 : (W'.setCell ⟨GP, l.length * 3 + 2, none⟩ (.slice (some ⟨G, 0, none⟩) (q.code.length + 1) c)).heap.size = W'.heap.size := by simp [World.setCell]
    omega
theorem PO.at (h : PO S B g W) : g.at W := by
  refine ⟨fun h0 => ?_, fun p hp h0 => ?_, ?_, ?_⟩
  · obtain ⟨G, c, hv, _⟩ := own_slice (g := 0) h.ps h0
    have hv' : Value.slice g.PA g.ps.length g.Pc = .slice (some ⟨G, 0, none⟩) g.ps.length c := hv
    injection hv' with hA _ hC
    have h1 := h.ps
    have e : g.v0 = .slice (some ⟨G, 0, none⟩) g.ps.length g.Pc := hv.trans (by simp [hC])
    rw [e] at h1
    have h2 := own_rdP h1 h0
    rw [hA]
    exact h2
  · obtain ⟨G, c, hv, _⟩ := own_slice (g := 0) (h.code p hp) h0
    have hv' : Value.slice p.A p.code.length p.cap = .slice (some ⟨G, 0, none⟩) p.code.length c := hv
    injection hv' with hA _ hC
    have h1 := h.code p hp
    have e : p.v = .slice (some ⟨G, 0, none⟩) p.code.length p.cap := hv.trans (by simp [hC])
    rw [e] at h1
    have h2 := own_rdI h1 h0
    rw [hA]
    exact h2
  · obtain ⟨A, c, hv, _, _, _, hr⟩ := own_rdV h.is
    have hv' : Value.slice g.IA g.is.length g.Ic = .slice A g.is.length c := hv
    injection hv' with hA _ hC
    rw [hA]
    exact hr
  · obtain ⟨A, c, hv, _, _, _, hr⟩ := own_rdV h.ts
    have hv' : Value.slice g.TA g.ts.length g.Tc = .slice A g.ts.length c := hv
    injection hv' with hA _ hC
    rw [hA]
    exact hr
end
end Go.Proofs.YtccofgdcpmplmaaGreatDoor
