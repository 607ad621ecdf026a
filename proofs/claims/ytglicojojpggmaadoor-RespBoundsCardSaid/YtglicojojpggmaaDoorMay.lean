/- Whether a reply may be. -/
import Derived.Test.YtglicojojpggmaaDoorSing
import Derived.StillTailTactics
namespace Go.Proofs.YtglicojojpggmaaDoor
open Go Go.RowKit
mutual
/-- What is left of the bounds behind a reply that may be. -/
def mayF : Rp → Int → Int → Int → Option (Int × Int)
  | .mk k n t l, d, it, tx =>
    if k ≠ 3 ∧ n ≠ 0 then none
    else if k ≠ 5 ∧ 0 < l.length then none
    else if tx - t.size < 0 then none
    else if k = 0 ∨ k = 3 then (if t.size = 0 then some (it, tx - t.size) else none)
    else if k = 4 then some (it, tx - t.size)
    else if k = 1 ∨ k = 2 then (if lineB (bl t) = true then some (it, tx - t.size) else none)
    else if k = 5 then (if t.size ≠ 0 ∨ d = 0 ∨ it - l.length < 0 then none else mayL l (d - 1) (it - l.length) (tx - t.size))
    else none
def mayL : List Rp → Int → Int → Int → Option (Int × Int)
  | [], _, it, tx => some (it, tx)
  | r :: l, d, it, tx => match mayF r d it tx with
    | none => none
    | some p => mayL l d p.1 p.2
end
mutual
theorem mayF_le : ∀ (r : Rp) (d it tx : Int) (p : Int × Int), mayF r d it tx = some p → 0 ≤ it → 0 ≤ p.1 ∧ p.1 ≤ it ∧ 0 ≤ p.2 ∧ p.2 ≤ tx
  | .mk k n t l, d, it, tx, p, h, h0 => by
    rw [mayF] at h
    split at h
    · cases h
    split at h
    · cases h
    split at h
    · cases h
    rename_i h3
    split at h
    · split at h
      · cases h; exact ⟨h0, Int.le_refl _, by omega, by show tx - _ ≤ _; omega⟩
      · cases h
    split at h
    · cases h; exact ⟨h0, Int.le_refl _, by omega, by show tx - _ ≤ _; omega⟩
    split at h
    · split at h
      · cases h; exact ⟨h0, Int.le_refl _, by omega, by show tx - _ ≤ _; omega⟩
      · cases h
    split at h
    · split at h
      · cases h
      · rename_i h4
        have := mayL_le l (d - 1) _ _ p h (by omega) (by omega)
        omega
    · cases h
theorem mayL_le : ∀ (l : List Rp) (d it tx : Int) (p : Int × Int), mayL l d it tx = some p → 0 ≤ it → 0 ≤ tx → 0 ≤ p.1 ∧ p.1 ≤ it ∧ 0 ≤ p.2 ∧ p.2 ≤ tx
  | [], d, it, tx, p, h, h0, h1 => by
    rw [mayL] at h
    cases h
    exact ⟨h0, Int.le_refl _, h1, Int.le_refl _⟩
  | r :: l, d, it, tx, p, h, h0, h1 => by
    rw [mayL] at h
    split at h
    · cases h
    · rename_i q hq
      have a := mayF_le r d it tx q hq h0
      have b := mayL_le l d q.1 q.2 p h a.1 a.2.2.1
      omega
end
/-- What is left of the bounds, in block G. -/
def Wt (W : World) (G : Nat) (it tx : Int) : Prop := W.heap[G]? = some (.cells #[.int .i64 it, .int .i64 tx] 101 (0, 0))
theorem Wt.rows {W : World} {G : Nat} {it tx : Int} (h : Wt W G it tx) : W.cell? ⟨G, 0, none⟩ = some (.int .i64 it) ∧ W.cell? ⟨G, 1, none⟩ = some (.int .i64 tx) ∧ ∀ j, W.frozen? ⟨G, j, none⟩ = false := by
  refine ⟨?_, ?_, fun j => free_row h j⟩
  · simp only [World.cell?, show W.heap[G]? = _ from h]; rfl
  · simp only [World.cell?, show W.heap[G]? = _ from h]; rfl
theorem Wt.tx {W : World} {G : Nat} {it tx : Int} (h : Wt W G it tx) (k : Int) : Wt (W.setCell ⟨G, 1, none⟩ (.int .i64 k)) G it k := row_set h
theorem Wt.it {W : World} {G : Nat} {it tx : Int} (h : Wt W G it tx) (k : Int) : Wt (W.setCell ⟨G, 0, none⟩ (.int .i64 k)) G k tx := row_set h
theorem Wt.below {W W' : World} {G : Nat} {it tx : Int} (h : Wt W G it tx) (hb : Below W.heap.size W W') : Wt W' G it tx := (hb.block _ (lt_of_block h)).trans h
theorem Wt.drew {W : World} {G : Nat} {it tx : Int} (h : Wt W G it tx) (q : Nat) : Wt (W.drewN q) G it tx := h
/-- How that is answered. -/
def MayQ (w : World) (G : Nat) (o : Option (Int × Int)) (e : Ending) (w' : World) : Prop :=
  ∃ it tx, e = .returned (.bool o.isSome) ∧ Wt w' G it tx ∧ (∀ p, o = some p → p = (it, tx)) ∧ Only G w w'
theorem MayQ.no {w w' : World} {G : Nat} {o : Option (Int × Int)} {it tx : Int} (h : o = none) (hw : Wt w' G it tx) (ho : Only G w w') : MayQ w G o (.returned (.bool false)) w' := by
  subst h
  exact ⟨it, tx, rfl, hw, (fun p h => by cases h), ho⟩
theorem MayQ.yes {w w' : World} {G : Nat} {o : Option (Int × Int)} {it tx : Int} (h : o = some (it, tx)) (hw : Wt w' G it tx) (ho : Only G w w') : MayQ w G o (.returned (.bool true)) w' := by
  subst h
  exact ⟨it, tx, rfl, hw, (fun p h => by cases h; rfl), ho⟩
theorem only_below2 {G : Nat} {w w' : World} (h : Below w.heap.size w w') : Only G w w' := ⟨h.os, h.tape, h.output, h.size, fun k hk _ => h.block k hk⟩
/-- The variables of 'may'. -/
structure MV (w W : World) (B G : Nat) (r : Rp) (A : Option Addr) (c : Nat) (d it tx : Int) : Prop where
  b0 : W.heap[B]? = some (.cells (rpV r A c) 41 (0, 0))
  b1 : W.heap[B + 1]? = some (.cells #[.int .i64 d] 3 (0, 0))
  b2 : W.heap[B + 2]? = some (.cells #[.pointer (some ⟨G, 0, none⟩)] 99 (0, 0))
  wt : Wt W G it tx
  only : Only G w W
  gb : G < B
  ks : RpK (fun b => b ≠ G) W r A c
theorem MV.new (w : World) (G : Nat) (r : Rp) (A : Option Addr) (c : Nat) (d it tx : Int) (hw : Wt w G it tx) (hk : RpK (fun b => b ≠ G) w r A c) :
    MV w (((w.alloc (.cells (rpV r A c) 41)).alloc (.cells #[.int .i64 d] 3)).alloc (.cells #[.pointer (some ⟨G, 0, none⟩)] 99)) w.heap.size G r A c d it tx := by
  have hg := lt_of_block hw
  have a0 := heap_alloc_new w (.cells (rpV r A c) 41)
  have b0 := below_new w (.cells (rpV r A c) 41)
  have s0 : (w.alloc (.cells (rpV r A c) 41)).heap.size = w.heap.size + 1 := by simp
  generalize w.alloc (.cells (rpV r A c) 41) = w1 at *
  have a1 := heap_alloc_new w1 (.cells #[.int .i64 d] 3)
  have b1 := below_new w1 (.cells #[.int .i64 d] 3)
  have s1 : (w1.alloc (.cells #[.int .i64 d] 3)).heap.size = w.heap.size + 2 := by simp [s0]
  generalize w1.alloc (.cells #[.int .i64 d] 3) = w2 at *
  have a2 := heap_alloc_new w2 (.cells #[.pointer (some ⟨G, 0, none⟩)] 99)
  have b2 := below_new w2 (.cells #[.pointer (some ⟨G, 0, none⟩)] 99)
  generalize w2.alloc (.cells #[.pointer (some ⟨G, 0, none⟩)] 99) = w3 at *
  rw [s0] at a1 b1
  rw [s1] at a2 b2
  have hb : Below w.heap.size w w3 := (b0.trans (b1.mono (by omega))).trans (b2.mono (by omega))
  exact ⟨(b2.block _ (by omega)).trans ((b1.block _ (by omega)).trans a0), (b2.block _ (by omega)).trans a1, a2, hw.below hb, only_below2 hb, hg, hk.imp hb.size (fun b hp h => ⟨hb.block b h, hp⟩)⟩
section
variable {w W W' : World} {B G : Nat} {r : Rp} {A : Option Addr} {c : Nat} {d it tx it' tx' : Int}
theorem MV.rows (h : MV w W B G r A c d it tx) : W.cell? ⟨B, 0, none⟩ = some (.int .i64 r.kind) ∧ W.cell? ⟨B, 1, none⟩ = some (.int .i64 r.num) ∧ W.cell? ⟨B, 2, none⟩ = some (.string r.text) ∧ W.cell? ⟨B, 3, none⟩ = some (.slice A r.kids.length c) ∧ W.cell? ⟨B + 1, 0, none⟩ = some (.int .i64 d) ∧ W.cell? ⟨B + 1 + 1, 0, none⟩ = some (.pointer (some ⟨G, 0, none⟩)) := by
  refine ⟨?_, ?_, ?_, ?_, cell_one h.b1, cell_one h.b2⟩
  · simp only [World.cell?, h.b0]; rfl
  · simp only [World.cell?, h.b0]; rfl
  · simp only [World.cell?, h.b0]; rfl
  · simp only [World.cell?, h.b0]; rfl
theorem MV.next (h : MV w W B G r A c d it tx) (ho : Only G W W') (hw : Wt W' G it' tx') : MV w W' B G r A c d it' tx' := by
  have h2 := lt_of_block h.b2
  have hg := h.gb
  have st : ∀ k, k < W.heap.size → k ≠ G → W'.heap[k]? = W.heap[k]? := fun k hk hn => ho.block k hk (fun e => hn (by injection e))
  exact ⟨(st _ (by omega) (by omega)).trans h.b0, (st _ (by omega) (by omega)).trans h.b1, (st _ (by omega) (by omega)).trans h.b2, hw, only_trans h.only ho, hg, h.ks.imp ho.size (fun b hp hb => ⟨st b hb hp, hp⟩)⟩
theorem MV.drew (h : MV w W B G r A c d it tx) (q : Nat) : MV w (W.drewN q) B G r A c d it tx := h.next (only_drew G W q) (h.wt.drew q)
theorem MV.stx (h : MV w W B G r A c d it tx) (k : Int) : MV w (W.setCell ⟨G, 1, none⟩ (.int .i64 k)) B G r A c d it k := h.next (only_set G 1 W _) (h.wt.tx k)
theorem MV.sit (h : MV w W B G r A c d it tx) (k : Int) : MV w (W.setCell ⟨G, 0, none⟩ (.int .i64 k)) B G r A c d k tx := h.next (only_set G 0 W _) (h.wt.it k)
end
theorem mayF_eq (r : Rp) (d it tx : Int) : mayF r d it tx =
    if r.kind ≠ 3 ∧ r.num ≠ 0 then none
    else if r.kind ≠ 5 ∧ 0 < r.kids.length then none
    else if tx - r.text.size < 0 then none
    else if r.kind = 0 ∨ r.kind = 3 then (if r.text.size = 0 then some (it, tx - r.text.size) else none)
    else if r.kind = 4 then some (it, tx - r.text.size)
    else if r.kind = 1 ∨ r.kind = 2 then (if lineB (bl r.text) = true then some (it, tx - r.text.size) else none)
    else if r.kind = 5 then (if r.text.size ≠ 0 ∨ d = 0 ∨ it - r.kids.length < 0 then none else mayL r.kids (d - 1) (it - r.kids.length) (tx - r.text.size))
    else none := by
  cases r
  rw [mayF]
  rfl
/-- What the contract of 'may' says of replies of a height. -/
def MayC (n : Nat) : Prop := ∀ (r : Rp) (A : Option Addr) (c : Nat) (d it tx : Int) (G : Nat) (w : World), hgt r ≤ n → Wt w G it tx → RpK (fun b => b ≠ G) w r A c → 0 ≤ it → it ≤ 1000000000 → tx ≤ 1000000000 → -1000000000 ≤ tx → 0 ≤ d → d ≤ 1000000000 →
  Calls Tryd.prog 55 #[.agg (rpV r A c), .int .i64 d, .pointer (some ⟨G, 0, none⟩)] w (MayQ w G (mayF r d it tx))
section
variable {n : Nat} {r : Rp} {A : Option Addr} {c : Nat} {d it tx : Int} {G : Nat} {w : World}
set_option maxRecDepth 100000 in
set_option maxHeartbeats 8000000 in
theorem may_no1 (hw : Wt w G it tx) (hk : RpK (fun b => b ≠ G) w r A c) (g1 : r.kind ≠ 3) (g2 : r.num ≠ 0) :
    Calls Tryd.prog 55 #[.agg (rpV r A c), .int .i64 d, .pointer (some ⟨G, 0, none⟩)] w (MayQ w G (mayF r d it tx)) := by
  have HMV := Lib.hid (MV.new w G r A c d it tx hw hk)
  have HO : Hid (mayF r d it tx = none) := Lib.hid (by rw [mayF_eq, if_pos ⟨g1, g2⟩])
  have e1 : (r.kind != 3) = true := by simpa using g1
  have e2 : decide (r.kind = 3) = false := decide_eq_false g1
  have e3 : (r.num != 0) = true := by simpa using g2
  have e4 : decide (r.num = 0) = false := decide_eq_false g2
  clear g1 g2 hw hk
  go_enter Tryd.func55, Tryd.ntmps55
  go_wp2_with fail
  go_ret
  exact MayQ.no HO.out HMV.out.wt HMV.out.only
set_option maxRecDepth 100000 in
set_option maxHeartbeats 8000000 in
theorem may_no2 (hw : Wt w G it tx) (hk : RpK (fun b => b ≠ G) w r A c) (g1 : ¬ (r.kind ≠ 3 ∧ r.num ≠ 0)) (g3 : r.kind ≠ 5) (g4 : 0 < r.kids.length) :
    Calls Tryd.prog 55 #[.agg (rpV r A c), .int .i64 d, .pointer (some ⟨G, 0, none⟩)] w (MayQ w G (mayF r d it tx)) := by
  have HMV := Lib.hid (MV.new w G r A c d it tx hw hk)
  have HO : Hid (mayF r d it tx = none) := Lib.hid (by rw [mayF_eq, if_neg g1, if_pos ⟨g3, g4⟩])
  have e5 : (r.kind != 5) = true := by simpa using g3
  have e6 : decide (r.kind = 5) = false := decide_eq_false g3
  have e7 : decide (0 < r.kids.length) = true := decide_eq_true g4
  have hl : ((r.kids.length : Int)) ≤ 140737488355328 := by have := hk.1.2.2.2.2.2; omega
  clear hw hk
  by_cases h3 : r.kind = 3
  · have e1 : (r.kind != 3) = false := by simpa using h3
    have e2 : decide (r.kind = 3) = true := decide_eq_true h3
    clear h3 g3 g4 g1
    go_enter Tryd.func55, Tryd.ntmps55
    go_wp2_with fail
    go_ret
    exact MayQ.no HO.out HMV.out.wt HMV.out.only
  · have e1 : (r.kind != 3) = true := by simpa using h3
    have e2 : decide (r.kind = 3) = false := decide_eq_false h3
    have h0 : r.num = 0 := Classical.byContradiction fun h => g1 ⟨h3, h⟩
    have e3 : (r.num != 0) = false := by simpa using h0
    have e4 : decide (r.num = 0) = true := decide_eq_true h0
    clear h3 g3 g4 g1 h0
    go_enter Tryd.func55, Tryd.ntmps55
    go_wp2_with fail
    go_ret
    exact MayQ.no HO.out HMV.out.wt HMV.out.only
end
end Go.Proofs.YtglicojojpggmaaDoor
