/- What stands while a list is read. -/
import Derived.Test.YtglicojojpggmaaDoorRp2
namespace Go.Proofs.YtglicojojpggmaaDoor
open Go Go.RowKit
/-- A reply that was read, and where its replies lie. -/
structure Got where
  r : Rp
  A : Option Addr
  c : Nat
def rowOf : List Got → List Value
  | [] => []
  | p :: ps => .int .i64 p.r.kind :: .int .i64 p.r.num :: .string p.r.text :: .slice p.A p.r.kids.length p.c :: rowOf ps
theorem rowOf_app (a b : List Got) : rowOf (a ++ b) = rowOf a ++ rowOf b := by
  induction a with
  | nil => rfl
  | cons p a ih => simp [rowOf, ih]
theorem rowOf_len (a : List Got) : (rowOf a).length = a.length * 4 := by
  induction a with
  | nil => rfl
  | cons p a ih => simp [rowOf, ih]; omega
theorem rpV_cells (p : Got) : rowOf [p] = (rpV p.r p.A p.c).toList := rfl
/-- Cells in a row are replies. -/
theorem row_RpL {P : Nat → Prop} {W : World} {g : Nat} (hg : g < W.heap.size) (hP : P g) : ∀ (ps : List Got) (o : Nat), (∀ j u, (rowOf ps)[j]? = some u → W.cell? ⟨g, o + j, none⟩ = some u) → (∀ p ∈ ps, RpK P W p.r p.A p.c) → RpL P W (ps.map Got.r) (some ⟨g, o, none⟩)
  | [], o, _, _ => by rw [List.map_nil, RpL]; trivial
  | p :: ps, o, hc, hk => by
    rw [List.map_cons, RpL]
    refine ⟨g, o, rfl, hg, hP, (hk p (List.mem_cons_self ..)).mkA (hc 0 _ rfl) (hc 1 _ rfl) (hc 2 _ rfl) (hc 3 _ rfl), row_RpL hg hP ps (o + 4) (fun j u hu => ?_) (fun q hq => hk q (List.mem_cons_of_mem _ hq))⟩
    have := hc (j + 4) u hu
    rw [show o + 4 + j = o + (j + 4) by omega]
    exact this
/-- The variables of a list that is read. -/
structure LV (w W : World) (B R G : Nat) (A : Option Addr) (n c : Nat) (l : List UInt8) (a : Nat) (tx it li : Int) (v : Value) (ps : List Got) : Prop where
  rv : RV w W B G A n c l a tx it li
  rb : W.heap[R]? = some (.cells #[.int .i64 5, .int .i64 0, .string ⟨#[]⟩, v] 41 (0, 0))
  own : W.ownsRow (R + 1) 41 4 v ps.length (rowOf ps)
  kids : ∀ p ∈ ps, RpK (fun b => R + 1 ≤ b ∧ some b ≠ v.ownBlock) W p.r p.A p.c
  br : B + 1 < R
section
variable {w W W' : World} {B R G : Nat} {A : Option Addr} {n c : Nat} {l : List UInt8} {a a' : Nat} {tx it li tx' it' li' : Int} {v : Value} {ps : List Got}
theorem LV.start (h : RV w W B G A n c l a tx it li) : LV w (W.alloc (.cells #[.int .i64 5, .int .i64 0, .string ⟨#[]⟩, .slice none 0 0] 41)) B W.heap.size G A n c l a tx it li (.slice none 0 0) [] := by
  have hb := below_new W (.cells #[.int .i64 5, .int .i64 0, .string ⟨#[]⟩, .slice none 0 0] 41)
  have h2 := lt_of_block h.rv
  exact ⟨h.next (only_below2 hb) (h.inp.below hb), heap_alloc_new W _, World.ownsRow_nil _ _ _ _, (fun p hp => by cases hp), h2⟩
/-- Behind a reading. -/
theorem LV.next (h : LV w W B R G A n c l a tx it li v ps) (ho : Only G W W') (hi : Inp W' G A n c l a' tx' it' li') : LV w W' B R G A n c l a' tx' it' li' v ps := by
  have h2 := lt_of_block h.rb
  have hg := h.rv.gb
  have hbr := h.br
  refine ⟨h.rv.next ho hi, (ho.block _ h2 (fun e => by injection e; omega)).trans h.rb, h.own.kept ho (.inr (fun e => by have := (h.own.lt _ e).1; omega)), fun p hp => (h.kids p hp).imp ho.size (fun b hb hlt => ⟨ho.block b hlt (fun e => by injection e; omega), hb⟩), hbr⟩
theorem LV.drew (h : LV w W B R G A n c l a tx it li v ps) (q : Nat) : LV w (W.drewN q) B R G A n c l a tx it li v ps := h.next (only_drew G W q) (h.rv.inp.drew q)
theorem LV.rows (h : LV w W B R G A n c l a tx it li v ps) : W.cell? ⟨R, 0, none⟩ = some (.int .i64 5) ∧ W.cell? ⟨R, 1, none⟩ = some (.int .i64 0) ∧ W.cell? ⟨R, 2, none⟩ = some (.string ⟨#[]⟩) ∧ W.cell? ⟨R, 3, none⟩ = some v ∧ ∀ j, W.frozen? ⟨R, j, none⟩ = false := by
  refine ⟨?_, ?_, ?_, ?_, fun j => free_row h.rb j⟩
  all_goals
    simp only [World.cell?, h.rb]
    rfl
/-- A reply that is put behind the others: what stands ahead of the store, and behind it. -/
theorem LV.app (h : LV w W B R G A n c l a tx it li v ps) (p : Got) (v' : Value) (g : Nat) (k : Nat) (hk : ps.length = k) (hp : RpK (fun b => v.ownBlock ≠ some b ∧ R + 1 ≤ b) W p.r p.A p.c)
    (hown : W'.ownsRow (R + 1) 41 4 v' (k + 1) (rowOf ps ++ [.int .i64 p.r.kind, .int .i64 p.r.num, .string p.r.text, .slice p.A p.r.kids.length p.c])) (hgr : (W.alloc (.cells (rpV p.r p.A p.c) 41)).grownBy W' v.ownBlock) (hv : v'.ownBlock = some g) (hat : v.ownBlock = some g ∨ g = W.heap.size + 1) :
    RV w W' B G A n c l a tx it li ∧ W'.heap[R]? = some (.cells #[.int .i64 5, .int .i64 0, .string ⟨#[]⟩, v] 41 (0, 0)) ∧ LV w (W'.setCell ⟨R, 3, none⟩ v') B R G A n c l a tx it li v' (ps ++ [p]) := by
  have hb := below_new W (.cells (rpV p.r p.A p.c) 41)
  have h2 := lt_of_block h.rb
  have hg := h.rv.gb
  have hbr := h.br
  have hbz := h.rv.bz
  have hlt : ∀ j, v.ownBlock = some j → R + 1 ≤ j ∧ j < W.heap.size := fun j e => h.own.lt j e
  have st : ∀ k, k < W.heap.size → v.ownBlock ≠ some k → W'.heap[k]? = W.heap[k]? := fun k hk hn => (hgr.block k (by simp; omega) (fun e => hn e.symm)).trans (hb.block k hk)
  have sl : ∀ k, k < R + 1 → W'.heap[k]? = W.heap[k]? := fun k hk => st k (by omega) (fun e => by have := (hlt k e).1; omega)
  have hsz : W.heap.size ≤ W'.heap.size := Nat.le_trans hb.size hgr.size
  have hrd : Rd W' A l := fun h0 => by
    obtain ⟨q, off, e, hl, hc⟩ := h.rv.inp.rd h0
    have hq : q < B := h.rv.ad _ e h0
    exact ⟨q, off, e, by omega, fun j hj => (World.cell?_of_block (w := W) (a := ⟨q, off + j, none⟩) (sl q (by omega))).trans (hc j hj)⟩
  have hrv : RV w W' B G A n c l a tx it li := ⟨(sl _ (by omega)).trans h.rv.tb, (sl _ (by omega)).trans h.rv.rv, ⟨(sl _ (by omega)).trans h.rv.inp.z, hrd, h.rv.inp.len, h.rv.inp.cap, h.rv.inp.nil, h.rv.inp.ne, h.rv.inp.max, h.rv.inp.pos⟩, ⟨hgr.os.trans (hb.os.trans h.rv.only.os), hgr.tape.trans (hb.tape.trans h.rv.only.tape), hgr.output.trans (hb.output.trans h.rv.only.output), Nat.le_trans h.rv.only.size hsz, fun k hk hn => (sl k (by have := h.rv.only.size; omega)).trans (h.rv.only.block k hk hn)⟩, hg, hbz, h.rv.ad⟩
  have hkids : ∀ q ∈ ps, RpK (fun b => R + 1 ≤ b ∧ some b ≠ v.ownBlock) W' q.r q.A q.c := fun q hq => (h.kids q hq).imp hsz (fun b hb hl => ⟨st b hl (fun e => hb.2 e.symm), hb⟩)
  have hrb := (sl R (by omega)).trans h.rb
  have so : ∀ b, b ≠ R → (W'.setCell ⟨R, 3, none⟩ v').heap[b]? = W'.heap[b]? := fun b hb => Below.heap_setCell W' ⟨R, 3, none⟩ v' b (by simpa using hb)
  have hsz2 : W'.heap.size = (W'.setCell ⟨R, 3, none⟩ v').heap.size := by simp [World.setCell]
  have hg1 : R + 1 ≤ g := (hown.lt g hv).1
  have hRG : R ≠ G := by omega
  have hgz : W.heap.size + 1 ≤ W'.heap.size := by have := hgr.size; simp at this; exact this
  refine ⟨hrv, hrb, ⟨⟨(so _ (by omega)).trans hrv.tb, (so _ (by omega)).trans hrv.rv, ⟨(so _ (by omega)).trans hrv.inp.z, ?_, h.rv.inp.len, h.rv.inp.cap, h.rv.inp.nil, h.rv.inp.ne, h.rv.inp.max, h.rv.inp.pos⟩, ?_, hg, hbz, h.rv.ad⟩, row_set hrb, ?_, ?_, hbr⟩⟩
  · intro h0
    obtain ⟨q, off, e, hl, hc⟩ := hrd h0
    have hq : q < B := h.rv.ad _ e h0
    exact ⟨q, off, e, by omega, fun j hj => (World.cell?_of_block (w := W') (a := ⟨q, off + j, none⟩) (so q (by omega))).trans (hc j hj)⟩
  · exact ⟨hrv.only.os, hrv.only.tape, hrv.only.output, by have := hrv.only.size; omega, fun k hk hn => (so k (by omega)).trans (hrv.only.block k hk hn)⟩
  · rw [List.length_append, hk, rowOf_app]
    exact ownsRow_setCell_other hown (a := ⟨R, 3, none⟩) (fun e => absurd (hown.lt R e).1 (by omega)) v'
  · intro q hq
    rcases List.mem_append.1 hq with hq | hq
    · refine (h.kids q hq).imp (by omega) (fun b hb hl => ⟨(so b (by omega)).trans (st b hl (fun e => hb.2 e.symm)), hb.1, ?_⟩)
      rw [hv]
      intro e
      have e2 : b = g := by simpa using e
      subst e2
      rcases hat with h1 | h1
      · exact hb.2 h1.symm
      · omega
    · have : q = p := by simpa using hq
      subst this
      refine hp.imp (by omega) (fun b hb hl => ⟨(so b (by omega)).trans (st b hl hb.1), hb.2, ?_⟩)
      rw [hv]
      intro e
      have e2 : b = g := by simpa using e
      subst e2
      rcases hat with h1 | h1
      · exact hb.1 h1
      · omega
/-- The list, as it is read. -/
theorem LV.kidsL (h : LV w W B R G A n c l a tx it li v ps) : ∃ A' c', v = .slice A' ps.length c' ∧ ps.length ≤ c' ∧ (A' = none → c' = 0) ∧ RpL (fun b => R + 1 ≤ b) W (ps.map Got.r) A' := by
  have hbz := h.rv.bz
  have hbr := h.br
  have hl := h.own.1
  have hlt := h.own.lt
  rcases h.own.2 with ⟨hv, h0⟩ | ⟨g, cap, cur, hv, hg, hh, hn, hm, _⟩
  · have : ps = [] := List.eq_nil_of_length_eq_zero h0
    subst this
    exact ⟨none, 0, hv, Nat.le_refl _, fun _ => rfl, by rw [List.map_nil, RpL]; trivial⟩
  · refine ⟨_, cap, hv, hn, (fun e => by cases e), ?_⟩
    have hcells := fun j u hu => h.own.cells (g := g) (by rw [hv]; rfl) j u hu
    refine row_RpL (hlt g (by rw [hv]; rfl)).2 (by omega) ps 0 (fun j u hu => ?_) (fun p hp => (h.kids p hp).imp (Nat.le_refl _) (fun b hb _ => ⟨rfl, by omega⟩))
    have := hcells j u hu
    rw [add0] at this
    rw [Nat.zero_add]
    exact this
end
end Go.Proofs.YtglicojojpggmaaDoor
