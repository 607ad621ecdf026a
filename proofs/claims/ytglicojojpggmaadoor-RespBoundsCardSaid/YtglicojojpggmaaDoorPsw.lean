/- What stands in a round in which a text is read. -/
import Derived.Test.YtglicojojpggmaaDoorPsv
import Derived.Deep.AppendLies
import Derived.Deep.Cut
namespace Go.Proofs.YtglicojojpggmaaDoor
open Go Go.RowKit
theorem lenE_zero {most : Nat} {l : List UInt8} {a : Nat} (h : lenE most l a = 0) : (digR most l a).1 = 0 := by
  unfold lenE at h
  by_cases h1 : (digR most l a).1 = 0
  · exact h1
  · rw [if_pos h1] at h
    exact h
theorem leaves_congr {P : Program} {fn : Func} {t t' : Array Value} {R : Ending → World → Prop} (h : results fn t = results fn t') : ∀ (ds : List Deferred) (u : FrameMode) (w : World), Leaves P fn t R ds u w → Leaves P fn t' R ds u w
  | [], .returning, w => fun ⟨v, h1, h2⟩ => ⟨v, by rw [← h]; exact h1, h2⟩
  | [], .panicking _, _ => fun h => h
  | [], .run, _ => fun h => h
  | d :: ds, u, w => fun ⟨h1, fv, cap, f, args, h2, h3, h4⟩ => ⟨h1, fv, cap, f, args, h2, h3, h4.mono (fun e u' w' hk => by
      cases e with
      | returned v => exact leaves_congr h ds _ _ hk
      | panicked c => exact leaves_congr h ds _ _ hk
      | outgrown => exact hk)⟩
/-- What stands in another slot than those of the results' variables does not matter. -/
theorem stop_put {R : Ending → World → Prop} (d : Nat) (h2 : d ≠ 2 := by decide) (h3 : d ≠ 3 := by decide) (h4 : d ≠ 4 := by decide) : ∀ c (a : Act) (v : Value) (w : World), bodyPostD Tryd.prog Tryd.f18 R (.panic c) (a.put (some d) v) w → bodyPostD Tryd.prog Tryd.f18 R (.panic c) a w := fun c a v w h => by
  refine leaves_congr ?_ _ _ _ h
  have e : ∀ j, j ≠ d → (a.tmps.setIfInBounds d v)[j]?.getD undef = a.tmps[j]?.getD undef := fun j hj => by
    rw [Array.getElem?_setIfInBounds, if_neg (fun e => hj e.symm)]
  have e2 := e 2 h2.symm
  have e3 := e 3 h3.symm
  have e4 := e 4 h4.symm
  simp only [results, Tryd.results18, Act.put, Array.getD_eq_getD_getElem?]
  simp only [List.mapM_toArray, List.mapM_cons, List.mapM_nil, e2, e3, e4, Array.getD_eq_getD_getElem?, Array.mapM_eq_mapM_toList]
theorem PS.below {w W W' : World} {G B : Nat} {A : Option Addr} {n c : Nat} {l : List UInt8} {v : Value} {ls : List ByteArray} {a : Nat} {tx : Int} (h : PS w W G B A n c l v ls a tx) (hb : Below W.heap.size W W') : PS w W' G B A n c l v ls a tx := by
  have hB := lt_of_block h.box
  have h3 := h.g3
  have hg := h.gb
  exact ⟨(hb.block _ (by omega)).trans h.v0, (hb.block _ (by omega)).trans h.v1, (hb.block _ (by omega)).trans h.v2, h.bel.trans (hb.mono (by omega)), (hb.block _ hB).trans h.box, ⟨(hb.block _ (by omega)).trans h.inp.z, h.inp.rd.below hb, h.inp.len, h.inp.cap, h.inp.nil, h.inp.ne, h.inp.max, h.inp.pos⟩, own_below h.own hb, hg, h3⟩
/-- The texts' variable and the place. -/
def SV (s G : Nat) (v : Value) (a : Nat) (W : World) : Prop := W.cell? ⟨s, 0, none⟩ = some v ∧ W.cell? ⟨G, 1, none⟩ = some (.int .i64 a)
theorem SV.same {s G : Nat} {v : Value} {a : Nat} {W : World} (h : SV s G v a W) (hg : s + 3 ≤ G) : SV s G v a (W.setCell ⟨s, 0, none⟩ v) :=
  ⟨World.cell?_setCell_same _ ⟨s, 0, none⟩ v h.1, (World.cell?_setCell_other W ⟨s, 0, none⟩ ⟨G, 1, none⟩ _ (fun e => by injection e; omega)).trans h.2⟩
theorem SV.other {s G k : Nat} {v u : Value} {a : Nat} {W : World} (h : SV s G v a W) (hg : s + 3 ≤ G) (h1 : s < k) (h2 : k < s + 3) : SV s G v a (W.setCell ⟨k, 0, none⟩ u) :=
  ⟨(World.cell?_setCell_other W ⟨k, 0, none⟩ ⟨s, 0, none⟩ _ (fun e => by injection e; omega)).trans h.1, (World.cell?_setCell_other W ⟨k, 0, none⟩ ⟨G, 1, none⟩ _ (fun e => by injection e; omega)).trans h.2⟩
/-- Two of the taker's cells. -/
def SB (B G : Nat) (W : World) : Prop := W.cell? ⟨B, 4, none⟩ = some (mv 65 G) ∧ W.cell? ⟨B, 2, none⟩ = some (mv 63 G)
/-- The texts' variable and two of the taker's cells. -/
def SS (s B G : Nat) (v : Value) (W : World) : Prop := W.cell? ⟨s, 0, none⟩ = some v ∧ W.cell? ⟨B, 4, none⟩ = some (mv 65 G) ∧ W.cell? ⟨B, 2, none⟩ = some (mv 63 G)
section
variable {w W W' : World} {G B : Nat} {A : Option Addr} {n c : Nat} {l : List UInt8} {v : Value} {ls : List ByteArray} {a : Nat} {tx : Int}
theorem PS.ss (h : PS w W G B A n c l v ls a tx) : SS w.heap.size B G v W := ⟨cell_one h.v0, h.takes.2.2.2, h.takes.2.2.1⟩
theorem PS.sb (h : PS w W G B A n c l v ls a tx) : SB B G W := ⟨h.takes.2.2.2, h.takes.2.2.1⟩
theorem PS.bx (h : PS w W G B A n c l v ls a tx) : B + 1 ≤ W.heap.size := by have := lt_of_block h.box; omega
theorem PS.txs (h : PS w W G B A n c l v ls a tx) : W.cell? ⟨G, 2, none⟩ = some (.int .i64 tx) ∧ W.cell? ⟨G, 1, none⟩ = some (.int .i64 a) := ⟨h.inp.rows.2.2.1, h.inp.rows.2.1⟩
theorem PS.fin (h : PS w W G B A n c l v ls a tx) (R : Int × List ByteArray × Nat) (hr : (0, ls, a) = R) (tmps : Array Value) (t2 : tmps.getD 2 undef = .pointer (some ⟨w.heap.size, 0, none⟩)) (t3 : tmps.getD 3 undef = .pointer (some ⟨w.heap.size + 1, 0, none⟩)) (t4 : tmps.getD 4 undef = .pointer (some ⟨w.heap.size + 2, 0, none⟩)) :
    bodyPostD Tryd.prog Tryd.f18 (ParseEnd w R) .ret { tmps := tmps, defers := [D3 w.heap.size] } (((W.drew.setCell ⟨w.heap.size, 0, none⟩ v).setCell ⟨w.heap.size + 1, 0, none⟩ (.int .i64 a)).setCell ⟨w.heap.size + 1 + 1, 0, none⟩ (.int .i64 0)) := by
  have h := h.drew 1
  change PS w W.drew G B A n c l v ls a tx at h
  generalize W.drew = V at *
  obtain ⟨h0, h1, h2, hb, hx, hi, ho, hg, h3⟩ := h
  generalize hs : w.heap.size = s at *
  have ne : ∀ k, k < B + 1 → v.ownBlock ≠ some k := fun k hk e => by have := (ho.lt k e).1; omega
  have p0 := row_set (j := 0) (v := v) h0
  have p1 := (Below.heap_setCell V ⟨s, 0, none⟩ v (s + 1) (by simp)).trans h1
  have p2 := (Below.heap_setCell V ⟨s, 0, none⟩ v (s + 2) (by simp)).trans h2
  have hb1 := hb.setCell (p := ⟨s, 0, none⟩) (Nat.le_refl _) v
  have o1 := ownsRow_setCell_other ho (a := ⟨s, 0, none⟩) (ne s (by omega)) v
  generalize V.setCell ⟨s, 0, none⟩ v = V1 at *
  have q0 := (Below.heap_setCell V1 ⟨s + 1, 0, none⟩ (.int .i64 a) s (by simp)).trans p0
  have q1 := row_set (j := 0) (v := .int .i64 a) p1
  have q2 := (Below.heap_setCell V1 ⟨s + 1, 0, none⟩ (.int .i64 a) (s + 2) (by simp)).trans p2
  have hb2 := hb1.setCell (p := ⟨s + 1, 0, none⟩) (by simp) (.int .i64 a)
  have o2 := ownsRow_setCell_other o1 (a := ⟨s + 1, 0, none⟩) (ne (s + 1) (by omega)) (.int .i64 a)
  generalize V1.setCell ⟨s + 1, 0, none⟩ (.int .i64 a) = U at *
  subst hs
  exact door_ret w _ v ls tmps t2 t3 t4 a ((Below.heap_setCell U ⟨w.heap.size + 2, 0, none⟩ (.int .i64 0) _ (by simp)).trans q0) ((Below.heap_setCell U ⟨w.heap.size + 2, 0, none⟩ (.int .i64 0) _ (by simp)).trans q1) (row_set (j := 0) (v := .int .i64 0) q2) (hb2.setCell (p := ⟨w.heap.size + 2, 0, none⟩) (by simp) (.int .i64 0)) R hr.symm
    (own_down (ownsRow_setCell_other o2 (a := ⟨w.heap.size + 2, 0, none⟩) (ne (w.heap.size + 2) (by omega)) (.int .i64 0)) (by omega))
/-- A text that is put behind the others. -/
theorem PS.app (h : PS w W G B A n c l v ls a tx) (k : Nat) (x : ByteArray) (v' : Value) (hA : ∀ ad, A = some ad → ad.block < w.heap.size) (hown : W'.ownsRow (B + 1) 9 1 v' (k + 1) (cellsS ls ++ [.string x])) (hk : ls.length = k) (hgr : (W.alloc (.cells #[.string x] 9)).grownBy W' v.ownBlock) :
    SS w.heap.size B G v W' ∧ (∀ j, W'.frozen? ⟨w.heap.size, j, none⟩ = false) ∧ PS w (W'.setCell ⟨w.heap.size, 0, none⟩ v') G B A n c l v' (ls ++ [x]) a tx := by
  have h' := h.below (below_new W (.cells #[.string x] 9))
  have hB := lt_of_block h'.box
  have h3 := h.g3
  have hg := h.gb
  have hlt : ∀ j, v.ownBlock = some j → B + 1 ≤ j := fun j e => (h'.own.lt j e).1
  have st : ∀ k, k < B + 1 → W'.heap[k]? = (W.alloc (.cells #[.string x] 9)).heap[k]? := fun k hk => hgr.block k (by omega) (fun e => by have := hlt k e.symm; omega)
  have v0 := (st _ (by omega)).trans h'.v0
  have v1 := (st _ (by omega)).trans h'.v1
  have v2 := (st _ (by omega)).trans h'.v2
  have bx := (st _ (by omega)).trans h'.box
  have iz := (st _ (by omega)).trans h'.inp.z
  have hbel : Below w.heap.size w W' := h'.bel.trans ((Below.refl _ _).grown hgr (by omega) (fun j e => by have := hlt j e; omega))
  have hrd : Rd (W'.setCell ⟨w.heap.size, 0, none⟩ v') A l := fun h0 => by
    obtain ⟨g, off, e, hl, hc⟩ := h'.inp.rd h0
    have hgw : g < w.heap.size := hA _ e
    refine ⟨g, off, e, ?_, fun j hj => ?_⟩
    · have := hgr.size
      simp only [World.setCell, Array.size_modify]
      omega
    · rw [World.cell?_setCell_other W' ⟨w.heap.size, 0, none⟩ ⟨g, off + j, none⟩ _ (fun e => by injection e with e2; omega)]
      exact (World.cell?_of_block (w := W.alloc (.cells #[.string x] 9)) (a := ⟨g, off + j, none⟩) (st g (by omega))).trans (hc j hj)
  have so : ∀ b, b ≠ w.heap.size → (W'.setCell ⟨w.heap.size, 0, none⟩ v').heap[b]? = W'.heap[b]? := fun b hb => Below.heap_setCell W' ⟨w.heap.size, 0, none⟩ v' b (by simpa using hb)
  refine ⟨⟨cell_one v0, by simp only [World.cell?, bx]; rfl, by simp only [World.cell?, bx]; rfl⟩, fun j => free_row v0 j, row_set v0, (so _ (by omega)).trans v1, (so _ (by omega)).trans v2, hbel.setCell (p := ⟨w.heap.size, 0, none⟩) (Nat.le_refl _) _, (so _ (by omega)).trans bx, ⟨(so _ (by omega)).trans iz, hrd, h.inp.len, h.inp.cap, h.inp.nil, h.inp.ne, h.inp.max, h.inp.pos⟩, ?_, hg, h3⟩
  rw [cellsS_app, List.length_append, hk]
  exact ownsRow_setCell_other hown (a := ⟨w.heap.size, 0, none⟩) (fun e => absurd (hown.lt _ e).1 (by simp; omega)) v'
end
end Go.Proofs.YtglicojojpggmaaDoor
