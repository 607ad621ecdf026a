/- The digest, as the program works it out: one plain function of the bytes. -/
import Derived.Test.YtpomaabkgbaikaaDoorD1Text
import Derived.Test.YtpomaabkgbaikaaDoorD1Blocks
import Derived.Test.YtpomaabkgbaikaaDoorD1Pad
namespace Go.Proofs.YtpomaabkgbaikaaDoor.Dg
open Go Go.RowKit Go.Shelf
attribute [local go_sem] Oper.semAt_some
def pieceL (p : List UInt8) (i : Nat) : List UInt8 := (p.drop (64 * i)).take 64
def foldS (p : List UInt8) (l : List Nat) : St := l.foldl (fun s i => blockS (pieceL p i) s) first
def digS (l : List UInt8) : List UInt8 := hexS (foldS (padL l) (List.range (padN l.length / 64))) 5
set_option maxRecDepth 100000 in
theorem padN_mod (n : Nat) : padN n = 64 * (padN n / 64) := by unfold padN noughts; omega

set_option maxRecDepth 100000 in
theorem foldS_snoc (p : List UInt8) (l : List Nat) (i : Nat) : foldS p (l ++ [i]) = blockS (pieceL p i) (foldS p l) := by simp [foldS]
set_option maxRecDepth 100000 in
theorem first_ok : first.ok := by simp [St.ok, first]
set_option maxRecDepth 100000 in
theorem addS_ok (s t : St) : (addS s t).ok := ⟨Nat.mod_lt _ (by omega), Nat.mod_lt _ (by omega), Nat.mod_lt _ (by omega), Nat.mod_lt _ (by omega), Nat.mod_lt _ (by omega)⟩
set_option maxRecDepth 100000 in
theorem foldS_ok (p : List UInt8) (l : List Nat) : (foldS p l).ok := by
  rcases List.eq_nil_or_concat l with rfl | ⟨l', i, rfl⟩
  · exact first_ok
  · rw [List.concat_eq_append, foldS_snoc]; exact addS_ok _ _
set_option maxRecDepth 100000 in
theorem pieceL_len (p : List UInt8) (m i : Nat) (hp : p.length = 64 * m) (hi : i < m) : (pieceL p i).length = 64 := by simp [pieceL, hp]; omega
set_option maxRecDepth 100000 in
theorem pieceL_rd {W : World} {g : Nat} {p : List UInt8} (h : RowB W g p) (i : Nat) : Rd W (some ⟨g, 64 * i, none⟩) (pieceL p i) := by
  intro hl
  refine ⟨g, 64 * i, rfl, (Array.getElem?_eq_some_iff.1 h).1, fun j hj => ?_⟩
  have hj' : 64 * i + j < p.length := by simp [pieceL] at hj; omega
  rw [h.cell _ hj']
  simp [pieceL]
def store5W (W : World) (g : Nat) (s : St) : World :=
  ((((W.setCell ⟨g, 0, none⟩ (.int .u32 s.a)).setCell ⟨g, 1, none⟩ (.int .u32 s.b)).setCell ⟨g, 2, none⟩ (.int .u32 s.c)).setCell ⟨g, 3, none⟩ (.int .u32 s.d)).setCell ⟨g, 4, none⟩ (.int .u32 s.e)
set_option maxRecDepth 100000 in
theorem store5 (W : World) (g : Nat) (s s' : St) (h : W.heap[g]? = some (.cells s.row 90 (0, 0))) : (store5W W g s').heap[g]? = some (.cells s'.row 90 (0, 0)) := by
  have h1 := heap_setCell_same W g 0 _ 90 (.int .u32 s'.a) h
  have h2 := heap_setCell_same _ g 1 _ 90 (.int .u32 s'.b) h1
  have h3 := heap_setCell_same _ g 2 _ 90 (.int .u32 s'.c) h2
  have h4 := heap_setCell_same _ g 3 _ 90 (.int .u32 s'.d) h3
  exact heap_setCell_same _ g 4 _ 90 (.int .u32 s'.e) h4
set_option maxRecDepth 100000 in
theorem store5_other (W : World) (g : Nat) (s : St) (k : Nat) (hk : k ≠ g) : (store5W W g s).heap[k]? = W.heap[k]? :=
  (heap_setCell_other _ _ k _ hk).trans ((heap_setCell_other _ _ k _ hk).trans ((heap_setCell_other _ _ k _ hk).trans ((heap_setCell_other _ _ k _ hk).trans (heap_setCell_other _ _ k _ hk))))
set_option maxRecDepth 100000 in
theorem store5_keeps (W : World) (g : Nat) (s : St) : KeepsOthers W (store5W W g s) :=
  ((((KeepsOthers.setCell _ _ _).trans (KeepsOthers.setCell _ _ _)).trans (KeepsOthers.setCell _ _ _)).trans (KeepsOthers.setCell _ _ _)).trans (KeepsOthers.setCell _ _ _)
set_option maxRecDepth 100000 in
theorem store5_below {B : Nat} {a W : World} {g : Nat} (h : Below B a W) (hg : B ≤ g) (s : St) : Below B a (store5W W g s) :=
  ((((h.setCell (p := ⟨g, 0, none⟩) hg _).setCell (p := ⟨g, 1, none⟩) hg _).setCell (p := ⟨g, 2, none⟩) hg _).setCell (p := ⟨g, 3, none⟩) hg _).setCell (p := ⟨g, 4, none⟩) hg _
def tmpsD (v g pc f5 pd fn : Value) : Array Value := #[v, undef, .string ⟨#[]⟩, g, pc, f5, v, pd, fn, pc, undef, undef, undef, undef, undef, undef, undef, undef]

set_option maxHeartbeats 1000000 in
set_option maxRecDepth 100000 in
theorem digest_any (A : Option Addr) (c : Nat) (l : List UInt8) (w : World) (hl : l.length ≤ 1000000) (hr : Rd w A l) (h : w.cell? ⟨2, 15, none⟩ = some (.int .u8 4)) :
    Calls Tryd.prog 43 #[.slice A l.length c] w fun e w' => e = .returned (.string ⟨(digS l).toArray⟩) ∧ Below w.heap.size w w' := by
  have hb3 : 2 < w.heap.size := block_lt_of_cell h
  refine (callsIn_wide (n := 4)).1 ?_
  refine callsIn_of_wp_marks Tryd.func43 rfl trivial ?_ rfl
  simp only [Tryd.ntmps43, List.size_toArray, List.length_cons, List.length_nil, Nat.reduceAdd, Nat.reduceSub, Array.replicate_succ, Array.replicate_zero, List.push_toArray, List.append_toArray, List.nil_append, List.cons_append]
  gi_wp2_with fail
  refine ⟨trivial, (callsIn_wide.2 (start_any _)).mono ?_⟩
  rintro e w1 ⟨rfl, hb1⟩
  have e0 : Value.agg first.row = .agg #[.int .u32 first.a, .int .u32 first.b, .int .u32 first.c, .int .u32 first.d, .int .u32 first.e] := rfl
  rw [e0]
  clear e0
  have HF : Hid (w1.alloc (.cells #[.int .u32 first.a, .int .u32 first.b, .int .u32 first.c, .int .u32 first.d, .int .u32 first.e] 90) = w1.alloc (.cells first.row 90)) := rfl
  generalize first.a = fa at *
  generalize first.b = fb at *
  generalize first.c = fc at *
  generalize first.d = fd at *
  generalize first.e = fe at *
  gi_wp2_with fail
  rw [HF.out]
  have hba : Below w.heap.size w (w1.alloc (.cells first.row 90)) := hb1.alloc hb1.size _
  refine ⟨trivial, (callsIn_wide.2 (pad_any A c l _ hl (hr.below hba))).mono ?_⟩
  rintro e w2 ⟨rfl, hpad, hb2⟩
  gi_wp2_with fail
  refine ⟨trivial, (callsIn_wide.2 (blocks_any _ _ _ _)).mono ?_⟩
  rintro e w3 ⟨rfl, rfl⟩
  have hsz2 : w1.heap.size + 1 < w2.heap.size := by have := (Array.getElem?_eq_some_iff.1 hpad).1; simpa using this
  have hbw : Below w.heap.size w w2 := hba.trans (hb2.mono (by have := hb1.size; simp; omega))
  have hst : w2.heap[w1.heap.size]? = some (.cells first.row 90 (0, 0)) := (hb2.block _ (by simp)).trans (heap_alloc_new w1 _)
  have hN := padN_mod l.length
  have hm : padN l.length / 64 ≤ 20000 := by unfold padN noughts; omega
  have HD : Hid (digS l = hexS (foldS (padL l) (List.range (padN l.length / 64))) 5) := rfl
  have hplen : (padL l).length = 64 * (padN l.length / 64) := by rw [← hN]; simp [padL, tl, padN]; omega
  generalize padN l.length / 64 = m at *
  generalize padL l = p at *
  rw [hN]
  have HN := Lib.hid hN
  have HM := Lib.hid hplen
  clear hN hplen
  gi_wp2_with fail
  have hbox : Box (w2.alloc (.cells #[.slice (some ⟨w1.heap.size + 1, 0, none⟩) (64 * m) (64 * m)] 52)) w2.heap.size (w1.heap.size + 1) 0 (64 * m) := heap_alloc_new _ _
  have hst' : (w2.alloc (.cells #[.slice (some ⟨w1.heap.size + 1, 0, none⟩) (64 * m) (64 * m)] 52)).heap[w1.heap.size]? = some (.cells first.row 90 (0, 0)) := (heap_alloc_old _ _ (by omega)).trans hst
  have hpad2 : RowB w2 (w1.heap.size + 1) p := by simpa using hpad
  have hpad' : RowB (w2.alloc (.cells #[.slice (some ⟨w1.heap.size + 1, 0, none⟩) (64 * m) (64 * m)] 52)) (w1.heap.size + 1) p := (heap_alloc_old _ _ hsz2).trans hpad2
  have hbel' : Below w.heap.size w (w2.alloc (.cells #[.slice (some ⟨w1.heap.size + 1, 0, none⟩) (64 * m) (64 * m)] 52)) := hbw.alloc hbw.size _
  have hsz0 : (w2.alloc (.cells #[.slice (some ⟨w1.heap.size + 1, 0, none⟩) (64 * m) (64 * m)] 52)).heap.size = w2.heap.size + 1 := by simp
  have hws : w.heap.size ≤ w1.heap.size := hb1.size
  generalize w2.alloc (.cells #[.slice (some ⟨w1.heap.size + 1, 0, none⟩) (64 * m) (64 * m)] 52) = wl at *
  clear hst hbw hb2 hpad
  refine rangeC (n := 4) (by omega) (gf := 66) (lb := #[.pointer (some ⟨w2.heap.size, 0, none⟩)]) rfl (enters_of Tryd.func66 (by kernel_rfl) rfl) (C := w2.heap.size) (by omega)
    (blocks_seq 3 w2.heap.size (w1.heap.size + 1) m wl (by omega) hm hbox (fun W W' => ∀ k, k < w2.heap.size + 1 → k ≠ w1.heap.size → W'.heap[k]? = W.heap[k]?) (fun W W' hk => hk _ (by omega) (by omega)))
    (fun h1 h2 k hk hk' => (h2 k hk hk').trans (h1 k hk hk')) (fun W i o hi k hk hk' => World.putObj_heap_other (by omega)) (fun _ => rfl)
    (fun pre W => W.heap[w1.heap.size]? = some (.cells (foldS p pre).row 90 (0, 0)) ∧ RowB W (w1.heap.size + 1) p ∧ Below w.heap.size w W ∧ w2.heap.size + 1 ≤ W.heap.size)
    ?keep ⟨hst', hpad', hbel', by omega⟩
    (fun i => { tmps := tmpsD (.slice A l.length c) (.pointer (some ⟨w1.heap.size, 0, none⟩)) (pieceV (w1.heap.size + 1) m i) (.agg #[.int .u32 fa, .int .u32 fb, .int .u32 fc, .int .u32 fd, .int .u32 fe]) (.slice (some ⟨w1.heap.size + 1, 0, none⟩) (64 * m) (64 * m)) (.func (.func 66) #[] #[.pointer (some ⟨w2.heap.size, 0, none⟩)]), defers := [] })
    ?assign ?body ?done
  case keep =>
    rintro pre B B' row ⟨h1, h2, h3, h4⟩ hg ht
    have keepc : ∀ k o, B.heap[k]? = some o → o.isCells = true → k ≠ w2.heap.size → B'.heap[k]? = B.heap[k]? := by
      intro k o hk ho hne
      refine hg.block k (Array.getElem?_eq_some_iff.1 hk).1 fun e => ?_
      rcases ht k e.symm with h | ⟨_, o', ho', hc'⟩
      · exact hne h
      · rw [hk] at ho'
        cases ho'
        rw [ho] at hc'
        cases hc'
    refine ⟨(keepc _ _ h1 rfl (by omega)).trans h1, (keepc _ _ h2 rfl (by omega)).trans h2, h3.grown hg h3.size fun k e => ?_, Nat.le_trans h4 hg.size⟩
    rcases ht k e with h | ⟨h, _⟩ <;> omega
  case assign =>
    intro l' i W K hK
    gi_wp2
    exact hK
  case body =>
    rintro l' pre i W hi ⟨hS, hP, hB, hZ⟩ hlen
    obtain ⟨y0, y1, y2, y3, y4⟩ := row36 W _ _ hS
    have hf : ∀ k, W.frozen? ⟨w1.heap.size, k, none⟩ = false := fun k => frozen_of_row W _ k _ 90 hS
    unfold tmpsD pieceV
    gi_wp2_with fail
    refine ⟨trivial, (CallsIn.inRound l' (callsIn_wide.2 (block_any (foldS p pre) _ _ (pieceL p i) W (foldS_ok p pre) (pieceL_len p m i HM.out hi) (pieceL_rd hP i)))).mono ?_⟩
    rintro e W4 ⟨rfl, hb4⟩
    have hSlt : w1.heap.size < W.heap.size := (Array.getElem?_eq_some_iff.1 hS).1
    have hS4 : W4.heap[w1.heap.size]? = some (.cells (foldS p pre).row 90 (0, 0)) := (hb4.block _ hSlt).trans hS
    obtain ⟨z0, z1, z2, z3, z4⟩ := row36 W4 _ _ hS4
    have hf4 : ∀ k, W4.frozen? ⟨w1.heap.size, k, none⟩ = false := fun k => frozen_of_row W4 _ k _ 90 hS4
    clear y0 y1 y2 y3 y4 hf
    have e1 : Value.agg (blockS (pieceL p i) (foldS p pre)).row = .agg #[.int .u32 (blockS (pieceL p i) (foldS p pre)).a, .int .u32 (blockS (pieceL p i) (foldS p pre)).b, .int .u32 (blockS (pieceL p i) (foldS p pre)).c, .int .u32 (blockS (pieceL p i) (foldS p pre)).d, .int .u32 (blockS (pieceL p i) (foldS p pre)).e] := rfl
    rw [e1]
    clear e1
    have HE := Lib.hid (foldS_snoc p pre i)
    generalize blockS (pieceL p i) (foldS p pre) = s' at *
    gi_wp2
    have hx := store5 W4 w1.heap.size (foldS p pre) s' hS4
    have ho := store5_other W4 w1.heap.size s'
    have hk5 := store5_keeps W4 w1.heap.size s'
    have hb5 : Below w.heap.size w (store5W W4 w1.heap.size s') := store5_below (hB.trans (hb4.mono hB.size)) hws s'
    refine ⟨(KeepsOthers.of_grownBy (row := none) ⟨hb4.os, hb4.tape, hb4.output, hb4.size, fun k hk _ => hb4.block k hk⟩ (fun j o e => by cases e)).trans hk5, fun k hk hk' => (ho k hk').trans (hb4.block k (by omega)), ?_, (ho _ (by omega)).trans ((hb4.block _ (by omega)).trans hP), hb5, Nat.le_trans hZ (Nat.le_trans hb4.size hk5.size)⟩
    rw [HE.out]
    exact hx
  case done =>
    rintro D xs W hD rfl ⟨hS, hP, hB, hZ⟩ hdef
    obtain ⟨y0, y1, y2, y3, y4⟩ := row36 W _ _ hS
    have h3 : W.cell? ⟨2, 15, none⟩ = some (.int .u8 4) := (hB.cell (p := ⟨2, 15, none⟩) hb3).trans h
    gi_wp2_with fail
    refine ⟨trivial, (callsIn_wide.2 (text_any (foldS p (List.range m)) W (foldS_ok _ _) h3)).mono ?_⟩
    rintro e W5 ⟨rfl, hb5⟩
    have hDlt : D < W.heap.size := (Array.getElem?_eq_some_iff.1 hdef).1
    have hd5 : W5.heap[D]? = some (.deferred (some [])) := (hb5.block _ hDlt).trans hdef
    gi_wp2
    have hbW : Below w.heap.size w W5 := hB.trans (hb5.mono hB.size)
    have hwl := hbel'.size
    refine ⟨by simp, .inl ⟨_, _, rfl, run_takeDeferred hd5, ?_⟩⟩
    exact ⟨_, results_tmp Tryd.results43 _ _ _, by rw [HD.out]; rfl, hbW.grown (grownBy_putObj' _ _ _) hbW.size (fun k e => by cases e; omega)⟩
end Go.Proofs.YtpomaabkgbaikaaDoor.Dg
