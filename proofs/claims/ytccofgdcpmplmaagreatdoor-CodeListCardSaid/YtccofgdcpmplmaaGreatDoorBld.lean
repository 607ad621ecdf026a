/- A text that grows: bytes and texts that are put behind it. -/
import Derived.Test.YtccofgdcpmplmaaGreatDoorBase
import Derived.Lib.Builder
import Derived.Lib.Walk
import Derived.Lib.UnsafeStr
import Derived.Laws.Externs
import Derived.Deep.AppendLies
import Derived.RegionTactic
import Derived.Test.YtccofgdcpmplmaaGreatDoorShelf
namespace Go.Proofs.YtccofgdcpmplmaaGreatDoor
open Go Go.RowKit
/-- A text that grows, in block b, with these bytes. -/
def Gr (b : Nat) (l : List UInt8) (w : World) : Prop := Lib.IsBuilder 50 5 b b (cellsB l) w ∧ (l = [] → w.cell? ⟨b, 1, none⟩ = some (.slice none 0 0))
abbrev GrP (b : Nat) : Value := .pointer (some ⟨b, 0, none⟩)
/-- One that was written. -/
abbrev Gw (b : Nat) (l : List UInt8) (w : World) : Prop := Lib.BuilderAt 50 5 b b (GrP b) (cellsB l) w
theorem gr_new (w : World) : Gr w.heap.size [] (w.alloc (.cells #[.pointer none, .slice none 0 0] 50)) := ⟨Lib.fresh_isBuilder 50 5 w, fun _ => by rw [Lib.cell_of_heap (heap_alloc_new w _)]; rfl⟩
theorem gr_lt {b : Nat} {l : List UInt8} {w : World} (h : Gr b l w) : b < w.heap.size := h.1.elim (fun k => k.lt) (fun k => k.lt)
theorem at_below {b : Nat} {p : Value} {l : List UInt8} {w w' : World} (h : Lib.BuilderAt 50 5 b b p (cellsB l) w) (hb : Below w.heap.size w w') : Lib.BuilderAt 50 5 b b p (cellsB l) w' := by
  have hlt := h.lt
  obtain ⟨h0, v, h1, h2, h3⟩ := h
  exact ⟨h0, v, (hb.block b hlt).trans h1, own_below h2 hb, h3⟩
theorem gr_below {b : Nat} {l : List UInt8} {w w' : World} (h : Gr b l w) (hb : Below w.heap.size w w') : Gr b l w' := ⟨h.1.imp (fun k => at_below k hb) (fun k => at_below k hb), fun e => (hb.cell (p := ⟨b, 1, none⟩) (gr_lt h)).trans (h.2 e)⟩
/-- The two cells, and where the bytes lie. -/
theorem gw_cells {b : Nat} {l : List UInt8} {w : World} (h : Gw b l w) : ∃ v, w.heap[b]? = some (.cells #[GrP b, v] 50 (0, 0)) ∧ w.ownsRow b 5 1 v l.length (cellsB l) ∧ v.ownBlock ≠ some b ∧ w.cell? ⟨b, 1, none⟩ = some v ∧ ∀ j, w.frozen? ⟨b, j, none⟩ = false := by
  obtain ⟨_, v, h1, h2, h3⟩ := h
  rw [cellsB_len] at h2
  refine ⟨v, h1, h2, h3, ?_, fun j => Lib.frozen_of_heap h1 j⟩
  rw [Lib.cell_of_heap h1]
  rfl
theorem size54 : (Tryz.prog.info? 48).map (·.size) = some 2 := by kernel_rfl
theorem lies54 : liesAt Tryz.prog Tryz.prog.depth 50 (2 / Tryz.prog.cellsOf 50) 0 48 1 = true := by kernel_rfl
set_option maxHeartbeats 1000000 in
set_option maxRecDepth 100000 in
theorem check_gr (b : Nat) (l : List UInt8) (w : World) (h0 : Gr b l w) : Calls Tryz.prog 51 #[GrP b] w fun e w' => e = .returned (.tuple #[]) ∧ Gw b l w' ∧ Below b w w' := by
  obtain ⟨j, hj, hjs⟩ := Option.map_eq_some_iff.1 size54
  have n0 : j.size ≠ 0 := by rw [hjs]; decide
  rcases h0.1 with h | h
  · have H := Lib.hid h
    have c0 := h.cell0
    have fz := h.frozen0
    have hs := h.shape
    have r1 : ∀ W, W = w → (convert 45 112 (GrP b)).run Tryz.prog W = .ok (GrP b) W := fun W e => by subst e; exact Lib.run_to_unsafe _ ⟨b, 0, none⟩ Tryz.underlying45 Tryz.underlying112 hj n0 hs (by simp)
    have r3 : ∀ W, W = w → (convert 112 45 (GrP b)).run Tryz.prog W = .ok (GrP b) W := fun W e => by subst e; exact Lib.run_from_unsafe _ ⟨b, 0, none⟩ Tryz.underlying112 Tryz.underlying45 hj hs lies54
    have r1' := r1 w rfl
    have r3' := r3 w rfl
    clear h hs r1 r3
    go_enter Tryz.func51, Tryz.ntmps51
    go_wp2
    rw [run_callFunc_extern Tryz.func67 (by kernel_rfl) (by kernel_rfl) (by kernel_rfl) (e := Extern.AbiNoEscape.same) (by kernel_rfl)]
    rw [Lib.run_noEscape]
    simp only [Result.andThen]
    rw [Oper.upon_value]
    go_wp2
    go_end0
    exact ⟨rfl, H.out.used _, (Below.refl b w).setCell (p := ⟨b, 0, none⟩) (Nat.le_refl _) _⟩
  · have H := Lib.hid h
    have c0 := h.cell0
    have r2 := Lib.run_neq_ptr_same (P := Tryz.prog) w ⟨b, 0, none⟩ Tryz.underlying45 hj
    clear h
    go_enter Tryz.func51, Tryz.ntmps51
    go_wp2
    go_end0
    exact ⟨rfl, H.out, Below.refl b _⟩
set_option maxHeartbeats 2000000 in
set_option maxRecDepth 100000 in
/-- A byte. -/
theorem byte_gr (b : Nat) (l : List UInt8) (c : UInt8) (w : World) (h : Gr b l w) (hm : l.length ≤ 1000000000) : Calls Tryz.prog 30 #[GrP b, .int .u8 c.toNat] w fun e w' => e = .returned .nilIface ∧ Gr b (l ++ [c]) w' ∧ Below b w w' := by
  obtain ⟨i0, hi, hz0, hz1, hz2⟩ := info_parts u8_info
  have HC := Lib.hid (check_gr b l w h)
  have hlt := gr_lt h
  clear h
  go_enter Tryz.func30, Tryz.ntmps30
  go_wp2_with fail
  refine HC.out.mono ?_
  rintro e w1 ⟨rfl, hw, hb⟩
  obtain ⟨v, k1, k2, k3, c1, fz⟩ := gw_cells hw
  have K1 := Lib.hid k1
  have K2 := Lib.hid k2
  have K3 := Lib.hid k3
  have HB := Lib.hid hb
  have hs1 := hb.size
  clear k1 k2 k3 hw hb HC
  go_wp2_with (at_builtin; refine wpList_append_own _ rfl (.tmp 11) (.tmp 13) 46 rfl b 5 i0 _ 1 1 Tryz.underlying46 hi hz0 hz1 hz2 rfl (by omega) v l.length (cellsB l) rfl (K2.out.alloc _) ⟨w1.heap.size, 0, none⟩ 1 1 [.int .u8 c.toNat] rfl rfl (World.news_of_block (cs := #[.int .u8 c.toNat]) (t := 5) (fr := (0, 0)) (heap_alloc_new w1 _)) (by simp [Value.oneCell']) (by simp only [maxLen]; omega) (by omega) (by simp; omega) ?_; intro v7 w7 ho7 hg7 _; have HO := Lib.hid ho7; have HG := Lib.hid hg7; have HZ : Hid (w7.heap[b]? = some (.cells #[GrP b, v] 50 (0, 0))) := Lib.hid ((hg7.block b (by simp; omega) (fun e => K3.out e.symm)).trans ((below_new w1 _).block b (by omega) |>.trans K1.out)); have d1 : w7.cell? ⟨b, 1, none⟩ = some v := (by rw [Lib.cell_of_heap HZ.out]; rfl); have d2 : ∀ j, w7.frozen? ⟨b, j, none⟩ = false := (fun j => Lib.frozen_of_heap HZ.out j); obtain ⟨A7, c7, rfl, _⟩ := own_rdV ho7; clear ho7 hg7)
  go_ret
  have hbl : Below b w w7 := HB.out.trans ((((below_new w1 _).mono (by omega)).grown HG.out (by simp; omega) (fun k hk => (K2.out.lt k hk).1)))
  refine ⟨rfl, ⟨.inr (Lib.BuilderAt.put (Nat.le_refl _) HZ.out (bs' := cellsB (l ++ [c])) ?_ (by decide)), fun e => by simp at e⟩, hbl.setCell (p := ⟨b, 1, none⟩) (Nat.le_refl _) _⟩
  rw [cellsB_app, List.length_append, cellsB_len]
  exact HO.out
set_option maxHeartbeats 2000000 in
set_option maxRecDepth 100000 in
/-- A text. -/
theorem text_gr (b : Nat) (l : List UInt8) (s : ByteArray) (w : World) (h : Gr b l w) (hne : l ++ bl s ≠ []) (hm : l.length + s.size ≤ 1000000000) : Calls Tryz.prog 28 #[GrP b, .string s] w fun e w' => (∃ v, e = .returned v) ∧ Gr b (l ++ bl s) w' ∧ Below b w w' := by
  obtain ⟨i0, hi, hz0, hz1, hz2⟩ := info_parts u8_info
  have HC := Lib.hid (check_gr b l w h)
  have hlt := gr_lt h
  clear h
  go_enter Tryz.func28, Tryz.ntmps28
  go_wp2_with fail
  refine HC.out.mono ?_
  rintro e w1 ⟨rfl, hw, hb⟩
  obtain ⟨v, k1, k2, k3, c1, fz⟩ := gw_cells hw
  have K1 := Lib.hid k1
  have K2 := Lib.hid k2
  have K3 := Lib.hid k3
  have HB := Lib.hid hb
  have hs1 := hb.size
  clear k1 k2 k3 hw hb HC
  go_wp2_with (at_builtin; refine Lib.wpList_append_own_string _ rfl (.tmp 12) (.tmp 13) 46 9 rfl b 5 i0 Tryz.underlying46 Tryz.underlying9 hi hz0 hz1 hz2 v l.length (cellsB l) rfl K2.out s rfl (by simp only [maxLen]; omega) (by omega) (by omega) ?_; intro v7 w7 ho7 hg7 _; have HO := Lib.hid ho7; have HG := Lib.hid hg7; have HZ : Hid (w7.heap[b]? = some (.cells #[GrP b, v] 50 (0, 0))) := Lib.hid ((hg7.block b (by omega) (fun e => K3.out e.symm)).trans K1.out); have d1 : w7.cell? ⟨b, 1, none⟩ = some v := (by rw [Lib.cell_of_heap HZ.out]; rfl); have d2 : ∀ j, w7.frozen? ⟨b, j, none⟩ = false := (fun j => Lib.frozen_of_heap HZ.out j); obtain ⟨A7, c7, rfl, _⟩ := own_rdV ho7; clear ho7 hg7)
  go_ret2
  have hbl : Below b w w7 := HB.out.trans ((Below.refl b w1).grown HG.out (by omega) (fun k hk => (K2.out.lt k hk).1))
  refine ⟨⟨_, rfl⟩, ⟨.inr (Lib.BuilderAt.put (Nat.le_refl _) HZ.out (bs' := cellsB (l ++ bl s)) ?_ (by decide)), fun e => absurd e hne⟩, hbl.setCell (p := ⟨b, 1, none⟩) (Nat.le_refl _) _⟩
  have h2 := HO.out
  have e1 : cellsB (l ++ bl s) = cellsB l ++ Lib.strCells s := by rw [cellsB_app]; rfl
  rw [e1, List.length_append, cellsB_len, Lib.strCells_length]
  exact h2
/-- A text of bytes. -/
def ofL (l : List UInt8) : ByteArray := ⟨l.toArray⟩
theorem bl_ofL (l : List UInt8) : bl (ofL l) = l := by simp [bl, ofL]
theorem ofL_bl (s : ByteArray) : ofL (bl s) = s := bl_inj (bl_ofL _)
theorem cells5 : Tryz.prog.cellsOf 5 = 1 := by kernel_rfl
/-- Where the bytes of one lie. -/
theorem gr_row {b : Nat} {l : List UInt8} {w : World} (h : Gr b l w) : ∃ p A c, w.heap[b]? = some (.cells #[p, .slice A l.length c] 50 (0, 0)) ∧ w.ownsRow b 5 1 (.slice A l.length c) l.length (cellsB l) ∧ (l = [] → A = none ∧ c = 0) := by
  obtain ⟨p, hA⟩ : ∃ p, Lib.BuilderAt 50 5 b b p (cellsB l) w := h.1.elim (fun k => ⟨_, k⟩) (fun k => ⟨_, k⟩)
  obtain ⟨_, v, h1, h2, _⟩ := hA
  rw [cellsB_len] at h2
  obtain ⟨A, c, rfl, _⟩ := own_rdV h2
  refine ⟨p, A, c, h1, h2, fun e => ?_⟩
  have h3 := h.2 e
  rw [Lib.cell_of_heap h1] at h3
  simp at h3
  exact ⟨h3.1, h3.2.2⟩
set_option maxHeartbeats 2000000 in
set_option maxRecDepth 100000 in
/-- What has grown. -/
theorem done_gr (b : Nat) (l : List UInt8) (w : World) (h : Gr b l w) : Calls Tryz.prog 18 #[GrP b] w fun e w' => e = .returned (.string (ofL l)) ∧ Below b w w' := by
  obtain ⟨p, A, c, h1, h2, h3⟩ := gr_row h
  have c1 : w.drew.cell? ⟨b, 1, none⟩ = some (.slice A l.length c) := by
    have : w.drew.heap[b]? = _ := h1
    rw [Lib.cell_of_heap this]
    rfl
  have HE : Hid (∀ q, Below b w (w.drewN q)) := Lib.hid (fun q => below_any q (Below.refl b w))
  by_cases h0 : l = []
  · obtain ⟨rfl, rfl⟩ := h3 h0
    subst h0
    have hSD : (Builtin.unsafeSliceData_ #[46] 71 #[.slice none 0 0]).run Tryz.prog w.drew = .ok (.pointer none) w.drew := Lib.run_unsafeSliceData_nil _ _ _ _ _
    have hUS : (Builtin.unsafeString_ #[71, 3] 9 #[.pointer none, .int .i64 0]).run Tryz.prog w.drew = .ok (.string .empty) w.drew := Lib.run_unsafeString_none _ _ _ _ _
    clear h h1 h2 h3
    go_enter Tryz.func18, Tryz.ntmps18
    go_wp2
    go_region
    all_goals (go_wp2; go_ret; exact ⟨rfl, HE.out 1⟩)
  · have hl0 : l.length ≠ 0 := by simpa using h0
    obtain ⟨g, cap, cur, hv, hbg, hg, hnc, hcm, hcs, _⟩ := h2.2.resolve_left (fun e => hl0 e.2)
    cases hv
    have hSD : (Builtin.unsafeSliceData_ #[46] 71 #[.slice (some ⟨g, 0, none⟩) l.length c]).run Tryz.prog w.drew = .ok (.pointer (some ⟨g, 0, none⟩)) w.drew := Lib.run_unsafeSliceData_row _ _ _ _ _ _ (by omega)
    have hUS : (Builtin.unsafeString_ #[71, 3] 9 #[.pointer (some ⟨g, 0, none⟩), .int .i64 l.length]).run Tryz.prog w.drew = .ok (.string (ofL l)) (w.drew.freeze ⟨g, 0, none⟩ l.length) := by
      refine Lib.run_unsafeString_row w.drew 71 3 9 5 Tryz.underlying71 cells5 g cur.size (by have hg' : w.drew.heap[g]? = some (.cells cur 5 (0, 0)) := hg; simp [World.shape?, hg']) l h0 (by omega) (by simp only [maxLen] at hcm; omega) ?_
      intro j x hx
      exact h2.cells (g := g) rfl j (.int .u8 x.toNat) (by simp [cellsB, cellB, hx])
    have HF : Hid (Below b w (w.drew.freeze ⟨g, 0, none⟩ l.length)) := Lib.hid (Lib.below_freeze (Below.drew (Below.refl b w)) (p := ⟨g, 0, none⟩) hbg _)
    clear h h1 h2 h3 hg hbg hcs
    go_enter Tryz.func18, Tryz.ntmps18
    go_wp2
    go_region
    all_goals (go_wp2; go_ret; exact ⟨rfl, HF.out⟩)
end Go.Proofs.YtccofgdcpmplmaaGreatDoor
