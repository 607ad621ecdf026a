/- A byte that is put to a text that grows leaves all words where they are. -/
import Derived.Test.YtccofgdcpmplmaaGreatDoorBld
namespace Go.Proofs.YtccofgdcpmplmaaGreatDoor
open Go Go.RowKit
def K34 (W W' : World) : Prop := ∀ (t : TypeId), t = 39 ∨ t = 42 → ∀ (k : Nat) (cs : Array Value) (fr : Nat × Nat), W.heap[k]? = some (Obj.cells cs t fr) → W'.heap[k]? = some (Obj.cells cs t fr)
theorem K34.trans {A B C : World} (h : K34 A B) (k : K34 B C) : K34 A C := fun t ht i cs fr e => k t ht i cs fr (h t ht i cs fr e)
theorem k34_below {A B : World} (h : Below A.heap.size A B) : K34 A B := fun _ _ i _ _ e => (h.block i (Array.getElem?_eq_some_iff.1 e).1).trans e
theorem k34_set {W : World} {b : Nat} {c : Array Value} {t : TypeId} {fr : Nat × Nat} (h : W.heap[b]? = some (.cells c t fr)) (ht : t ≠ 39 ∧ t ≠ 42) (j : Nat) (v : Value) : K34 W (W.setCell ⟨b, j, none⟩ v) := by
  intro t' ht' i cs fr' e
  refine (Below.heap_setCell _ ⟨b, j, none⟩ _ i (fun q => ?_)).trans e
  have q' : i = b := q
  rw [q', h] at e
  cases e
  rcases ht' with rfl | rfl
  · exact ht.1 rfl
  · exact ht.2 rfl
theorem k34_grown {W W' : World} {row : Option Nat} (hg : W.grownBy W' row) (hr : ∀ r, row = some r → ∃ c fr, W.heap[r]? = some (.cells c 5 fr)) : K34 W W' := by
  intro t' ht' i cs fr e
  refine (hg.block i (Array.getElem?_eq_some_iff.1 e).1 fun q => ?_).trans e
  obtain ⟨c, fr', h⟩ := hr i q.symm
  rw [h] at e
  rcases ht' with rfl | rfl <;> cases e
theorem own_type {w : World} {base n sz : Nat} {t : TypeId} {v : Value} {xs : List Value} (h : w.ownsRow base t sz v n xs) : ∀ r, v.ownBlock = some r → ∃ c fr, w.heap[r]? = some (.cells c t fr) := by
  intro r hr
  rcases h.2 with ⟨rfl, _⟩ | ⟨g, cap, cur, rfl, _, hgg, _⟩
  · cases hr
  · cases hr
    exact ⟨cur, _, hgg⟩
set_option maxHeartbeats 1000000 in
set_option maxRecDepth 100000 in
theorem check_gr34 (b : Nat) (l : List UInt8) (w : World) (h0 : Gr b l w) : Calls Tryz.prog 51 #[GrP b] w fun e w' => e = .returned (.tuple #[]) ∧ Gw b l w' ∧ Below b w w' ∧ K34 w w' := by
  obtain ⟨j, hj, hjs⟩ := Option.map_eq_some_iff.1 size54
  have n0 : j.size ≠ 0 := by rw [hjs]; decide
  rcases h0.1 with h | h
  · have H := Lib.hid h
    have c0 := h.cell0
    have fz := h.frozen0
    have hs := h.shape
    have r1 : ∀ W, W = w → (convert 45 112 (GrP b)).run Tryz.prog W = .ok (GrP b) W := fun W e => by subst e; exact Lib.run_to_unsafe _ ⟨b, 0, none⟩ Tryz.underlying45 Tryz.underlying112 hj n0 hs (by simp)
    have r3 : ∀ W, W = w → (convert 112 45 (GrP b)).run Tryz.prog W = .ok (GrP b) W := fun W e => by subst e; exact Lib.run_from_unsafe _ ⟨b, 0, none⟩ Tryz.underlying112 Tryz.underlying45 hj hs lies54
    have r1' := r1 w rfl
    have r3' := r3 w rfl
    clear h hs r1 r3
    go_enter Tryz.func51, Tryz.ntmps51
    go_wp2
    rw [run_callFunc_extern Tryz.func67 (by kernel_rfl) (by kernel_rfl) (by kernel_rfl) (e := Extern.AbiNoEscape.same) (by kernel_rfl)]
    rw [Lib.run_noEscape]
    simp only [Result.andThen]
    rw [Oper.upon_value]
    go_wp2
    go_end0
    exact ⟨rfl, H.out.used _, (Below.refl b w).setCell (p := ⟨b, 0, none⟩) (Nat.le_refl _) _, by obtain ⟨_, v, h1, _⟩ := H.out; exact k34_set h1 (by decide) _ _⟩
  · have H := Lib.hid h
    have c0 := h.cell0
    have r2 := Lib.run_neq_ptr_same (P := Tryz.prog) w ⟨b, 0, none⟩ Tryz.underlying45 hj
    clear h
    go_enter Tryz.func51, Tryz.ntmps51
    go_wp2
    go_end0
    exact ⟨rfl, H.out, Below.refl b _, fun _ _ _ _ _ h => h⟩
set_option maxHeartbeats 2000000 in
set_option maxRecDepth 100000 in
/-- A byte. -/
theorem byte_gr34 (b : Nat) (l : List UInt8) (c : UInt8) (w : World) (h : Gr b l w) (hm : l.length ≤ 1000000000) : Calls Tryz.prog 30 #[GrP b, .int .u8 c.toNat] w fun e w' => e = .returned .nilIface ∧ Gr b (l ++ [c]) w' ∧ Below b w w' ∧ K34 w w' := by
  obtain ⟨i0, hi, hz0, hz1, hz2⟩ := info_parts u8_info
  have HC := Lib.hid (check_gr34 b l w h)
  have hlt := gr_lt h
  clear h
  go_enter Tryz.func30, Tryz.ntmps30
  go_wp2_with fail
  refine HC.out.mono ?_
  rintro e w1 ⟨rfl, hw, hb, hk34⟩
  obtain ⟨v, k1, k2, k3, c1, fz⟩ := gw_cells hw
  have K1 := Lib.hid k1
  have K2 := Lib.hid k2
  have K3 := Lib.hid k3
  have HB := Lib.hid hb
  have HK := Lib.hid hk34
  have hs1 := hb.size
  clear k1 k2 k3 hw hb HC hk34
  go_wp2_with (at_builtin; refine wpList_append_own _ rfl (.tmp 11) (.tmp 13) 46 rfl b 5 i0 _ 1 1 Tryz.underlying46 hi hz0 hz1 hz2 rfl (by omega) v l.length (cellsB l) rfl (K2.out.alloc _) ⟨w1.heap.size, 0, none⟩ 1 1 [.int .u8 c.toNat] rfl rfl (World.news_of_block (cs := #[.int .u8 c.toNat]) (t := 5) (fr := (0, 0)) (heap_alloc_new w1 _)) (by simp [Value.oneCell']) (by simp only [maxLen]; omega) (by omega) (by simp; omega) ?_; intro v7 w7 ho7 hg7 _; have HO := Lib.hid ho7; have HG := Lib.hid hg7; have HZ : Hid (w7.heap[b]? = some (.cells #[GrP b, v] 50 (0, 0))) := Lib.hid ((hg7.block b (by simp; omega) (fun e => K3.out e.symm)).trans ((below_new w1 _).block b (by omega) |>.trans K1.out)); have d1 : w7.cell? ⟨b, 1, none⟩ = some v := (by rw [Lib.cell_of_heap HZ.out]; rfl); have d2 : ∀ j, w7.frozen? ⟨b, j, none⟩ = false := (fun j => Lib.frozen_of_heap HZ.out j); obtain ⟨A7, c7, rfl, _⟩ := own_rdV ho7; clear ho7 hg7)
  go_ret
  have hbl : Below b w w7 := HB.out.trans ((((below_new w1 _).mono (by omega)).grown HG.out (by simp; omega) (fun k hk => (K2.out.lt k hk).1)))
  refine ⟨rfl, ⟨.inr (Lib.BuilderAt.put (Nat.le_refl _) HZ.out (bs' := cellsB (l ++ [c])) ?_ (by decide)), fun e => by simp at e⟩, hbl.setCell (p := ⟨b, 1, none⟩) (Nat.le_refl _) _, HK.out.trans ((k34_below (below_new w1 _)).trans ((k34_grown HG.out (own_type (K2.out.alloc _))).trans (k34_set HZ.out (by decide) _ _)))⟩
  rw [cellsB_app, List.length_append, cellsB_len]
  exact HO.out
set_option maxHeartbeats 2000000 in
set_option maxRecDepth 100000 in
/-- A text. -/
theorem text_gr34 (b : Nat) (l : List UInt8) (s : ByteArray) (w : World) (h : Gr b l w) (hne : l ++ bl s ≠ []) (hm : l.length + s.size ≤ 1000000000) : Calls Tryz.prog 28 #[GrP b, .string s] w fun e w' => (∃ v, e = .returned v) ∧ Gr b (l ++ bl s) w' ∧ Below b w w' ∧ K34 w w' := by
  obtain ⟨i0, hi, hz0, hz1, hz2⟩ := info_parts u8_info
  have HC := Lib.hid (check_gr34 b l w h)
  have hlt := gr_lt h
  clear h
  go_enter Tryz.func28, Tryz.ntmps28
  go_wp2_with fail
  refine HC.out.mono ?_
  rintro e w1 ⟨rfl, hw, hb, hk34⟩
  obtain ⟨v, k1, k2, k3, c1, fz⟩ := gw_cells hw
  have K1 := Lib.hid k1
  have K2 := Lib.hid k2
  have K3 := Lib.hid k3
  have HB := Lib.hid hb
  have HK := Lib.hid hk34
  have hs1 := hb.size
  clear k1 k2 k3 hw hb HC hk34
  go_wp2_with (at_builtin; refine Lib.wpList_append_own_string _ rfl (.tmp 12) (.tmp 13) 46 9 rfl b 5 i0 Tryz.underlying46 Tryz.underlying9 hi hz0 hz1 hz2 v l.length (cellsB l) rfl K2.out s rfl (by simp only [maxLen]; omega) (by omega) (by omega) ?_; intro v7 w7 ho7 hg7 _; have HO := Lib.hid ho7; have HG := Lib.hid hg7; have HZ : Hid (w7.heap[b]? = some (.cells #[GrP b, v] 50 (0, 0))) := Lib.hid ((hg7.block b (by omega) (fun e => K3.out e.symm)).trans K1.out); have d1 : w7.cell? ⟨b, 1, none⟩ = some v := (by rw [Lib.cell_of_heap HZ.out]; rfl); have d2 : ∀ j, w7.frozen? ⟨b, j, none⟩ = false := (fun j => Lib.frozen_of_heap HZ.out j); obtain ⟨A7, c7, rfl, _⟩ := own_rdV ho7; clear ho7 hg7)
  go_ret2
  have hbl : Below b w w7 := HB.out.trans ((Below.refl b w1).grown HG.out (by omega) (fun k hk => (K2.out.lt k hk).1))
  refine ⟨⟨_, rfl⟩, ⟨.inr (Lib.BuilderAt.put (Nat.le_refl _) HZ.out (bs' := cellsB (l ++ bl s)) ?_ (by decide)), fun e => absurd e hne⟩, hbl.setCell (p := ⟨b, 1, none⟩) (Nat.le_refl _) _, HK.out.trans ((k34_grown HG.out (own_type K2.out)).trans (k34_set HZ.out (by decide) _ _))⟩
  have h2 := HO.out
  have e1 : cellsB (l ++ bl s) = cellsB l ++ Lib.strCells s := by rw [cellsB_app]; rfl
  rw [e1, List.length_append, cellsB_len, Lib.strCells_length]
  exact h2
end Go.Proofs.YtccofgdcpmplmaaGreatDoor
