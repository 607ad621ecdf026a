/- The copy that the laws lend to the program: the same bytes in new memory, a byte 77 behind them. -/
import Derived.Test.YtecioakbgggdfaaDoorRefCrc
import Derived.Laws.AppendOwnNone
namespace Go.Proofs.YtecioakbgggdfaaDoor
open Go Go.RowKit
def cellB (b : UInt8) : Value := .int .u8 b.toNat
def cellsB (l : List UInt8) : List Value := l.map cellB
theorem cellsB_one (l : List UInt8) : ∀ u ∈ cellsB l, u.oneCell' = true := by
  intro u hu
  obtain ⟨b, _, rfl⟩ := List.mem_map.1 hu
  rfl
/-- What the law hands on: bytes with a byte 77 behind, in a block of the call's own. -/
def Lent (w w' : World) (v : Value) (l : List UInt8) : Prop :=
  ∃ g cap, v = .slice (some ⟨g, 0, none⟩) l.length cap ∧ w.heap.size ≤ g ∧ g < w'.heap.size ∧ l.length < cap ∧ (∀ j (h : j < l.length), w'.cell? ⟨g, 0 + j, none⟩ = some (.int .u8 l[j].toNat)) ∧ w'.cell? ⟨g, l.length, none⟩ = some (.int .u8 77)
theorem u8_info : (Tryd.prog.info? 5).map (fun i => (i.zero, i.size, i.bytes)) = some (some (.int .u8 0), 1, 1) := by kernel_rfl
theorem add0 (g j : Nat) : (⟨g, 0, none⟩ : Addr).add j = ⟨g, j, none⟩ := by unfold Addr.add; split <;> simp_all
theorem addoff (g o j : Nat) : (⟨g, o, none⟩ : Addr).add j = ⟨g, o + j, none⟩ := by unfold Addr.add; split <;> simp_all
theorem lent_of {w w' : World} {v : Value} {l : List UInt8} {base : Nat} (hb : w.heap.size ≤ base) (h : w'.ownsRow base 5 1 v (l.length + 1) (cellsB l ++ [.int .u8 77])) :
    ∃ g cap, v = .slice (some ⟨g, 0, none⟩) (l.length + 1) cap ∧ l.length < cap ∧ Lent w w' (.slice (some ⟨g, 0, none⟩) l.length cap) l := by
  have hlt := h.lt
  rcases h.2 with ⟨_, h0⟩ | ⟨g, cap, cur, rfl, hg, hh, hn, _⟩
  · omega
  · refine ⟨g, cap, rfl, by omega, g, cap, rfl, by omega, (hlt g rfl).2, by omega, fun j hj => ?_, ?_⟩
    · have := h.cells (g := g) rfl j (.int .u8 l[j].toNat) (by rw [List.getElem?_append_left (by simpa [cellsB] using hj)]; simp [cellsB, cellB, hj])
      rw [add0] at this
      rw [Nat.zero_add]; exact this
    · have := h.cells (g := g) rfl l.length (.int .u8 77) (by rw [List.getElem?_append_right (by simp [cellsB])]; simp [cellsB])
      rw [add0] at this
      exact this

theorem one_new (w : World) (v : Value) (t : TypeId) : ∀ j u, [v][j]? = some u → (w.alloc (.cells #[v] t)).cell? ((⟨w.heap.size, 0, none⟩ : Addr).add j) = some u := by
  intro j u hu
  rw [add0, cell_of_row _ w.heap.size j #[v] t (0, 0) (heap_alloc_new w _)]
  simpa using hu

set_option maxHeartbeats 400000 in
theorem lent_some (b off c : Nat) (l : List UInt8) (w : World) (hl : l.length ≤ 1000000) (hcell : ∀ j (h : j < l.length), w.cell? ⟨b, off + j, none⟩ = some (.int .u8 l[j].toNat)) (hb : b < w.heap.size) :
    Calls Tryd.prog 13 #[.slice (some ⟨b, off, none⟩) l.length c] w fun e w' => ∃ v, e = .returned v ∧ Lent w w' v l ∧ Below w.heap.size w w' := by
  obtain ⟨i0, hi, hz0, hz1, hz2⟩ := info_parts u8_info
  have hnews : ∀ j u, (cellsB l)[j]? = some u → (w.alloc (.cells #[] 5)).cell? ((⟨b, off, none⟩ : Addr).add j) = some u := by
    intro j u hu
    rw [addoff, World.cell?_alloc_lt w _ ⟨b, off + j, none⟩ hb]
    obtain ⟨hj, he⟩ := List.getElem?_eq_some_iff.1 hu
    have hj' : j < l.length := by simpa [cellsB] using hj
    rw [hcell j hj', ← he]; simp [cellsB, cellB]
  clear hcell
  have hown0 : (w.alloc (.cells #[] 5)).ownsRow w.heap.size 5 1 (.slice (some ⟨w.heap.size, 0, none⟩) 0 0) 0 [] := World.ownsRow_made w #[] 0 (Nat.le_refl _) (by decide) (by simp)
  have HL := Lib.hid hl
  go_enter Tryd.func13, Tryd.ntmps13
  go_wp2_with (first
    | (at_builtin
       refine wpList_append_own _ rfl (.tmp 3) (.tmp 4) _ rfl w.heap.size 5 i0 _ 1 1 Tryd.underlying22 hi hz0 hz1 hz2 rfl (by omega) (.slice (some ⟨w.heap.size, 0, none⟩) 0 0) 0 [] rfl hown0 ⟨b, off, none⟩ l.length c (cellsB l) rfl (by simp [cellsB]) hnews (cellsB_one l) (by simp only [maxLen]; omega) (by omega) (by simp) ?_
       intro v1 w1 hown1 hg1 _
       have hbw1 : Below w.heap.size w w1 := ((Below.refl w.heap.size w).alloc (Nat.le_refl _) (.cells #[] 5)).grown hg1 (by simp) (by simp [Value.ownBlock]))
    | (at_builtin
       go_must (refine wpList_append_own _ rfl (.tmp 5) (.tmp 6) _ rfl w.heap.size 5 i0 _ 1 1 Tryd.underlying22 hi hz0 hz1 hz2 rfl (by omega) v1 (0 + l.length) ([] ++ cellsB l) rfl (hown1.alloc _) ⟨w1.heap.size, 0, none⟩ 1 1 [.int .u8 77] rfl rfl (one_new w1 _ _) (by simp [Value.oneCell']) (by simp only [maxLen]; omega) (by omega) (by have := hbw1.size; simp; omega) ?_)
       intro v2 w2 hown2 hg2 _
       have hbw2 : Below w.heap.size w w2 := (hbw1.alloc hbw1.size (.cells #[.int .u8 77] 5)).grown hg2 (by have := hbw1.size; simp; omega) (fun k hk => (hown1.lt k hk).1)
       have hown2' : w2.ownsRow w.heap.size 5 1 v2 (l.length + 1) (cellsB l ++ [.int .u8 77]) := by simpa using hown2
       obtain ⟨g, cap, rfl, hcap, hlent⟩ := lent_of (Nat.le_refl _) hown2'))
  go_ret
  exact ⟨_, rfl, hlent, hbw2⟩

set_option maxHeartbeats 400000 in
theorem lent_empty (a : Addr) (c : Nat) (l : List UInt8) (w : World) (he : l = []) (hl : l.length ≤ 1000000) :
    Calls Tryd.prog 13 #[.slice (some a) l.length c] w fun e w' => ∃ v, e = .returned v ∧ Lent w w' v l ∧ Below w.heap.size w w' := by
  obtain ⟨i0, hi, hz0, hz1, hz2⟩ := info_parts u8_info
  have hnews : ∀ j u, (cellsB l)[j]? = some u → (w.alloc (.cells #[] 5)).cell? (a.add j) = some u := by
    intro j u hu
    subst he
    simp [cellsB] at hu
  clear he
  have hown0 : (w.alloc (.cells #[] 5)).ownsRow w.heap.size 5 1 (.slice (some ⟨w.heap.size, 0, none⟩) 0 0) 0 [] := World.ownsRow_made w #[] 0 (Nat.le_refl _) (by decide) (by simp)
  have HL := Lib.hid hl
  go_enter Tryd.func13, Tryd.ntmps13
  go_wp2_with (first
    | (at_builtin
       refine wpList_append_own _ rfl (.tmp 3) (.tmp 4) _ rfl w.heap.size 5 i0 _ 1 1 Tryd.underlying22 hi hz0 hz1 hz2 rfl (by omega) (.slice (some ⟨w.heap.size, 0, none⟩) 0 0) 0 [] rfl hown0 a l.length c (cellsB l) rfl (by simp [cellsB]) hnews (cellsB_one l) (by simp only [maxLen]; omega) (by omega) (by simp) ?_
       intro v1 w1 hown1 hg1 _
       have hbw1 : Below w.heap.size w w1 := ((Below.refl w.heap.size w).alloc (Nat.le_refl _) (.cells #[] 5)).grown hg1 (by simp) (by simp [Value.ownBlock]))
    | (at_builtin
       go_must (refine wpList_append_own _ rfl (.tmp 5) (.tmp 6) _ rfl w.heap.size 5 i0 _ 1 1 Tryd.underlying22 hi hz0 hz1 hz2 rfl (by omega) v1 (0 + l.length) ([] ++ cellsB l) rfl (hown1.alloc _) ⟨w1.heap.size, 0, none⟩ 1 1 [.int .u8 77] rfl rfl (one_new w1 _ _) (by simp [Value.oneCell']) (by simp only [maxLen]; omega) (by omega) (by have := hbw1.size; simp; omega) ?_)
       intro v2 w2 hown2 hg2 _
       have hbw2 : Below w.heap.size w w2 := (hbw1.alloc hbw1.size (.cells #[.int .u8 77] 5)).grown hg2 (by have := hbw1.size; simp; omega) (fun k hk => (hown1.lt k hk).1)
       have hown2' : w2.ownsRow w.heap.size 5 1 v2 (l.length + 1) (cellsB l ++ [.int .u8 77]) := by simpa using hown2
       obtain ⟨g, cap, rfl, hcap, hlent⟩ := lent_of (Nat.le_refl _) hown2'))
  go_ret
  exact ⟨_, rfl, hlent, hbw2⟩

set_option maxHeartbeats 400000 in
theorem lent_none (w : World) :
    Calls Tryd.prog 13 #[.slice none 0 0] w fun e w' => ∃ v, e = .returned v ∧ Lent w w' v [] ∧ Below w.heap.size w w' := by
  obtain ⟨i0, hi, hz0, hz1, hz2⟩ := info_parts u8_info
  have hown0 : (w.alloc (.cells #[] 5)).ownsRow w.heap.size 5 1 (.slice (some ⟨w.heap.size, 0, none⟩) 0 0) 0 [] := World.ownsRow_made w #[] 0 (Nat.le_refl _) (by decide) (by simp)
  have hb0 : Below w.heap.size w (w.alloc (.cells #[] 5)) := (Below.refl w.heap.size w).alloc (Nat.le_refl _) (.cells #[] 5)
  go_enter Tryd.func13, Tryd.ntmps13
  go_wp2_with (first
    | (at_builtin
       refine wpList_append_own_none rfl (.tmp 3) (.tmp 4) _ rfl w.heap.size 5 i0 1 Tryd.underlying22 hi (.slice (some ⟨w.heap.size, 0, none⟩) 0 0) 0 [] rfl hown0 rfl ?_)
    | (at_builtin
       go_must (refine wpList_append_own _ rfl (.tmp 5) (.tmp 6) _ rfl w.heap.size 5 i0 _ 1 1 Tryd.underlying22 hi hz0 hz1 hz2 rfl (by omega) (.slice (some ⟨w.heap.size, 0, none⟩) 0 0) 0 [] rfl (hown0.alloc _) ⟨w.heap.size + 1, 0, none⟩ 1 1 [.int .u8 77] rfl rfl (by simpa using one_new (w.alloc (.cells #[] 5)) _ _) (by simp [Value.oneCell']) (by simp only [maxLen]; omega) (by omega) (by simp; omega) ?_)
       intro v2 w2 hown2 hg2 _
       have hbw2 : Below w.heap.size w w2 := (hb0.alloc hb0.size (.cells #[.int .u8 77] 5)).grown hg2 (by simp; omega) (by simp [Value.ownBlock])
       have hown2' : w2.ownsRow w.heap.size 5 1 v2 (([] : List UInt8).length + 1) (cellsB [] ++ [.int .u8 77]) := by simpa [cellsB] using hown2
       obtain ⟨g, cap, rfl, hcap, hlent⟩ := lent_of (Nat.le_refl _) hown2'))
  go_ret
  exact ⟨_, rfl, hlent, hbw2⟩
end Go.Proofs.YtecioakbgggdfaaDoor
