/- The copy that the laws lend to the program: the same bytes in new memory, a byte 77 behind them. -/
import Derived.Test.YtpomaabkgbaikaaDoorD1RefCrc
import Derived.Laws.AppendOwnNone
namespace Go.Proofs.YtpomaabkgbaikaaDoor.Dg
open Go Go.RowKit
def cellB (b : UInt8) : Value := .int .u8 b.toNat
def cellsB (l : List UInt8) : List Value := l.map cellB
set_option maxRecDepth 100000 in
theorem cellsB_one (l : List UInt8) : ∀ u ∈ cellsB l, u.oneCell' = true := by
  intro u hu
  obtain ⟨b, _, rfl⟩ := List.mem_map.1 hu
  rfl
/-- What the law hands on: bytes with a byte 77 behind, in a block of the call's own. -/
def Lent (w w' : World) (v : Value) (l : List UInt8) : Prop :=
  ∃ g cap, v = .slice (some ⟨g, 0, none⟩) l.length cap ∧ w.heap.size ≤ g ∧ g < w'.heap.size ∧ l.length < cap ∧ (∀ j (h : j < l.length), w'.cell? ⟨g, 0 + j, none⟩ = some (.int .u8 l[j].toNat)) ∧ w'.cell? ⟨g, l.length, none⟩ = some (.int .u8 77)
set_option maxRecDepth 100000 in
theorem u8_info : (Tryd.prog.info? 5).map (fun i => (i.zero, i.size, i.bytes)) = some (some (.int .u8 0), 1, 1) := by kernel_rfl
set_option maxRecDepth 100000 in
theorem add0 (g j : Nat) : (⟨g, 0, none⟩ : Addr).add j = ⟨g, j, none⟩ := by unfold Addr.add; split <;> simp_all
set_option maxRecDepth 100000 in
theorem addoff (g o j : Nat) : (⟨g, o, none⟩ : Addr).add j = ⟨g, o + j, none⟩ := by unfold Addr.add; split <;> simp_all
set_option maxRecDepth 100000 in
theorem lent_of {w w' : World} {v : Value} {l : List UInt8} {base : Nat} (hb : w.heap.size ≤ base) (h : w'.ownsRow base 5 1 v (l.length + 1) (cellsB l ++ [.int .u8 77])) :
    ∃ g cap, v = .slice (some ⟨g, 0, none⟩) (l.length + 1) cap ∧ l.length < cap ∧ Lent w w' (.slice (some ⟨g, 0, none⟩) l.length cap) l := by
  have hlt := h.lt
  rcases h.2 with ⟨_, h0⟩ | ⟨g, cap, cur, rfl, hg, hh, hn, _⟩
  · omega
  · refine ⟨g, cap, rfl, by omega, g, cap, rfl, by omega, (hlt g rfl).2, by omega, fun j hj => ?_, ?_⟩
    · have := h.cells (g := g) rfl j (.int .u8 l[j].toNat) (by rw [List.getElem?_append_left (by simpa [cellsB] using hj)]; simp [cellsB, cellB, hj])
      rw [add0] at this
      rw [Nat.zero_add]; exact this
    · have := h.cells (g := g) rfl l.length (.int .u8 77) (by rw [List.getElem?_append_right (by simp [cellsB])]; simp [cellsB])
      rw [add0] at this
      exact this

set_option maxRecDepth 100000 in
theorem one_new (w : World) (v : Value) (t : TypeId) : ∀ j u, [v][j]? = some u → (w.alloc (.cells #[v] t)).cell? ((⟨w.heap.size, 0, none⟩ : Addr).add j) = some u := by
  intro j u hu
  rw [add0, cell_of_row _ w.heap.size j #[v] t (0, 0) (heap_alloc_new w _)]
  simpa using hu

end Go.Proofs.YtpomaabkgbaikaaDoor.Dg
