/- The bytes that were lent are as they were, the byte 77 behind them too. -/
import Derived.Test.YtpomaabkgbaikaaDoorD1Lent
import Derived.Laws.BytesArg
import Derived.Laws.IdiomStrings
namespace Go.Proofs.YtpomaabkgbaikaaDoor.Dg
open Go Go.RowKit
set_option maxRecDepth 100000 in
theorem conv_some (w : World) (b off c : Nat) (l : List UInt8) (hcell : ∀ j (h : j < l.length), w.cell? ⟨b, off + j, none⟩ = some (.int .u8 l[j].toNat)) :
    (convert 52 9 (.slice (some ⟨b, off, none⟩) l.length c)).run Tryd.prog w = .ok (.string ⟨l.toArray⟩) w :=
  run_convert_bytes_back w 52 9 5 ⟨b, off, none⟩ c l Tryd.underlying52 Tryd.underlying5 Tryd.underlying9 (fun j hj => by rw [addoff]; exact hcell j hj)
set_option maxRecDepth 100000 in
theorem conv_none (w : World) (c : Nat) : (convert 52 9 (.slice none 0 c)).run Tryd.prog w = .ok (.string ⟨#[]⟩) w :=
  run_convert_bytes_nil w 52 5 Tryd.underlying52 Tryd.underlying5 0 c 9 Tryd.underlying9

/-- An argument of type []byte, as it is read: nil, or some cells of a block that is there. -/
def Arg (w : World) (v : Value) (l : List UInt8) : Prop :=
  (v = .slice none 0 0 ∧ l = []) ∨ (∃ a c, v = .slice (some a) 0 c ∧ l = []) ∨ ∃ b off c, v = .slice (some ⟨b, off, none⟩) l.length c ∧ b < w.heap.size ∧ ∀ j (h : j < l.length), w.cell? ⟨b, off + j, none⟩ = some (.int .u8 l[j].toNat)
set_option maxRecDepth 100000 in
theorem Arg.below {w w' : World} {v : Value} {l : List UInt8} (h : Arg w v l) (hb : Below w.heap.size w w') : Arg w' v l := by
  rcases h with h | h | ⟨b, off, c, rfl, hlt, hc⟩
  · exact .inl h
  · exact .inr (.inl h)
  · exact .inr (.inr ⟨b, off, c, rfl, Nat.lt_of_lt_of_le hlt hb.size, fun j hj => (hb.cell (p := ⟨b, off + j, none⟩) hlt).trans (hc j hj)⟩)
set_option maxRecDepth 100000 in
theorem Arg.rd {w : World} {v : Value} {l : List UInt8} (h : Arg w v l) : ∃ A c, v = .slice A l.length c ∧ Rd w A l := by
  rcases h with ⟨rfl, rfl⟩ | ⟨a, c, rfl, rfl⟩ | ⟨b, off, c, rfl, hlt, hc⟩
  · exact ⟨none, 0, rfl, fun h => absurd h (by simp)⟩
  · exact ⟨some a, c, rfl, fun h => absurd h (by simp)⟩
  · exact ⟨_, c, rfl, fun _ => ⟨b, off, rfl, hlt, hc⟩⟩
set_option maxRecDepth 100000 in
theorem Arg.conv {w : World} {v : Value} {l : List UInt8} (h : Arg w v l) : (convert 52 9 v).run Tryd.prog w = .ok (.string ⟨l.toArray⟩) w := by
  rcases h with ⟨rfl, rfl⟩ | ⟨a, c, rfl, rfl⟩ | ⟨b, off, c, rfl, hlt, hc⟩
  · exact conv_none w 0
  · exact run_convert_bytes_back w 52 9 5 a c [] Tryd.underlying52 Tryd.underlying5 Tryd.underlying9 (fun j hj => absurd hj (by simp))
  · exact conv_some w b off c l hc
set_option maxRecDepth 100000 in
theorem Lent.rd {w0 w : World} {v : Value} {l : List UInt8} (h : Lent w0 w v l) : ∃ A c, v = .slice A l.length c ∧ Rd w A l := by
  obtain ⟨g, cap, rfl, h1, h2, h3, h4, h5⟩ := h
  exact ⟨_, cap, rfl, fun _ => ⟨g, 0, rfl, h2, h4⟩⟩
set_option maxRecDepth 100000 in
theorem Lent.below {w0 w w' : World} {v : Value} {l : List UInt8} (h : Lent w0 w v l) (hb : Below w.heap.size w w') : Lent w0 w' v l := by
  obtain ⟨g, cap, rfl, h1, h2, h3, h4, h5⟩ := h
  exact ⟨g, cap, rfl, h1, Nat.lt_of_lt_of_le h2 hb.size, h3, fun j hj => (hb.cell (p := ⟨g, 0 + j, none⟩) h2).trans (h4 j hj), (hb.cell (p := ⟨g, l.length, none⟩) h2).trans h5⟩
end Go.Proofs.YtpomaabkgbaikaaDoor.Dg
