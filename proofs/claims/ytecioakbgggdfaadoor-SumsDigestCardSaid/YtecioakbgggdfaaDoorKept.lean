/- The bytes that were lent are as they were, the byte 77 behind them too. -/
import Derived.Test.YtecioakbgggdfaaDoorLent
import Derived.Laws.BytesArg
import Derived.Laws.IdiomStrings
namespace Go.Proofs.YtecioakbgggdfaaDoor
open Go Go.RowKit
theorem conv_some (w : World) (b off c : Nat) (l : List UInt8) (hcell : ∀ j (h : j < l.length), w.cell? ⟨b, off + j, none⟩ = some (.int .u8 l[j].toNat)) :
    (convert 22 9 (.slice (some ⟨b, off, none⟩) l.length c)).run Tryd.prog w = .ok (.string ⟨l.toArray⟩) w :=
  run_convert_bytes_back w 22 9 5 ⟨b, off, none⟩ c l Tryd.underlying22 Tryd.underlying5 Tryd.underlying9 (fun j hj => by rw [addoff]; exact hcell j hj)
theorem conv_none (w : World) (c : Nat) : (convert 22 9 (.slice none 0 c)).run Tryd.prog w = .ok (.string ⟨#[]⟩) w :=
  run_convert_bytes_nil w 22 5 Tryd.underlying22 Tryd.underlying5 0 c 9 Tryd.underlying9

set_option maxHeartbeats 400000 in
theorem kept_core (w : World) (g cap n : Nat) (B : Value) (s : ByteArray) (hn : n ≤ 1000000) (hcap : n < cap) (hB : ∃ A c, B = .slice A n c)
    (e1 : (convert 22 9 (.slice (some ⟨g, 0, none⟩) n cap)).run Tryd.prog w = .ok (.string s) w) (e2 : (convert 22 9 B).run Tryd.prog w = .ok (.string s) w)
    (h77 : w.cell? ⟨g, n, none⟩ = some (.int .u8 77)) :
    Calls Tryd.prog 16 #[.slice (some ⟨g, 0, none⟩) n cap, B] w fun e w' => e = .returned (.bool true) ∧ w = w' := by
  obtain ⟨A, c, rfl⟩ := hB
  go_enter Tryd.func16, Tryd.ntmps16
  go_wp2
  go_ret
  exact ⟨rfl, rfl⟩
/-- An argument of type []byte, as it is read: nil, or some cells of a block that is there. -/
def Arg (w : World) (v : Value) (l : List UInt8) : Prop :=
  (v = .slice none 0 0 ∧ l = []) ∨ (∃ a c, v = .slice (some a) 0 c ∧ l = []) ∨ ∃ b off c, v = .slice (some ⟨b, off, none⟩) l.length c ∧ b < w.heap.size ∧ ∀ j (h : j < l.length), w.cell? ⟨b, off + j, none⟩ = some (.int .u8 l[j].toNat)
theorem Arg.below {w w' : World} {v : Value} {l : List UInt8} (h : Arg w v l) (hb : Below w.heap.size w w') : Arg w' v l := by
  rcases h with h | h | ⟨b, off, c, rfl, hlt, hc⟩
  · exact .inl h
  · exact .inr (.inl h)
  · exact .inr (.inr ⟨b, off, c, rfl, Nat.lt_of_lt_of_le hlt hb.size, fun j hj => (hb.cell (p := ⟨b, off + j, none⟩) hlt).trans (hc j hj)⟩)
theorem Arg.rd {w : World} {v : Value} {l : List UInt8} (h : Arg w v l) : ∃ A c, v = .slice A l.length c ∧ Rd w A l := by
  rcases h with ⟨rfl, rfl⟩ | ⟨a, c, rfl, rfl⟩ | ⟨b, off, c, rfl, hlt, hc⟩
  · exact ⟨none, 0, rfl, fun h => absurd h (by simp)⟩
  · exact ⟨some a, c, rfl, fun h => absurd h (by simp)⟩
  · exact ⟨_, c, rfl, fun _ => ⟨b, off, rfl, hlt, hc⟩⟩
theorem Arg.conv {w : World} {v : Value} {l : List UInt8} (h : Arg w v l) : (convert 22 9 v).run Tryd.prog w = .ok (.string ⟨l.toArray⟩) w := by
  rcases h with ⟨rfl, rfl⟩ | ⟨a, c, rfl, rfl⟩ | ⟨b, off, c, rfl, hlt, hc⟩
  · exact conv_none w 0
  · exact run_convert_bytes_back w 22 9 5 a c [] Tryd.underlying22 Tryd.underlying5 Tryd.underlying9 (fun j hj => absurd hj (by simp))
  · exact conv_some w b off c l hc
theorem Lent.rd {w0 w : World} {v : Value} {l : List UInt8} (h : Lent w0 w v l) : ∃ A c, v = .slice A l.length c ∧ Rd w A l := by
  obtain ⟨g, cap, rfl, h1, h2, h3, h4, h5⟩ := h
  exact ⟨_, cap, rfl, fun _ => ⟨g, 0, rfl, h2, h4⟩⟩
theorem Lent.below {w0 w w' : World} {v : Value} {l : List UInt8} (h : Lent w0 w v l) (hb : Below w.heap.size w w') : Lent w0 w' v l := by
  obtain ⟨g, cap, rfl, h1, h2, h3, h4, h5⟩ := h
  exact ⟨g, cap, rfl, h1, Nat.lt_of_lt_of_le h2 hb.size, h3, fun j hj => (hb.cell (p := ⟨g, 0 + j, none⟩) h2).trans (h4 j hj), (hb.cell (p := ⟨g, l.length, none⟩) h2).trans h5⟩
theorem lent_any (v : Value) (l : List UInt8) (w : World) (hl : l.length ≤ 1000000) (h : Arg w v l) :
    Calls Tryd.prog 13 #[v] w fun e w' => ∃ v, e = .returned v ∧ Lent w w' v l ∧ Below w.heap.size w w' := by
  rcases h with ⟨rfl, rfl⟩ | ⟨a, c, rfl, rfl⟩ | ⟨b, off, c, rfl, hlt, hc⟩
  · exact lent_none w
  · exact lent_empty a c [] w rfl hl
  · exact lent_some b off c l w hl hc hlt
theorem kept_any (w0 w : World) (m v : Value) (l : List UInt8) (hl : l.length ≤ 1000000) (hm : Lent w0 w m l) (h : Arg w v l) :
    Calls Tryd.prog 16 #[m, v] w fun e w' => e = .returned (.bool true) ∧ w = w' := by
  have e2 := h.conv
  obtain ⟨A, c, rfl, _⟩ := h.rd
  obtain ⟨g, cap, rfl, h1, h2, h3, h4, h5⟩ := hm
  exact kept_core w g cap l.length _ ⟨l.toArray⟩ hl h3 ⟨A, c, rfl⟩ (conv_some w g 0 cap l h4) e2 h5
end Go.Proofs.YtecioakbgggdfaaDoor
