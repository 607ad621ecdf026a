/- The signs, and a text's words: the document's. -/
import Derived.Test.YtejicjcdbfjajaaDoorLexA
namespace Go.Proofs.YtejicjcdbfjajaaDoor
open Go Go.RowKit
theorem sgs_cells : (cellsS sgs).toArray = #[Value.string { data := #[61, 61] }, Value.string { data := #[126, 61] }, Value.string { data := #[60, 61] }, Value.string { data := #[62, 61] }, Value.string { data := #[46, 46] }, Value.string { data := #[43] }, Value.string { data := #[45] }, Value.string { data := #[42] }, Value.string { data := #[47] }, Value.string { data := #[37] }, Value.string { data := #[35] }, Value.string { data := #[60] }, Value.string { data := #[62] }, Value.string { data := #[61] }, Value.string { data := #[40] }, Value.string { data := #[41] }, Value.string { data := #[123] }, Value.string { data := #[125] }, Value.string { data := #[91] }, Value.string { data := #[93] }, Value.string { data := #[59] }, Value.string { data := #[58] }, Value.string { data := #[44] }, Value.string { data := #[46] }] := by kernel_rfl
set_option maxRecDepth 100000 in
theorem rsigns_any (w : World) : Calls Tryd.prog 47 #[] w fun e w' => e = .returned (.slice (some ⟨w.heap.size, 0, none⟩) 24 24) ∧ w' = w.alloc (.cells (cellsS sgs).toArray 9) := by
  go_enter Tryd.func47, Tryd.ntmps47
  go_wp2
  go_ret
  exact ⟨rfl, by rw [sgs_cells]⟩
end Go.Proofs.YtejicjcdbfjajaaDoor
