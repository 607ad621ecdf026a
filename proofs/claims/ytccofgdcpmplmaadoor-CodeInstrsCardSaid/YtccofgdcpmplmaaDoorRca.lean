/- Whether a program may be, by definition: as the program answers. -/
import Derived.Test.YtccofgdcpmplmaaDoorRck
namespace Go.Proofs.YtccofgdcpmplmaaDoor
open Go Go.RowKit Go.Shelf
theorem rcheck_any (g : Pg) (w : World) (hg : g.at w) (hf : g.fit) : Calls Tryd.prog 9 #[.agg g.vals] w fun e w' => e = .returned (.bool (checkB g)) ∧ Below w.heap.size w w' := by
  unfold checkB headedB
  cases h1 : countedB g with
  | false => exact rcheck_no g w hg hf (.inl h1)
  | true =>
    cases h2 : (g.ps.head?.any fun p => decide (p.params = 0)) with
    | false => exact rcheck_no g w hg hf (.inr h2)
    | true =>
      have h := rcheck_yes g w hg hf h1 h2
      have e : (shortB g && (!g.ps.any badP && namedB g)) = (true && ((true && !g.ps.any badP) && (shortB g && namedB g))) := by
        cases shortB g <;> cases g.ps.any badP <;> cases namedB g <;> rfl
      rw [e] at h
      exact h
end Go.Proofs.YtccofgdcpmplmaaDoor
