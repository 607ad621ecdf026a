/- A region that draws its order and whose calls may make memory but tell the same in every world of a class: one walk in the order of the text. -/
import Derived.Deep.QuietTactic
import Derived.BigQuiet
import Derived.Test.YtpomaabkgbaikaaDoorD1Kept
namespace Go.Proofs.YtpomaabkgbaikaaDoor.Dg
open Go Go.RowKit
/-- A world of a class. -/
structure InW (S : World → Prop) where
  w : World
  h : S w
set_option maxRecDepth 100000 in
theorem region_in {P : Program} {id : Nat} {Q : Exit → Act → World → Prop} {a : Act} {w : World} {l : List Oper} (S : World → Prop) (hm : P.follows .mixedOrders = true) (hB : Region.lexB .any l.toArray = true) (h0 : S w.drew)
    (h : wpQuiet P l.toArray (fun w' => ∃ x : InW S, w' = x.w) (fun a' => ∀ w', (∃ x : InW S, w' = x.w) → Q .normal a' w') l a) : (Code.region id l.toArray true).wp P Q a w :=
  wp_region_quiet (C := fun w' => ∃ x : InW S, w' = x.w) hm hB ⟨⟨_, h0⟩, rfl⟩ h
/-- It hands back this value, and a world of the class. -/
abbrev RetIn (S : World → Prop) (v : Value) : Ending → World → Prop := fun e w'' => e = .returned v ∧ ∃ y : InW S, w'' = y.w
/-- The worlds that grew out of this one. -/
abbrev Grown (w : World) : World → Prop := Below w.heap.size w
set_option maxRecDepth 100000 in
theorem ret_below {P : Program} {f : FuncId} {args : Array Value} {w0 : World} {x : InW (Grown w0)} {v : Value} (h : Calls P f args x.w fun e w' => e = .returned v ∧ Below x.w.heap.size x.w w') :
    Calls P f args x.w (RetIn (Grown w0) v) := h.mono fun _ w' ⟨a, b⟩ => ⟨a, ⟨w', x.h.trans (b.mono x.h.size)⟩, rfl⟩
set_option maxRecDepth 100000 in
theorem ret_same {P : Program} {f : FuncId} {args : Array Value} {w0 : World} {x : InW (Grown w0)} {v : Value} (h : Calls P f args x.w fun e w' => e = .returned v ∧ x.w = w') :
    Calls P f args x.w (RetIn (Grown w0) v) := h.mono fun _ _ ⟨a, b⟩ => ⟨a, x, b.symm⟩
set_option maxRecDepth 100000 in
theorem ret_drew {P : Program} {f : FuncId} {args : Array Value} {w0 : World} {x : InW (Grown w0)} {v : Value} (h : Calls P f args x.w fun e w' => e = .returned v ∧ ∃ n, w' = x.w.drewN n) :
    Calls P f args x.w (RetIn (Grown w0) v) := h.mono fun _ w' ⟨a, b⟩ => ⟨a, ⟨w', by obtain ⟨n, rfl⟩ := b; exact Below.drewN' x.h n⟩, rfl⟩
end Go.Proofs.YtpomaabkgbaikaaDoor.Dg
