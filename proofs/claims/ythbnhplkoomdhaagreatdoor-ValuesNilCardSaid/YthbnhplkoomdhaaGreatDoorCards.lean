/-
  DERIVED. GIVEN WITH THE SEED: THE CARDS: each row of YthbnhplkoomdhaaGreatDoorRows.lean that lists a variable, with what it lists TIED to the program's text (the seventh form; the later family's looks); each row that meets fmt, with fmt's text TOLD by the authors' own Lean function (tested against real Go, not proved from fmt's source: count such statements apart). THE CARD IS WHAT COUNTS. Prove the row's statement (the work); the ties are given (YthbnhplkoomdhaaGreatDoorTie.lean); close each card by the builder's one call (the guide's Derived/Test/ToyasCard.lean, 'card_holds'). Laid BY PROGRAM, IN A SANDBOX (cutbox-door.mjs). By AI agents, Wed Nov 11 2026. No macro, syntax, notation, axiom, sorry.
-/
import Derived.Test.YthbnhplkoomdhaaGreatDoorRows
import GoSem.ClaimSeven
namespace Go.Proofs.YthbnhplkoomdhaaGreatDoor
namespace Rows

/-- THE TIED CARD OF 'taborlaw14.ValuesNil'. -/
def valuesNilCard : Claim7 := { stood := { row := valuesNilRow, standIns := [], harness := (true, "6e6ff7f6c6faf333245ccce7d90d8fc0a00b15c5cec550b63d03297c44b837b5"), looks := false }, kinds := [], alts := [], laidByText := true, laidKinds := [.data, .data, .data], laidTests := true, laidLooks := .later }
def ValuesNilCardSaid : Prop := Claim7.holds Tryz.pinned (.plain (OpenSpec.ofChange valuesNilSpec)) valuesNilCard

/-- THE SECOND FORM's CARD OF 'taborlaw14.ValuesNil'. -/
def valuesNilUptoCard : Claim7 := { stood := { row := valuesNilUptoRow, standIns := [], harness := (true, "6e6ff7f6c6faf333245ccce7d90d8fc0a00b15c5cec550b63d03297c44b837b5"), looks := false }, kinds := [], alts := [], laidByText := true, laidKinds := [.data, .data, .data], laidTests := true, laidLooks := .later }
def ValuesNilUptoCardSaid : Prop := Claim7.holds Tryz.pinned (.plain (OpenSpec.upto valuesNilSpec)) valuesNilUptoCard
end Rows
end Go.Proofs.YthbnhplkoomdhaaGreatDoor
