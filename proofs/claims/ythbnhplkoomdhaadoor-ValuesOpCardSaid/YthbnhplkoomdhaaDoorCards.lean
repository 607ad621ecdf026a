/-
  DERIVED. GIVEN WITH THE SEED: THE CARDS: each row of YthbnhplkoomdhaaDoorRows.lean that lists a variable, with what it lists TIED to the program's text (the seventh form; the later family's looks); each row that meets fmt, with fmt's text TOLD by the authors' own Lean function (tested against real Go, not proved from fmt's source: count such statements apart). THE CARD IS WHAT COUNTS. Prove the row's statement (the work); the ties are given (YthbnhplkoomdhaaDoorTie.lean); close each card by the builder's one call (the guide's Derived/Test/ToyasCard.lean, 'card_holds'). Laid BY PROGRAM, IN A SANDBOX (cutbox-door.mjs). By AI agents, Wed Nov 11 2026. No macro, syntax, notation, axiom, sorry.
-/
import Derived.Test.YthbnhplkoomdhaaDoorRows
import GoSem.ClaimSeven
namespace Go.Proofs.YthbnhplkoomdhaaDoor
namespace Rows

/-- THE TIED CARD OF 'taborlaw14.ValuesOp'. -/
def valuesOpCard : Claim7 := { stood := { row := valuesOpRow, standIns := [], harness := (true, "a7d27d32cf65ad98992023b21faf5c7e7d20eaeeee87f275e5063face9fb5dc4"), looks := false }, kinds := [], alts := [], laidByText := true, laidKinds := [.data, .data, .data], laidTests := true, laidLooks := .later }
def ValuesOpCardSaid : Prop := Claim7.holds Tryd.pinned (.plain (OpenSpec.ofChange valuesOpSpec)) valuesOpCard

/-- THE TIED CARD OF 'taborlaw14.ValuesNumbers'. -/
def valuesNumbersCard : Claim7 := { stood := { row := valuesNumbersRow, standIns := [], harness := (true, "a7d27d32cf65ad98992023b21faf5c7e7d20eaeeee87f275e5063face9fb5dc4"), looks := false }, kinds := [], alts := [], laidByText := true, laidKinds := [.data, .data, .data], laidTests := true, laidLooks := .later }
def ValuesNumbersCardSaid : Prop := Claim7.holds Tryd.pinned (.plain (OpenSpec.ofChange valuesNumbersSpec)) valuesNumbersCard

/-- THE TIED CARD OF 'taborlaw14.ValuesOrder'. -/
def valuesOrderCard : Claim7 := { stood := { row := valuesOrderRow, standIns := [], harness := (true, "a7d27d32cf65ad98992023b21faf5c7e7d20eaeeee87f275e5063face9fb5dc4"), looks := false }, kinds := [], alts := [], laidByText := true, laidKinds := [.data, .data, .data], laidTests := true, laidLooks := .later }
def ValuesOrderCardSaid : Prop := Claim7.holds Tryd.pinned (.plain (OpenSpec.ofChange valuesOrderSpec)) valuesOrderCard

/-- THE SECOND FORM's CARD OF 'taborlaw14.ValuesOp'. -/
def valuesOpUptoCard : Claim7 := { stood := { row := valuesOpUptoRow, standIns := [], harness := (true, "a7d27d32cf65ad98992023b21faf5c7e7d20eaeeee87f275e5063face9fb5dc4"), looks := false }, kinds := [], alts := [], laidByText := true, laidKinds := [.data, .data, .data], laidTests := true, laidLooks := .later }
def ValuesOpUptoCardSaid : Prop := Claim7.holds Tryd.pinned (.plain (OpenSpec.upto valuesOpSpec)) valuesOpUptoCard

/-- THE SECOND FORM's CARD OF 'taborlaw14.ValuesNumbers'. -/
def valuesNumbersUptoCard : Claim7 := { stood := { row := valuesNumbersUptoRow, standIns := [], harness := (true, "a7d27d32cf65ad98992023b21faf5c7e7d20eaeeee87f275e5063face9fb5dc4"), looks := false }, kinds := [], alts := [], laidByText := true, laidKinds := [.data, .data, .data], laidTests := true, laidLooks := .later }
def ValuesNumbersUptoCardSaid : Prop := Claim7.holds Tryd.pinned (.plain (OpenSpec.upto valuesNumbersSpec)) valuesNumbersUptoCard

/-- THE SECOND FORM's CARD OF 'taborlaw14.ValuesOrder'. -/
def valuesOrderUptoCard : Claim7 := { stood := { row := valuesOrderUptoRow, standIns := [], harness := (true, "a7d27d32cf65ad98992023b21faf5c7e7d20eaeeee87f275e5063face9fb5dc4"), looks := false }, kinds := [], alts := [], laidByText := true, laidKinds := [.data, .data, .data], laidTests := true, laidLooks := .later }
def ValuesOrderUptoCardSaid : Prop := Claim7.holds Tryd.pinned (.plain (OpenSpec.upto valuesOrderSpec)) valuesOrderUptoCard
end Rows
end Go.Proofs.YthbnhplkoomdhaaDoor
