/-
  DERIVED. GIVEN WITH THE SEED: THE CARDS: each row of YtccofgdcpmplmaaDoorRows.lean that lists a variable, with what it lists TIED to the program's text (the seventh form; the later family's looks); each row that meets fmt, with fmt's text TOLD by the authors' own Lean function (tested against real Go, not proved from fmt's source: count such statements apart). THE CARD IS WHAT COUNTS. Prove the row's statement (the work); the ties are given (YtccofgdcpmplmaaDoorTie.lean); close each card by the builder's one call (the guide's Derived/Test/ToyasCard.lean, 'card_holds'). Laid BY PROGRAM, IN A SANDBOX (cutbox-door.mjs). By AI agents, Wed Nov 11 2026. No macro, syntax, notation, axiom, sorry.
-/
import Derived.Test.YtccofgdcpmplmaaDoorRows
import GoSem.ClaimSeven
namespace Go.Proofs.YtccofgdcpmplmaaDoor
namespace Rows

/-- THE TIED CARD OF 'taborlaw18.CodeCheck'. -/
def codeCheckCard : Claim7 := { stood := { row := codeCheckRow, standIns := [], harness := (true, "7e1feb6ac96e116e8f5bc0c6e281a50997c26064ce0a39036e3c4e42b9c0f35e"), looks := false }, kinds := [], alts := [], laidByText := true, laidKinds := [.data, .data, .data, .listed, .data], laidTests := true, laidLooks := .later }
def CodeCheckCardSaid : Prop := Claim7.holds Tryd.pinned (.plain (OpenSpec.ofChange codeCheckSpec)) codeCheckCard

/-- THE TIED CARD OF 'taborlaw18.CodeInstrs'. -/
def codeInstrsCard : Claim7 := { stood := { row := codeInstrsRow, standIns := [], harness := (true, "7e1feb6ac96e116e8f5bc0c6e281a50997c26064ce0a39036e3c4e42b9c0f35e"), looks := false }, kinds := [], alts := [], laidByText := true, laidKinds := [.data, .data, .data, .listed, .data], laidTests := true, laidLooks := .later }
def CodeInstrsCardSaid : Prop := Claim7.holds Tryd.pinned (.plain (OpenSpec.ofChange codeInstrsSpec)) codeInstrsCard

/-- THE TIED CARD OF 'taborlaw18.CodeSame'. -/
def codeSameCard : Claim7 := { stood := { row := codeSameRow, standIns := [], harness := (true, "7e1feb6ac96e116e8f5bc0c6e281a50997c26064ce0a39036e3c4e42b9c0f35e"), looks := false }, kinds := [], alts := [], laidByText := true, laidKinds := [.data, .data, .data, .listed, .data], laidTests := true, laidLooks := .later }
def CodeSameCardSaid : Prop := Claim7.holds Tryd.pinned (.plain (OpenSpec.ofChange codeSameSpec)) codeSameCard

/-- THE SECOND FORM's CARD OF 'taborlaw18.CodeCheck'. -/
def codeCheckUptoCard : Claim7 := { stood := { row := codeCheckUptoRow, standIns := [], harness := (true, "7e1feb6ac96e116e8f5bc0c6e281a50997c26064ce0a39036e3c4e42b9c0f35e"), looks := false }, kinds := [], alts := [], laidByText := true, laidKinds := [.data, .data, .data, .listed, .data], laidTests := true, laidLooks := .later }
def CodeCheckUptoCardSaid : Prop := Claim7.holds Tryd.pinned (.plain (OpenSpec.upto codeCheckSpec)) codeCheckUptoCard

/-- THE SECOND FORM's CARD OF 'taborlaw18.CodeInstrs'. -/
def codeInstrsUptoCard : Claim7 := { stood := { row := codeInstrsUptoRow, standIns := [], harness := (true, "7e1feb6ac96e116e8f5bc0c6e281a50997c26064ce0a39036e3c4e42b9c0f35e"), looks := false }, kinds := [], alts := [], laidByText := true, laidKinds := [.data, .data, .data, .listed, .data], laidTests := true, laidLooks := .later }
def CodeInstrsUptoCardSaid : Prop := Claim7.holds Tryd.pinned (.plain (OpenSpec.upto codeInstrsSpec)) codeInstrsUptoCard

/-- THE SECOND FORM's CARD OF 'taborlaw18.CodeSame'. -/
def codeSameUptoCard : Claim7 := { stood := { row := codeSameUptoRow, standIns := [], harness := (true, "7e1feb6ac96e116e8f5bc0c6e281a50997c26064ce0a39036e3c4e42b9c0f35e"), looks := false }, kinds := [], alts := [], laidByText := true, laidKinds := [.data, .data, .data, .listed, .data], laidTests := true, laidLooks := .later }
def CodeSameUptoCardSaid : Prop := Claim7.holds Tryd.pinned (.plain (OpenSpec.upto codeSameSpec)) codeSameUptoCard
end Rows
end Go.Proofs.YtccofgdcpmplmaaDoor
