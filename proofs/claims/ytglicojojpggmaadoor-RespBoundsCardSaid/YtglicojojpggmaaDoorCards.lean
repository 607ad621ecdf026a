/-
  DERIVED. GIVEN WITH THE SEED: THE CARDS: each row of YtglicojojpggmaaDoorRows.lean that lists a variable, with what it lists TIED to the program's text (the seventh form; the later family's looks); each row that meets fmt, with fmt's text TOLD by the authors' own Lean function (tested against real Go, not proved from fmt's source: count such statements apart). THE CARD IS WHAT COUNTS. Prove the row's statement (the work); the ties are given (YtglicojojpggmaaDoorTie.lean); close each card by the builder's one call (the guide's Derived/Test/ToyasCard.lean, 'card_holds'). Laid BY PROGRAM, IN A SANDBOX (cutbox-door.mjs). By AI agents, Wed Nov 11 2026. No macro, syntax, notation, axiom, sorry.
-/
import Derived.Test.YtglicojojpggmaaDoorRows
import GoSem.ClaimSeven
namespace Go.Proofs.YtglicojojpggmaaDoor
namespace Rows

/-- THE TIED CARD OF 'taborlaw04.RespRequest'. -/
def respRequestCard : Claim7 := { stood := { row := respRequestRow, standIns := [], harness := (true, "f9bb26ac7388fd38dfe12f2c78b7a4346216038ca2e8960553c2b7118b4d1206"), looks := true }, kinds := [], alts := [], laidByText := true, laidKinds := [.data, .data, .data], laidTests := true, laidLooks := .later }
def RespRequestCardSaid : Prop := Claim7.holds Tryd.pinned (.plain (OpenSpec.ofChange respRequestSpec)) respRequestCard

/-- THE TIED CARD OF 'taborlaw04.RespParse'. -/
def respParseCard : Claim7 := { stood := { row := respParseRow, standIns := [], harness := (true, "f9bb26ac7388fd38dfe12f2c78b7a4346216038ca2e8960553c2b7118b4d1206"), looks := true }, kinds := [], alts := [], laidByText := true, laidKinds := [.data, .data, .data], laidTests := true, laidLooks := .later }
def RespParseCardSaid : Prop := Claim7.holds Tryd.pinned (.plain (OpenSpec.ofChange respParseSpec)) respParseCard

/-- THE TIED CARD OF 'taborlaw04.RespEncode'. -/
def respEncodeCard : Claim7 := { stood := { row := respEncodeRow, standIns := [], harness := (true, "f9bb26ac7388fd38dfe12f2c78b7a4346216038ca2e8960553c2b7118b4d1206"), looks := true }, kinds := [], alts := [], laidByText := true, laidKinds := [.data, .data, .data], laidTests := true, laidLooks := .later }
def RespEncodeCardSaid : Prop := Claim7.holds Tryd.pinned (.plain (OpenSpec.ofChange respEncodeSpec)) respEncodeCard

/-- THE TIED CARD OF 'taborlaw04.RespDecode'. -/
def respDecodeCard : Claim7 := { stood := { row := respDecodeRow, standIns := [], harness := (true, "f9bb26ac7388fd38dfe12f2c78b7a4346216038ca2e8960553c2b7118b4d1206"), looks := true }, kinds := [], alts := [], laidByText := true, laidKinds := [.data, .data, .data], laidTests := true, laidLooks := .later }
def RespDecodeCardSaid : Prop := Claim7.holds Tryd.pinned (.plain (OpenSpec.ofChange respDecodeSpec)) respDecodeCard

/-- THE TIED CARD OF 'taborlaw04.RespSame'. -/
def respSameCard : Claim7 := { stood := { row := respSameRow, standIns := [], harness := (true, "f9bb26ac7388fd38dfe12f2c78b7a4346216038ca2e8960553c2b7118b4d1206"), looks := true }, kinds := [], alts := [], laidByText := true, laidKinds := [.data, .data, .data], laidTests := true, laidLooks := .later }
def RespSameCardSaid : Prop := Claim7.holds Tryd.pinned (.plain (OpenSpec.ofChange respSameSpec)) respSameCard

/-- THE TIED CARD OF 'taborlaw04.RespReads'. -/
def respReadsCard : Claim7 := { stood := { row := respReadsRow, standIns := [], harness := (true, "f9bb26ac7388fd38dfe12f2c78b7a4346216038ca2e8960553c2b7118b4d1206"), looks := true }, kinds := [], alts := [], laidByText := true, laidKinds := [.data, .data, .data], laidTests := true, laidLooks := .later }
def RespReadsCardSaid : Prop := Claim7.holds Tryd.pinned (.plain (OpenSpec.ofChange respReadsSpec)) respReadsCard

/-- THE TIED CARD OF 'taborlaw04.RespBounds'. -/
def respBoundsCard : Claim7 := { stood := { row := respBoundsRow, standIns := [], harness := (true, "f9bb26ac7388fd38dfe12f2c78b7a4346216038ca2e8960553c2b7118b4d1206"), looks := true }, kinds := [], alts := [], laidByText := true, laidKinds := [.data, .data, .data], laidTests := true, laidLooks := .later }
def RespBoundsCardSaid : Prop := Claim7.holds Tryd.pinned (.plain (OpenSpec.ofChange respBoundsSpec)) respBoundsCard

/-- THE TIED CARD OF 'taborlaw04.RespBack'. -/
def respBackCard : Claim7 := { stood := { row := respBackRow, standIns := [], harness := (true, "f9bb26ac7388fd38dfe12f2c78b7a4346216038ca2e8960553c2b7118b4d1206"), looks := true }, kinds := [], alts := [], laidByText := true, laidKinds := [.data, .data, .data], laidTests := true, laidLooks := .later }
def RespBackCardSaid : Prop := Claim7.holds Tryd.pinned (.plain (OpenSpec.ofChange respBackSpec)) respBackCard

/-- THE TIED CARD OF 'taborlaw04.RespAgain'. -/
def respAgainCard : Claim7 := { stood := { row := respAgainRow, standIns := [], harness := (true, "f9bb26ac7388fd38dfe12f2c78b7a4346216038ca2e8960553c2b7118b4d1206"), looks := true }, kinds := [], alts := [], laidByText := true, laidKinds := [.data, .data, .data], laidTests := true, laidLooks := .later }
def RespAgainCardSaid : Prop := Claim7.holds Tryd.pinned (.plain (OpenSpec.ofChange respAgainSpec)) respAgainCard

/-- THE SECOND FORM's CARD OF 'taborlaw04.RespRequest'. -/
def respRequestUptoCard : Claim7 := { stood := { row := respRequestUptoRow, standIns := [], harness := (true, "f9bb26ac7388fd38dfe12f2c78b7a4346216038ca2e8960553c2b7118b4d1206"), looks := true }, kinds := [], alts := [], laidByText := true, laidKinds := [.data, .data, .data], laidTests := true, laidLooks := .later }
def RespRequestUptoCardSaid : Prop := Claim7.holds Tryd.pinned (.plain (OpenSpec.upto respRequestSpec)) respRequestUptoCard

/-- THE SECOND FORM's CARD OF 'taborlaw04.RespParse'. -/
def respParseUptoCard : Claim7 := { stood := { row := respParseUptoRow, standIns := [], harness := (true, "f9bb26ac7388fd38dfe12f2c78b7a4346216038ca2e8960553c2b7118b4d1206"), looks := true }, kinds := [], alts := [], laidByText := true, laidKinds := [.data, .data, .data], laidTests := true, laidLooks := .later }
def RespParseUptoCardSaid : Prop := Claim7.holds Tryd.pinned (.plain (OpenSpec.upto respParseSpec)) respParseUptoCard

/-- THE SECOND FORM's CARD OF 'taborlaw04.RespEncode'. -/
def respEncodeUptoCard : Claim7 := { stood := { row := respEncodeUptoRow, standIns := [], harness := (true, "f9bb26ac7388fd38dfe12f2c78b7a4346216038ca2e8960553c2b7118b4d1206"), looks := true }, kinds := [], alts := [], laidByText := true, laidKinds := [.data, .data, .data], laidTests := true, laidLooks := .later }
def RespEncodeUptoCardSaid : Prop := Claim7.holds Tryd.pinned (.plain (OpenSpec.upto respEncodeSpec)) respEncodeUptoCard

/-- THE SECOND FORM's CARD OF 'taborlaw04.RespDecode'. -/
def respDecodeUptoCard : Claim7 := { stood := { row := respDecodeUptoRow, standIns := [], harness := (true, "f9bb26ac7388fd38dfe12f2c78b7a4346216038ca2e8960553c2b7118b4d1206"), looks := true }, kinds := [], alts := [], laidByText := true, laidKinds := [.data, .data, .data], laidTests := true, laidLooks := .later }
def RespDecodeUptoCardSaid : Prop := Claim7.holds Tryd.pinned (.plain (OpenSpec.upto respDecodeSpec)) respDecodeUptoCard

/-- THE SECOND FORM's CARD OF 'taborlaw04.RespSame'. -/
def respSameUptoCard : Claim7 := { stood := { row := respSameUptoRow, standIns := [], harness := (true, "f9bb26ac7388fd38dfe12f2c78b7a4346216038ca2e8960553c2b7118b4d1206"), looks := true }, kinds := [], alts := [], laidByText := true, laidKinds := [.data, .data, .data], laidTests := true, laidLooks := .later }
def RespSameUptoCardSaid : Prop := Claim7.holds Tryd.pinned (.plain (OpenSpec.upto respSameSpec)) respSameUptoCard

/-- THE SECOND FORM's CARD OF 'taborlaw04.RespReads'. -/
def respReadsUptoCard : Claim7 := { stood := { row := respReadsUptoRow, standIns := [], harness := (true, "f9bb26ac7388fd38dfe12f2c78b7a4346216038ca2e8960553c2b7118b4d1206"), looks := true }, kinds := [], alts := [], laidByText := true, laidKinds := [.data, .data, .data], laidTests := true, laidLooks := .later }
def RespReadsUptoCardSaid : Prop := Claim7.holds Tryd.pinned (.plain (OpenSpec.upto respReadsSpec)) respReadsUptoCard

/-- THE SECOND FORM's CARD OF 'taborlaw04.RespBounds'. -/
def respBoundsUptoCard : Claim7 := { stood := { row := respBoundsUptoRow, standIns := [], harness := (true, "f9bb26ac7388fd38dfe12f2c78b7a4346216038ca2e8960553c2b7118b4d1206"), looks := true }, kinds := [], alts := [], laidByText := true, laidKinds := [.data, .data, .data], laidTests := true, laidLooks := .later }
def RespBoundsUptoCardSaid : Prop := Claim7.holds Tryd.pinned (.plain (OpenSpec.upto respBoundsSpec)) respBoundsUptoCard

/-- THE SECOND FORM's CARD OF 'taborlaw04.RespBack'. -/
def respBackUptoCard : Claim7 := { stood := { row := respBackUptoRow, standIns := [], harness := (true, "f9bb26ac7388fd38dfe12f2c78b7a4346216038ca2e8960553c2b7118b4d1206"), looks := true }, kinds := [], alts := [], laidByText := true, laidKinds := [.data, .data, .data], laidTests := true, laidLooks := .later }
def RespBackUptoCardSaid : Prop := Claim7.holds Tryd.pinned (.plain (OpenSpec.upto respBackSpec)) respBackUptoCard

/-- THE SECOND FORM's CARD OF 'taborlaw04.RespAgain'. -/
def respAgainUptoCard : Claim7 := { stood := { row := respAgainUptoRow, standIns := [], harness := (true, "f9bb26ac7388fd38dfe12f2c78b7a4346216038ca2e8960553c2b7118b4d1206"), looks := true }, kinds := [], alts := [], laidByText := true, laidKinds := [.data, .data, .data], laidTests := true, laidLooks := .later }
def RespAgainUptoCardSaid : Prop := Claim7.holds Tryd.pinned (.plain (OpenSpec.upto respAgainSpec)) respAgainUptoCard
end Rows
end Go.Proofs.YtglicojojpggmaaDoor
