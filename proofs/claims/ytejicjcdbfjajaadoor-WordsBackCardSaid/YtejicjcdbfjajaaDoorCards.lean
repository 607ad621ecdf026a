/-
  DERIVED. GIVEN WITH THE SEED: THE CARDS: each row of YtejicjcdbfjajaaDoorRows.lean that lists a variable, with what it lists TIED to the program's text (the seventh form; the later family's looks); each row that meets fmt, with fmt's text TOLD by the authors' own Lean function (tested against real Go, not proved from fmt's source: count such statements apart). THE CARD IS WHAT COUNTS. Prove the row's statement (the work); the ties are given (YtejicjcdbfjajaaDoorTie.lean); close each card by the builder's one call (the guide's Derived/Test/ToyasCard.lean, 'card_holds'). Laid BY PROGRAM, IN A SANDBOX (cutbox-door.mjs). By AI agents, Wed Nov 11 2026. No macro, syntax, notation, axiom, sorry.
-/
import Derived.Test.YtejicjcdbfjajaaDoorRows
import GoSem.ClaimSeven
namespace Go.Proofs.YtejicjcdbfjajaaDoor
namespace Rows

/-- THE TIED CARD OF 'taborlaw11.WordsLex'. -/
def wordsLexCard : Claim7 := { stood := { row := wordsLexRow, standIns := [], harness := (true, "55a2599a12d03dccaf19e6202c9d0163fad4639317a47728933288509994a712"), looks := false }, kinds := [], alts := [], laidByText := true, laidKinds := [.listed, .data], laidTests := true, laidLooks := .later }
def WordsLexCardSaid : Prop := Claim7.holds Tryd.pinned (.plain (OpenSpec.ofChange wordsLexSpec)) wordsLexCard

/-- THE TIED CARD OF 'taborlaw11.WordsPrint'. -/
def wordsPrintCard : Claim7 := { stood := { row := wordsPrintRow, standIns := [], harness := (true, "55a2599a12d03dccaf19e6202c9d0163fad4639317a47728933288509994a712"), looks := false }, kinds := [], alts := [], laidByText := true, laidKinds := [.data, .data, .data, .listed, .data], laidTests := true, laidLooks := .later }
def WordsPrintCardSaid : Prop := Claim7.holds Tryd.pinned (.plain (OpenSpec.ofChange wordsPrintSpec)) wordsPrintCard

/-- THE TIED CARD OF 'taborlaw11.WordsBack'. -/
def wordsBackCard : Claim7 := { stood := { row := wordsBackRow, standIns := [], harness := (true, "55a2599a12d03dccaf19e6202c9d0163fad4639317a47728933288509994a712"), looks := false }, kinds := [], alts := [], laidByText := true, laidKinds := [.data, .data, .data, .listed, .data], laidTests := true, laidLooks := .later }
def WordsBackCardSaid : Prop := Claim7.holds Tryd.pinned (.plain (OpenSpec.ofChange wordsBackSpec)) wordsBackCard

/-- THE TIED CARD OF 'taborlaw11.WordsQuote'. -/
def wordsQuoteCard : Claim7 := { stood := { row := wordsQuoteRow, standIns := [], harness := (true, "55a2599a12d03dccaf19e6202c9d0163fad4639317a47728933288509994a712"), looks := false }, kinds := [], alts := [], laidByText := true, laidKinds := [.listed, .data], laidTests := true, laidLooks := .later }
def WordsQuoteCardSaid : Prop := Claim7.holds Tryd.pinned (.plain (OpenSpec.ofChange wordsQuoteSpec)) wordsQuoteCard

/-- THE TIED CARD OF 'taborlaw11.WordsName'. -/
def wordsNameCard : Claim7 := { stood := { row := wordsNameRow, standIns := [], harness := (true, "55a2599a12d03dccaf19e6202c9d0163fad4639317a47728933288509994a712"), looks := false }, kinds := [], alts := [], laidByText := true, laidKinds := [.listed, .data], laidTests := true, laidLooks := .later }
def WordsNameCardSaid : Prop := Claim7.holds Tryd.pinned (.plain (OpenSpec.ofChange wordsNameSpec)) wordsNameCard

/-- THE TIED CARD OF 'taborlaw11.WordsSame'. -/
def wordsSameCard : Claim7 := { stood := { row := wordsSameRow, standIns := [], harness := (true, "55a2599a12d03dccaf19e6202c9d0163fad4639317a47728933288509994a712"), looks := false }, kinds := [], alts := [], laidByText := true, laidKinds := [.listed, .data], laidTests := true, laidLooks := .later }
def WordsSameCardSaid : Prop := Claim7.holds Tryd.pinned (.plain (OpenSpec.ofChange wordsSameSpec)) wordsSameCard

/-- THE SECOND FORM's CARD OF 'taborlaw11.WordsLex'. -/
def wordsLexUptoCard : Claim7 := { stood := { row := wordsLexUptoRow, standIns := [], harness := (true, "55a2599a12d03dccaf19e6202c9d0163fad4639317a47728933288509994a712"), looks := false }, kinds := [], alts := [], laidByText := true, laidKinds := [.listed, .data], laidTests := true, laidLooks := .later }
def WordsLexUptoCardSaid : Prop := Claim7.holds Tryd.pinned (.plain (OpenSpec.upto wordsLexSpec)) wordsLexUptoCard

/-- THE SECOND FORM's CARD OF 'taborlaw11.WordsPrint'. -/
def wordsPrintUptoCard : Claim7 := { stood := { row := wordsPrintUptoRow, standIns := [], harness := (true, "55a2599a12d03dccaf19e6202c9d0163fad4639317a47728933288509994a712"), looks := false }, kinds := [], alts := [], laidByText := true, laidKinds := [.data, .data, .data, .listed, .data], laidTests := true, laidLooks := .later }
def WordsPrintUptoCardSaid : Prop := Claim7.holds Tryd.pinned (.plain (OpenSpec.upto wordsPrintSpec)) wordsPrintUptoCard

/-- THE SECOND FORM's CARD OF 'taborlaw11.WordsBack'. -/
def wordsBackUptoCard : Claim7 := { stood := { row := wordsBackUptoRow, standIns := [], harness := (true, "55a2599a12d03dccaf19e6202c9d0163fad4639317a47728933288509994a712"), looks := false }, kinds := [], alts := [], laidByText := true, laidKinds := [.data, .data, .data, .listed, .data], laidTests := true, laidLooks := .later }
def WordsBackUptoCardSaid : Prop := Claim7.holds Tryd.pinned (.plain (OpenSpec.upto wordsBackSpec)) wordsBackUptoCard

/-- THE SECOND FORM's CARD OF 'taborlaw11.WordsQuote'. -/
def wordsQuoteUptoCard : Claim7 := { stood := { row := wordsQuoteUptoRow, standIns := [], harness := (true, "55a2599a12d03dccaf19e6202c9d0163fad4639317a47728933288509994a712"), looks := false }, kinds := [], alts := [], laidByText := true, laidKinds := [.listed, .data], laidTests := true, laidLooks := .later }
def WordsQuoteUptoCardSaid : Prop := Claim7.holds Tryd.pinned (.plain (OpenSpec.upto wordsQuoteSpec)) wordsQuoteUptoCard

/-- THE SECOND FORM's CARD OF 'taborlaw11.WordsName'. -/
def wordsNameUptoCard : Claim7 := { stood := { row := wordsNameUptoRow, standIns := [], harness := (true, "55a2599a12d03dccaf19e6202c9d0163fad4639317a47728933288509994a712"), looks := false }, kinds := [], alts := [], laidByText := true, laidKinds := [.listed, .data], laidTests := true, laidLooks := .later }
def WordsNameUptoCardSaid : Prop := Claim7.holds Tryd.pinned (.plain (OpenSpec.upto wordsNameSpec)) wordsNameUptoCard

/-- THE SECOND FORM's CARD OF 'taborlaw11.WordsSame'. -/
def wordsSameUptoCard : Claim7 := { stood := { row := wordsSameUptoRow, standIns := [], harness := (true, "55a2599a12d03dccaf19e6202c9d0163fad4639317a47728933288509994a712"), looks := false }, kinds := [], alts := [], laidByText := true, laidKinds := [.listed, .data], laidTests := true, laidLooks := .later }
def WordsSameUptoCardSaid : Prop := Claim7.holds Tryd.pinned (.plain (OpenSpec.upto wordsSameSpec)) wordsSameUptoCard
end Rows
end Go.Proofs.YtejicjcdbfjajaaDoor
