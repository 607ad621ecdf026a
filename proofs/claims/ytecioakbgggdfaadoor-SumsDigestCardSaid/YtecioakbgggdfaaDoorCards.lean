/-
  DERIVED. GIVEN WITH THE SEED: THE CARDS: each row of YtecioakbgggdfaaDoorRows.lean that lists a variable, with what it lists TIED to the program's text (the seventh form; the later family's looks); each row that meets fmt, with fmt's text TOLD by the authors' own Lean function (tested against real Go, not proved from fmt's source: count such statements apart). THE CARD IS WHAT COUNTS. Prove the row's statement (the work); the ties are given (YtecioakbgggdfaaDoorTie.lean); close each card by the builder's one call (the guide's Derived/Test/ToyasCard.lean, 'card_holds'). Laid BY PROGRAM, IN A SANDBOX (cutbox-door.mjs). By AI agents, Wed Nov 11 2026. No macro, syntax, notation, axiom, sorry.
-/
import Derived.Test.YtecioakbgggdfaaDoorRows
import GoSem.ClaimSeven
namespace Go.Proofs.YtecioakbgggdfaaDoor
namespace Rows

/-- THE TIED CARD OF 'taborlaw01.SumsCrc'. -/
def sumsCrcCard : Claim7 := { stood := { row := sumsCrcRow, standIns := [], harness := (true, "6b95ceeaaed5f423796323091c8a54150348dfc7eda5edcf791da37521482f63"), looks := false }, kinds := [], alts := [], laidByText := true, laidKinds := [.data, .data, .data, .data], laidTests := true, laidLooks := .later }
def SumsCrcCardSaid : Prop := Claim7.holds Tryd.pinned (.plain (OpenSpec.ofChange sumsCrcSpec)) sumsCrcCard

/-- THE TIED CARD OF 'taborlaw01.SumsUpdate'. -/
def sumsUpdateCard : Claim7 := { stood := { row := sumsUpdateRow, standIns := [], harness := (true, "6b95ceeaaed5f423796323091c8a54150348dfc7eda5edcf791da37521482f63"), looks := false }, kinds := [], alts := [], laidByText := true, laidKinds := [.data, .data, .data, .data], laidTests := true, laidLooks := .later }
def SumsUpdateCardSaid : Prop := Claim7.holds Tryd.pinned (.plain (OpenSpec.ofChange sumsUpdateSpec)) sumsUpdateCard

/-- THE TIED CARD OF 'taborlaw01.SumsBytes'. -/
def sumsBytesCard : Claim7 := { stood := { row := sumsBytesRow, standIns := [], harness := (true, "6b95ceeaaed5f423796323091c8a54150348dfc7eda5edcf791da37521482f63"), looks := false }, kinds := [], alts := [], laidByText := true, laidKinds := [.data, .data, .data, .data], laidTests := true, laidLooks := .later }
def SumsBytesCardSaid : Prop := Claim7.holds Tryd.pinned (.plain (OpenSpec.ofChange sumsBytesSpec)) sumsBytesCard

/-- THE TIED CARD OF 'taborlaw01.SumsPads'. -/
def sumsPadsCard : Claim7 := { stood := { row := sumsPadsRow, standIns := [], harness := (true, "6b95ceeaaed5f423796323091c8a54150348dfc7eda5edcf791da37521482f63"), looks := false }, kinds := [], alts := [], laidByText := true, laidKinds := [.data, .data, .data, .data], laidTests := true, laidLooks := .later }
def SumsPadsCardSaid : Prop := Claim7.holds Tryd.pinned (.plain (OpenSpec.ofChange sumsPadsSpec)) sumsPadsCard

/-- THE TIED CARD OF 'taborlaw01.SumsBlock'. -/
def sumsBlockCard : Claim7 := { stood := { row := sumsBlockRow, standIns := [], harness := (true, "6b95ceeaaed5f423796323091c8a54150348dfc7eda5edcf791da37521482f63"), looks := false }, kinds := [], alts := [], laidByText := true, laidKinds := [.data, .data, .data, .data], laidTests := true, laidLooks := .later }
def SumsBlockCardSaid : Prop := Claim7.holds Tryd.pinned (.plain (OpenSpec.ofChange sumsBlockSpec)) sumsBlockCard

/-- THE TIED CARD OF 'taborlaw01.SumsDigest'. -/
def sumsDigestCard : Claim7 := { stood := { row := sumsDigestRow, standIns := [], harness := (true, "6b95ceeaaed5f423796323091c8a54150348dfc7eda5edcf791da37521482f63"), looks := false }, kinds := [], alts := [], laidByText := true, laidKinds := [.data, .data, .data, .data], laidTests := true, laidLooks := .later }
def SumsDigestCardSaid : Prop := Claim7.holds Tryd.pinned (.plain (OpenSpec.ofChange sumsDigestSpec)) sumsDigestCard

/-- THE TIED CARD OF 'taborlaw01.SumsIs'. -/
def sumsIsCard : Claim7 := { stood := { row := sumsIsRow, standIns := [], harness := (true, "6b95ceeaaed5f423796323091c8a54150348dfc7eda5edcf791da37521482f63"), looks := false }, kinds := [], alts := [], laidByText := true, laidKinds := [.data, .data, .data, .data], laidTests := true, laidLooks := .later }
def SumsIsCardSaid : Prop := Claim7.holds Tryd.pinned (.plain (OpenSpec.ofChange sumsIsSpec)) sumsIsCard

/-- THE TIED CARD OF 'taborlaw01.SumsParts'. -/
def sumsPartsCard : Claim7 := { stood := { row := sumsPartsRow, standIns := [], harness := (true, "6b95ceeaaed5f423796323091c8a54150348dfc7eda5edcf791da37521482f63"), looks := false }, kinds := [], alts := [], laidByText := true, laidKinds := [.data, .data, .data, .data], laidTests := true, laidLooks := .later }
def SumsPartsCardSaid : Prop := Claim7.holds Tryd.pinned (.plain (OpenSpec.ofChange sumsPartsSpec)) sumsPartsCard

/-- THE TIED CARD OF 'taborlaw01.SumsUnlike'. -/
def sumsUnlikeCard : Claim7 := { stood := { row := sumsUnlikeRow, standIns := [], harness := (true, "6b95ceeaaed5f423796323091c8a54150348dfc7eda5edcf791da37521482f63"), looks := false }, kinds := [], alts := [], laidByText := true, laidKinds := [.data, .data, .data, .data], laidTests := true, laidLooks := .later }
def SumsUnlikeCardSaid : Prop := Claim7.holds Tryd.pinned (.plain (OpenSpec.ofChange sumsUnlikeSpec)) sumsUnlikeCard

/-- THE SECOND FORM's CARD OF 'taborlaw01.SumsCrc'. -/
def sumsCrcUptoCard : Claim7 := { stood := { row := sumsCrcUptoRow, standIns := [], harness := (true, "6b95ceeaaed5f423796323091c8a54150348dfc7eda5edcf791da37521482f63"), looks := false }, kinds := [], alts := [], laidByText := true, laidKinds := [.data, .data, .data, .data], laidTests := true, laidLooks := .later }
def SumsCrcUptoCardSaid : Prop := Claim7.holds Tryd.pinned (.plain (OpenSpec.upto sumsCrcSpec)) sumsCrcUptoCard

/-- THE SECOND FORM's CARD OF 'taborlaw01.SumsUpdate'. -/
def sumsUpdateUptoCard : Claim7 := { stood := { row := sumsUpdateUptoRow, standIns := [], harness := (true, "6b95ceeaaed5f423796323091c8a54150348dfc7eda5edcf791da37521482f63"), looks := false }, kinds := [], alts := [], laidByText := true, laidKinds := [.data, .data, .data, .data], laidTests := true, laidLooks := .later }
def SumsUpdateUptoCardSaid : Prop := Claim7.holds Tryd.pinned (.plain (OpenSpec.upto sumsUpdateSpec)) sumsUpdateUptoCard

/-- THE SECOND FORM's CARD OF 'taborlaw01.SumsBytes'. -/
def sumsBytesUptoCard : Claim7 := { stood := { row := sumsBytesUptoRow, standIns := [], harness := (true, "6b95ceeaaed5f423796323091c8a54150348dfc7eda5edcf791da37521482f63"), looks := false }, kinds := [], alts := [], laidByText := true, laidKinds := [.data, .data, .data, .data], laidTests := true, laidLooks := .later }
def SumsBytesUptoCardSaid : Prop := Claim7.holds Tryd.pinned (.plain (OpenSpec.upto sumsBytesSpec)) sumsBytesUptoCard

/-- THE SECOND FORM's CARD OF 'taborlaw01.SumsPads'. -/
def sumsPadsUptoCard : Claim7 := { stood := { row := sumsPadsUptoRow, standIns := [], harness := (true, "6b95ceeaaed5f423796323091c8a54150348dfc7eda5edcf791da37521482f63"), looks := false }, kinds := [], alts := [], laidByText := true, laidKinds := [.data, .data, .data, .data], laidTests := true, laidLooks := .later }
def SumsPadsUptoCardSaid : Prop := Claim7.holds Tryd.pinned (.plain (OpenSpec.upto sumsPadsSpec)) sumsPadsUptoCard

/-- THE SECOND FORM's CARD OF 'taborlaw01.SumsBlock'. -/
def sumsBlockUptoCard : Claim7 := { stood := { row := sumsBlockUptoRow, standIns := [], harness := (true, "6b95ceeaaed5f423796323091c8a54150348dfc7eda5edcf791da37521482f63"), looks := false }, kinds := [], alts := [], laidByText := true, laidKinds := [.data, .data, .data, .data], laidTests := true, laidLooks := .later }
def SumsBlockUptoCardSaid : Prop := Claim7.holds Tryd.pinned (.plain (OpenSpec.upto sumsBlockSpec)) sumsBlockUptoCard

/-- THE SECOND FORM's CARD OF 'taborlaw01.SumsDigest'. -/
def sumsDigestUptoCard : Claim7 := { stood := { row := sumsDigestUptoRow, standIns := [], harness := (true, "6b95ceeaaed5f423796323091c8a54150348dfc7eda5edcf791da37521482f63"), looks := false }, kinds := [], alts := [], laidByText := true, laidKinds := [.data, .data, .data, .data], laidTests := true, laidLooks := .later }
def SumsDigestUptoCardSaid : Prop := Claim7.holds Tryd.pinned (.plain (OpenSpec.upto sumsDigestSpec)) sumsDigestUptoCard

/-- THE SECOND FORM's CARD OF 'taborlaw01.SumsIs'. -/
def sumsIsUptoCard : Claim7 := { stood := { row := sumsIsUptoRow, standIns := [], harness := (true, "6b95ceeaaed5f423796323091c8a54150348dfc7eda5edcf791da37521482f63"), looks := false }, kinds := [], alts := [], laidByText := true, laidKinds := [.data, .data, .data, .data], laidTests := true, laidLooks := .later }
def SumsIsUptoCardSaid : Prop := Claim7.holds Tryd.pinned (.plain (OpenSpec.upto sumsIsSpec)) sumsIsUptoCard

/-- THE SECOND FORM's CARD OF 'taborlaw01.SumsParts'. -/
def sumsPartsUptoCard : Claim7 := { stood := { row := sumsPartsUptoRow, standIns := [], harness := (true, "6b95ceeaaed5f423796323091c8a54150348dfc7eda5edcf791da37521482f63"), looks := false }, kinds := [], alts := [], laidByText := true, laidKinds := [.data, .data, .data, .data], laidTests := true, laidLooks := .later }
def SumsPartsUptoCardSaid : Prop := Claim7.holds Tryd.pinned (.plain (OpenSpec.upto sumsPartsSpec)) sumsPartsUptoCard

/-- THE SECOND FORM's CARD OF 'taborlaw01.SumsUnlike'. -/
def sumsUnlikeUptoCard : Claim7 := { stood := { row := sumsUnlikeUptoRow, standIns := [], harness := (true, "6b95ceeaaed5f423796323091c8a54150348dfc7eda5edcf791da37521482f63"), looks := false }, kinds := [], alts := [], laidByText := true, laidKinds := [.data, .data, .data, .data], laidTests := true, laidLooks := .later }
def SumsUnlikeUptoCardSaid : Prop := Claim7.holds Tryd.pinned (.plain (OpenSpec.upto sumsUnlikeSpec)) sumsUnlikeUptoCard
end Rows
end Go.Proofs.YtecioakbgggdfaaDoor
