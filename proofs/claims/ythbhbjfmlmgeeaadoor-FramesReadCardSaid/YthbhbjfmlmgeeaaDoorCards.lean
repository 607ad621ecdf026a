/-
  DERIVED. GIVEN WITH THE SEED: THE CARDS: each row of YthbhbjfmlmgeeaaDoorRows.lean that lists a variable, with what it lists TIED to the program's text (the seventh form; the later family's looks); each row that meets fmt, with fmt's text TOLD by the authors' own Lean function (tested against real Go, not proved from fmt's source: count such statements apart). THE CARD IS WHAT COUNTS. Prove the row's statement (the work); the ties are given (YthbhbjfmlmgeeaaDoorTie.lean); close each card by the builder's one call (the guide's Derived/Test/ToyasCard.lean, 'card_holds'). Laid BY PROGRAM, IN A SANDBOX (cutbox-door.mjs). By AI agents, Wed Nov 11 2026. No macro, syntax, notation, axiom, sorry.
-/
import Derived.Test.YthbhbjfmlmgeeaaDoorRows
import GoSem.ClaimSeven
namespace Go.Proofs.YthbhbjfmlmgeeaaDoor
namespace Rows

/-- THE TIED CARD OF 'taborlaw03.FramesPut'. -/
def framesPutCard : Claim7 := { stood := { row := framesPutRow, standIns := [], harness := (true, "04a29c9c323920362d555b55122b5723a12637c762c1dc385d16a44ee00bee3b"), looks := true }, kinds := [], alts := [], laidByText := true, laidKinds := [.data], laidTests := true, laidLooks := .later }
def FramesPutCardSaid : Prop := Claim7.holds Tryd.pinned (.plain (OpenSpec.ofChange framesPutSpec)) framesPutCard

/-- THE TIED CARD OF 'taborlaw03.FramesRead'. -/
def framesReadCard : Claim7 := { stood := { row := framesReadRow, standIns := [], harness := (true, "04a29c9c323920362d555b55122b5723a12637c762c1dc385d16a44ee00bee3b"), looks := true }, kinds := [], alts := [], laidByText := true, laidKinds := [.data], laidTests := true, laidLooks := .later }
def FramesReadCardSaid : Prop := Claim7.holds Tryd.pinned (.plain (OpenSpec.ofChange framesReadSpec)) framesReadCard

/-- THE TIED CARD OF 'taborlaw03.FramesScan'. -/
def framesScanCard : Claim7 := { stood := { row := framesScanRow, standIns := [], harness := (true, "04a29c9c323920362d555b55122b5723a12637c762c1dc385d16a44ee00bee3b"), looks := true }, kinds := [], alts := [], laidByText := true, laidKinds := [.data], laidTests := true, laidLooks := .later }
def FramesScanCardSaid : Prop := Claim7.holds Tryd.pinned (.plain (OpenSpec.ofChange framesScanSpec)) framesScanCard

/-- THE TIED CARD OF 'taborlaw03.FramesSame'. -/
def framesSameCard : Claim7 := { stood := { row := framesSameRow, standIns := [], harness := (true, "04a29c9c323920362d555b55122b5723a12637c762c1dc385d16a44ee00bee3b"), looks := true }, kinds := [], alts := [], laidByText := true, laidKinds := [.data], laidTests := true, laidLooks := .later }
def FramesSameCardSaid : Prop := Claim7.holds Tryd.pinned (.plain (OpenSpec.ofChange framesSameSpec)) framesSameCard

/-- THE TIED CARD OF 'taborlaw03.FramesBounds'. -/
def framesBoundsCard : Claim7 := { stood := { row := framesBoundsRow, standIns := [], harness := (true, "04a29c9c323920362d555b55122b5723a12637c762c1dc385d16a44ee00bee3b"), looks := true }, kinds := [], alts := [], laidByText := true, laidKinds := [.data], laidTests := true, laidLooks := .later }
def FramesBoundsCardSaid : Prop := Claim7.holds Tryd.pinned (.plain (OpenSpec.ofChange framesBoundsSpec)) framesBoundsCard

/-- THE TIED CARD OF 'taborlaw03.FramesBack'. -/
def framesBackCard : Claim7 := { stood := { row := framesBackRow, standIns := [], harness := (true, "04a29c9c323920362d555b55122b5723a12637c762c1dc385d16a44ee00bee3b"), looks := true }, kinds := [], alts := [], laidByText := true, laidKinds := [.data], laidTests := true, laidLooks := .later }
def FramesBackCardSaid : Prop := Claim7.holds Tryd.pinned (.plain (OpenSpec.ofChange framesBackSpec)) framesBackCard

/-- THE TIED CARD OF 'taborlaw03.FramesRows'. -/
def framesRowsCard : Claim7 := { stood := { row := framesRowsRow, standIns := [], harness := (true, "04a29c9c323920362d555b55122b5723a12637c762c1dc385d16a44ee00bee3b"), looks := true }, kinds := [], alts := [], laidByText := true, laidKinds := [.data], laidTests := true, laidLooks := .later }
def FramesRowsCardSaid : Prop := Claim7.holds Tryd.pinned (.plain (OpenSpec.ofChange framesRowsSpec)) framesRowsCard

/-- THE SECOND FORM's CARD OF 'taborlaw03.FramesPut'. -/
def framesPutUptoCard : Claim7 := { stood := { row := framesPutUptoRow, standIns := [], harness := (true, "04a29c9c323920362d555b55122b5723a12637c762c1dc385d16a44ee00bee3b"), looks := true }, kinds := [], alts := [], laidByText := true, laidKinds := [.data], laidTests := true, laidLooks := .later }
def FramesPutUptoCardSaid : Prop := Claim7.holds Tryd.pinned (.plain (OpenSpec.upto framesPutSpec)) framesPutUptoCard

/-- THE SECOND FORM's CARD OF 'taborlaw03.FramesRead'. -/
def framesReadUptoCard : Claim7 := { stood := { row := framesReadUptoRow, standIns := [], harness := (true, "04a29c9c323920362d555b55122b5723a12637c762c1dc385d16a44ee00bee3b"), looks := true }, kinds := [], alts := [], laidByText := true, laidKinds := [.data], laidTests := true, laidLooks := .later }
def FramesReadUptoCardSaid : Prop := Claim7.holds Tryd.pinned (.plain (OpenSpec.upto framesReadSpec)) framesReadUptoCard

/-- THE SECOND FORM's CARD OF 'taborlaw03.FramesScan'. -/
def framesScanUptoCard : Claim7 := { stood := { row := framesScanUptoRow, standIns := [], harness := (true, "04a29c9c323920362d555b55122b5723a12637c762c1dc385d16a44ee00bee3b"), looks := true }, kinds := [], alts := [], laidByText := true, laidKinds := [.data], laidTests := true, laidLooks := .later }
def FramesScanUptoCardSaid : Prop := Claim7.holds Tryd.pinned (.plain (OpenSpec.upto framesScanSpec)) framesScanUptoCard

/-- THE SECOND FORM's CARD OF 'taborlaw03.FramesSame'. -/
def framesSameUptoCard : Claim7 := { stood := { row := framesSameUptoRow, standIns := [], harness := (true, "04a29c9c323920362d555b55122b5723a12637c762c1dc385d16a44ee00bee3b"), looks := true }, kinds := [], alts := [], laidByText := true, laidKinds := [.data], laidTests := true, laidLooks := .later }
def FramesSameUptoCardSaid : Prop := Claim7.holds Tryd.pinned (.plain (OpenSpec.upto framesSameSpec)) framesSameUptoCard

/-- THE SECOND FORM's CARD OF 'taborlaw03.FramesBounds'. -/
def framesBoundsUptoCard : Claim7 := { stood := { row := framesBoundsUptoRow, standIns := [], harness := (true, "04a29c9c323920362d555b55122b5723a12637c762c1dc385d16a44ee00bee3b"), looks := true }, kinds := [], alts := [], laidByText := true, laidKinds := [.data], laidTests := true, laidLooks := .later }
def FramesBoundsUptoCardSaid : Prop := Claim7.holds Tryd.pinned (.plain (OpenSpec.upto framesBoundsSpec)) framesBoundsUptoCard

/-- THE SECOND FORM's CARD OF 'taborlaw03.FramesBack'. -/
def framesBackUptoCard : Claim7 := { stood := { row := framesBackUptoRow, standIns := [], harness := (true, "04a29c9c323920362d555b55122b5723a12637c762c1dc385d16a44ee00bee3b"), looks := true }, kinds := [], alts := [], laidByText := true, laidKinds := [.data], laidTests := true, laidLooks := .later }
def FramesBackUptoCardSaid : Prop := Claim7.holds Tryd.pinned (.plain (OpenSpec.upto framesBackSpec)) framesBackUptoCard

/-- THE SECOND FORM's CARD OF 'taborlaw03.FramesRows'. -/
def framesRowsUptoCard : Claim7 := { stood := { row := framesRowsUptoRow, standIns := [], harness := (true, "04a29c9c323920362d555b55122b5723a12637c762c1dc385d16a44ee00bee3b"), looks := true }, kinds := [], alts := [], laidByText := true, laidKinds := [.data], laidTests := true, laidLooks := .later }
def FramesRowsUptoCardSaid : Prop := Claim7.holds Tryd.pinned (.plain (OpenSpec.upto framesRowsSpec)) framesRowsUptoCard
end Rows
end Go.Proofs.YthbhbjfmlmgeeaaDoor
