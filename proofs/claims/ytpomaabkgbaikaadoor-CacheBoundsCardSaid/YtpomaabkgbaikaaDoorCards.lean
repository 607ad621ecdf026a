/-
  DERIVED. GIVEN WITH THE SEED: THE CARDS: each row of YtpomaabkgbaikaaDoorRows.lean that lists a variable, with what it lists TIED to the program's text (the seventh form; the later family's looks); each row that meets fmt, with fmt's text TOLD by the authors' own Lean function (tested against real Go, not proved from fmt's source: count such statements apart). THE CARD IS WHAT COUNTS. Prove the row's statement (the work); the ties are given (YtpomaabkgbaikaaDoorTie.lean); close each card by the builder's one call (the guide's Derived/Test/ToyasCard.lean, 'card_holds'). Laid BY PROGRAM, IN A SANDBOX (cutbox-door.mjs). By AI agents, Wed Nov 11 2026. No macro, syntax, notation, axiom, sorry.
-/
import Derived.Test.YtpomaabkgbaikaaDoorRows
import GoSem.ClaimSeven
namespace Go.Proofs.YtpomaabkgbaikaaDoor
namespace Rows

/-- THE TIED CARD OF 'taborlaw21.CacheNames'. -/
def cacheNamesCard : Claim7 := { stood := { row := cacheNamesRow, standIns := [], harness := (true, "0e2c5754854ca778f53af41750edc07427676379e9918856286f933b7b6fc69a"), looks := true }, kinds := [], alts := [], laidByText := true, laidKinds := [.data, .data, .data], laidTests := true, laidLooks := .later }
def CacheNamesCardSaid : Prop := Claim7.holds Tryd.pinned (.plain (OpenSpec.ofChange cacheNamesSpec)) cacheNamesCard

/-- THE TIED CARD OF 'taborlaw21.CachePlays'. -/
def cachePlaysCard : Claim7 := { stood := { row := cachePlaysRow, standIns := [], harness := (true, "0e2c5754854ca778f53af41750edc07427676379e9918856286f933b7b6fc69a"), looks := true }, kinds := [], alts := [], laidByText := true, laidKinds := [.data, .data, .data], laidTests := true, laidLooks := .later }
def CachePlaysCardSaid : Prop := Claim7.holds Tryd.pinned (.plain (OpenSpec.ofChange cachePlaysSpec)) cachePlaysCard

/-- THE TIED CARD OF 'taborlaw21.CacheCopies'. -/
def cacheCopiesCard : Claim7 := { stood := { row := cacheCopiesRow, standIns := [], harness := (true, "0e2c5754854ca778f53af41750edc07427676379e9918856286f933b7b6fc69a"), looks := true }, kinds := [], alts := [], laidByText := true, laidKinds := [.data, .data, .data], laidTests := true, laidLooks := .later }
def CacheCopiesCardSaid : Prop := Claim7.holds Tryd.pinned (.plain (OpenSpec.ofChange cacheCopiesSpec)) cacheCopiesCard

/-- THE TIED CARD OF 'taborlaw21.CacheBounds'. -/
def cacheBoundsCard : Claim7 := { stood := { row := cacheBoundsRow, standIns := [], harness := (true, "0e2c5754854ca778f53af41750edc07427676379e9918856286f933b7b6fc69a"), looks := true }, kinds := [], alts := [], laidByText := true, laidKinds := [.data, .data, .data], laidTests := true, laidLooks := .later }
def CacheBoundsCardSaid : Prop := Claim7.holds Tryd.pinned (.plain (OpenSpec.ofChange cacheBoundsSpec)) cacheBoundsCard

/-- THE SECOND FORM's CARD OF 'taborlaw21.CacheNames'. -/
def cacheNamesUptoCard : Claim7 := { stood := { row := cacheNamesUptoRow, standIns := [], harness := (true, "0e2c5754854ca778f53af41750edc07427676379e9918856286f933b7b6fc69a"), looks := true }, kinds := [], alts := [], laidByText := true, laidKinds := [.data, .data, .data], laidTests := true, laidLooks := .later }
def CacheNamesUptoCardSaid : Prop := Claim7.holds Tryd.pinned (.plain (OpenSpec.upto cacheNamesSpec)) cacheNamesUptoCard

/-- THE SECOND FORM's CARD OF 'taborlaw21.CachePlays'. -/
def cachePlaysUptoCard : Claim7 := { stood := { row := cachePlaysUptoRow, standIns := [], harness := (true, "0e2c5754854ca778f53af41750edc07427676379e9918856286f933b7b6fc69a"), looks := true }, kinds := [], alts := [], laidByText := true, laidKinds := [.data, .data, .data], laidTests := true, laidLooks := .later }
def CachePlaysUptoCardSaid : Prop := Claim7.holds Tryd.pinned (.plain (OpenSpec.upto cachePlaysSpec)) cachePlaysUptoCard

/-- THE SECOND FORM's CARD OF 'taborlaw21.CacheCopies'. -/
def cacheCopiesUptoCard : Claim7 := { stood := { row := cacheCopiesUptoRow, standIns := [], harness := (true, "0e2c5754854ca778f53af41750edc07427676379e9918856286f933b7b6fc69a"), looks := true }, kinds := [], alts := [], laidByText := true, laidKinds := [.data, .data, .data], laidTests := true, laidLooks := .later }
def CacheCopiesUptoCardSaid : Prop := Claim7.holds Tryd.pinned (.plain (OpenSpec.upto cacheCopiesSpec)) cacheCopiesUptoCard

/-- THE SECOND FORM's CARD OF 'taborlaw21.CacheBounds'. -/
def cacheBoundsUptoCard : Claim7 := { stood := { row := cacheBoundsUptoRow, standIns := [], harness := (true, "0e2c5754854ca778f53af41750edc07427676379e9918856286f933b7b6fc69a"), looks := true }, kinds := [], alts := [], laidByText := true, laidKinds := [.data, .data, .data], laidTests := true, laidLooks := .later }
def CacheBoundsUptoCardSaid : Prop := Claim7.holds Tryd.pinned (.plain (OpenSpec.upto cacheBoundsSpec)) cacheBoundsUptoCard
end Rows
end Go.Proofs.YtpomaabkgbaikaaDoor
