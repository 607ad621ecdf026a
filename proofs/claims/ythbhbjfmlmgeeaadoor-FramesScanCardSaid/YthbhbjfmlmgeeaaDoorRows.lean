/-
  NARROWER THAN 'FOR EVERY INPUT', by the rows' own cells (each row's printed sentence says how): FramesPut: laid · FramesRead: laid · FramesScan: laid · FramesSame: laid · FramesBounds: laid · FramesBack: laid · FramesRows: laid.
  DERIVED. THE GIVEN ROWS OF THIS SEAT. 7 by the template 'for every input the law returns true; each argument reads behind the call as it read before'; 0 by the template 'total and deterministic' (their statements: YthbhbjfmlmgeeaaDoorTotals.lean).
  GIVEN WITH THE SEED: the statements are not yours to turn. If you find one false, say at which input.
  Laid BY PROGRAM, IN A SANDBOX (cutbox-rows.mjs): the forced cells as the released guide's own fill.sh prints them over the translation 5b909734b046d506… (all of the seat's roots in one cut). By AI agents, Wed Nov 11 2026. No macro, syntax, notation, axiom, sorry.
-/
import Derived.Test.YthbhbjfmlmgeeaaDoorChecked
import GoSem.Claim
import GoSem.ClaimJoined
import GoSem.ClaimMapViews
import Derived.JoinedTies
import Derived.KernelRfl
namespace Go.Proofs.YthbhbjfmlmgeeaaDoor
/- THE CELL 'sum', in the pinned program and in every row, IS THE sha256 OF THE DUMP (.gsa) THAT YthbhbjfmlmgeeaaDoorProg.lean LOADS. Nothing in Lean hashes anything: it is a label: what it is worth is what the hold of that sum in a sandbox is worth. -/
noncomputable def Tryd.pinned : Pinned := { name := "ythbhbjfmlmgeeaadoor", sum := "5b909734b046d506a626f1834e958c5d71badf41a81426182ae8dfcf42d2ba13", checked := Tryd.checked }
namespace Rows
def none {H : Type} : Left H := { results := [], args := [] }

/- WHAT THE LISTED PACKAGE-LEVEL VARIABLES READ AS WHEN THE CALL BEGINS. Each datum BY PROGRAM (the guide's laid-datum.mjs) off the statement by which the dump's own 'gosem.cut.vars' lays the variable. In a bare row this is a premise. The card (YthbhbjfmlmgeeaaDoorCards.lean) ties it to the program's text. -/
def laid_tabor_sums_halves {H : Type} : DataW H := .agg [.lit (.int .u32 0), .lit (.int .u32 498536548), .lit (.int .u32 997073096), .lit (.int .u32 651767980), .lit (.int .u32 1994146192), .lit (.int .u32 1802195444), .lit (.int .u32 1303535960), .lit (.int .u32 1342533948), .lit (.int .u32 3988292384), .lit (.int .u32 4027552580), .lit (.int .u32 3604390888), .lit (.int .u32 3412177804), .lit (.int .u32 2607071920), .lit (.int .u32 2262029012), .lit (.int .u32 2685067896), .lit (.int .u32 3183342108)]

/-- 'taborlaw03.FramesPut': WHATEVER THE INPUT: true; the input reads as it did. -/
def framesPutSpec : ChangeSpec := { name := "framesPut", fn := fun _ => fun
  | [d] => { results := [.lit (.bool true)], args := [d] }
  | _ => none }
def framesPutRow : OpenClaim := { program := "ythbhbjfmlmgeeaadoor", sum := "5b909734b046d506a626f1834e958c5d71badf41a81426182ae8dfcf42d2ba13", func := "tabor/taborlaw03.FramesPut", spec := "framesPut", unfollowed := true, recurses := true, named := ["tabor/sums.halves"], apart := false, laid := [("tabor/sums.halves", laid_tabor_sums_halves)] }
def FramesPutSaid : Prop := framesPutRow.holds Tryd.pinned (OpenSpec.ofChange framesPutSpec)

/-- ITS FALSE NEIGHBOUR: 'it returns false'. Refute it at one input. -/
def framesPutWrong : ChangeSpec := { name := "framesPut", fn := fun _ => fun
  | [d] => { results := [.lit (.bool false)], args := [d] }
  | _ => none }
def FramesPutWrongFalsely : Prop := framesPutRow.holds Tryd.pinned (OpenSpec.ofChange framesPutWrong)

/-- 'taborlaw03.FramesRead': WHATEVER THE INPUT: true; the input reads as it did. -/
def framesReadSpec : ChangeSpec := { name := "framesRead", fn := fun _ => fun
  | [d] => { results := [.lit (.bool true)], args := [d] }
  | _ => none }
def framesReadRow : OpenClaim := { program := "ythbhbjfmlmgeeaadoor", sum := "5b909734b046d506a626f1834e958c5d71badf41a81426182ae8dfcf42d2ba13", func := "tabor/taborlaw03.FramesRead", spec := "framesRead", unfollowed := true, recurses := true, named := ["tabor/sums.halves"], apart := false, laid := [("tabor/sums.halves", laid_tabor_sums_halves)] }
def FramesReadSaid : Prop := framesReadRow.holds Tryd.pinned (OpenSpec.ofChange framesReadSpec)

/-- ITS FALSE NEIGHBOUR: 'it returns false'. Refute it at one input. -/
def framesReadWrong : ChangeSpec := { name := "framesRead", fn := fun _ => fun
  | [d] => { results := [.lit (.bool false)], args := [d] }
  | _ => none }
def FramesReadWrongFalsely : Prop := framesReadRow.holds Tryd.pinned (OpenSpec.ofChange framesReadWrong)

/-- 'taborlaw03.FramesScan': WHATEVER THE INPUT: true; the input reads as it did. -/
def framesScanSpec : ChangeSpec := { name := "framesScan", fn := fun _ => fun
  | [d] => { results := [.lit (.bool true)], args := [d] }
  | _ => none }
def framesScanRow : OpenClaim := { program := "ythbhbjfmlmgeeaadoor", sum := "5b909734b046d506a626f1834e958c5d71badf41a81426182ae8dfcf42d2ba13", func := "tabor/taborlaw03.FramesScan", spec := "framesScan", unfollowed := true, recurses := true, named := ["tabor/sums.halves"], apart := false, laid := [("tabor/sums.halves", laid_tabor_sums_halves)] }
def FramesScanSaid : Prop := framesScanRow.holds Tryd.pinned (OpenSpec.ofChange framesScanSpec)

/-- ITS FALSE NEIGHBOUR: 'it returns false'. Refute it at one input. -/
def framesScanWrong : ChangeSpec := { name := "framesScan", fn := fun _ => fun
  | [d] => { results := [.lit (.bool false)], args := [d] }
  | _ => none }
def FramesScanWrongFalsely : Prop := framesScanRow.holds Tryd.pinned (OpenSpec.ofChange framesScanWrong)

/-- 'taborlaw03.FramesSame': WHATEVER THE INPUT: true; the input reads as it did. -/
def framesSameSpec : ChangeSpec := { name := "framesSame", fn := fun _ => fun
  | [d1, d2] => { results := [.lit (.bool true)], args := [d1, d2] }
  | _ => none }
def framesSameRow : OpenClaim := { program := "ythbhbjfmlmgeeaadoor", sum := "5b909734b046d506a626f1834e958c5d71badf41a81426182ae8dfcf42d2ba13", func := "tabor/taborlaw03.FramesSame", spec := "framesSame", unfollowed := true, recurses := true, named := ["tabor/sums.halves"], apart := false, laid := [("tabor/sums.halves", laid_tabor_sums_halves)] }
def FramesSameSaid : Prop := framesSameRow.holds Tryd.pinned (OpenSpec.ofChange framesSameSpec)

/-- ITS FALSE NEIGHBOUR: 'it returns false'. Refute it at one input. -/
def framesSameWrong : ChangeSpec := { name := "framesSame", fn := fun _ => fun
  | [d1, d2] => { results := [.lit (.bool false)], args := [d1, d2] }
  | _ => none }
def FramesSameWrongFalsely : Prop := framesSameRow.holds Tryd.pinned (OpenSpec.ofChange framesSameWrong)

/-- 'taborlaw03.FramesBounds': WHATEVER THE INPUT: true; the input reads as it did. -/
def framesBoundsSpec : ChangeSpec := { name := "framesBounds", fn := fun _ => fun
  | [] => { results := [.lit (.bool true)], args := [] }
  | _ => none }
def framesBoundsRow : OpenClaim := { program := "ythbhbjfmlmgeeaadoor", sum := "5b909734b046d506a626f1834e958c5d71badf41a81426182ae8dfcf42d2ba13", func := "tabor/taborlaw03.FramesBounds", spec := "framesBounds", unfollowed := true, recurses := true, named := ["tabor/sums.halves"], apart := false, laid := [("tabor/sums.halves", laid_tabor_sums_halves)] }
def FramesBoundsSaid : Prop := framesBoundsRow.holds Tryd.pinned (OpenSpec.ofChange framesBoundsSpec)

/-- ITS FALSE NEIGHBOUR: 'it returns false'. Refute it at one input. -/
def framesBoundsWrong : ChangeSpec := { name := "framesBounds", fn := fun _ => fun
  | [] => { results := [.lit (.bool false)], args := [] }
  | _ => none }
def FramesBoundsWrongFalsely : Prop := framesBoundsRow.holds Tryd.pinned (OpenSpec.ofChange framesBoundsWrong)

/-- 'taborlaw03.FramesBack': WHATEVER THE INPUT: true; the input reads as it did. -/
def framesBackSpec : ChangeSpec := { name := "framesBack", fn := fun _ => fun
  | [d1, d2] => { results := [.lit (.bool true)], args := [d1, d2] }
  | _ => none }
def framesBackRow : OpenClaim := { program := "ythbhbjfmlmgeeaadoor", sum := "5b909734b046d506a626f1834e958c5d71badf41a81426182ae8dfcf42d2ba13", func := "tabor/taborlaw03.FramesBack", spec := "framesBack", unfollowed := true, recurses := true, named := ["tabor/sums.halves"], apart := false, laid := [("tabor/sums.halves", laid_tabor_sums_halves)] }
def FramesBackSaid : Prop := framesBackRow.holds Tryd.pinned (OpenSpec.ofChange framesBackSpec)

/-- ITS FALSE NEIGHBOUR: 'it returns false'. Refute it at one input. -/
def framesBackWrong : ChangeSpec := { name := "framesBack", fn := fun _ => fun
  | [d1, d2] => { results := [.lit (.bool false)], args := [d1, d2] }
  | _ => none }
def FramesBackWrongFalsely : Prop := framesBackRow.holds Tryd.pinned (OpenSpec.ofChange framesBackWrong)

/-- 'taborlaw03.FramesRows': WHATEVER THE INPUT: true; the input reads as it did. -/
def framesRowsSpec : ChangeSpec := { name := "framesRows", fn := fun _ => fun
  | [d1, d2, d3, d4] => { results := [.lit (.bool true)], args := [d1, d2, d3, d4] }
  | _ => none }
def framesRowsRow : OpenClaim := { program := "ythbhbjfmlmgeeaadoor", sum := "5b909734b046d506a626f1834e958c5d71badf41a81426182ae8dfcf42d2ba13", func := "tabor/taborlaw03.FramesRows", spec := "framesRows", unfollowed := true, recurses := true, named := ["tabor/sums.halves"], apart := false, laid := [("tabor/sums.halves", laid_tabor_sums_halves)] }
def FramesRowsSaid : Prop := framesRowsRow.holds Tryd.pinned (OpenSpec.ofChange framesRowsSpec)

/-- ITS FALSE NEIGHBOUR: 'it returns false'. Refute it at one input. -/
def framesRowsWrong : ChangeSpec := { name := "framesRows", fn := fun _ => fun
  | [d1, d2, d3, d4] => { results := [.lit (.bool false)], args := [d1, d2, d3, d4] }
  | _ => none }
def FramesRowsWrongFalsely : Prop := framesRowsRow.holds Tryd.pinned (OpenSpec.ofChange framesRowsWrong)

/- THE SECOND FORM. 'bulk': how many values and letters a reading holds, each counted each time it is reached (what is shared counts as often as it is met; a slice's spare places count too). A statement '..UptoSaid' is the law's where the arguments, and the package variables that the reading takes, are together of bulk at most 1048576: NARROWER than '..Said'. Prove '..Said' where nothing that the law and all that it calls make is longer than what came in: it says more and counts as full. Else prove '..UptoSaid'. A law counts once. -/
mutual
def uptoBulk {H : Type} : DataW H → Nat
  | .lit (.string bytes) => bytes.length + 1
  | .lit _ => 1
  | .nil => 1
  | .ptr d => uptoBulk d + 1
  | .slice elems spare => uptoBulkAll elems + uptoBulkAll spare + 1
  | .agg parts => uptoBulkAll parts + 1
  | .iface _ d => uptoBulk d + 1
  | .map entries => uptoBulkEntries entries + 1
  | .held _ => 1
def uptoBulkAll {H : Type} : List (DataW H) → Nat
  | [] => 0
  | d :: r => uptoBulk d + uptoBulkAll r
def uptoBulkEntries {H : Type} : List (Lit × DataW H) → Nat
  | [] => 0
  | x :: r => uptoBulkEntry x + uptoBulkEntries r
def uptoBulkEntry {H : Type} : Lit × DataW H → Nat
  | (.string bytes, d) => bytes.length + uptoBulk d + 1
  | (_, d) => uptoBulk d + 1
 end
def uptoSmall : (H : Type) → List (DataW H) → Bool := fun _ ds => decide (uptoBulkAll ds ≤ 1048576)
def OpenSpec.upto (s : _root_.Go.ChangeSpec) : _root_.Go.OpenSpec := { _root_.Go.OpenSpec.ofChange s with cond := some uptoSmall }

/-- 'taborlaw03.FramesPut', WHERE WHAT IT READS IS OF BULK AT MOST 1048576: true; the input reads as it did. -/
def framesPutUptoRow : OpenClaim := { program := "ythbhbjfmlmgeeaadoor", sum := "5b909734b046d506a626f1834e958c5d71badf41a81426182ae8dfcf42d2ba13", func := "tabor/taborlaw03.FramesPut", spec := "framesPut", unfollowed := true, recurses := true, named := ["tabor/sums.halves"], apart := false, laid := [("tabor/sums.halves", laid_tabor_sums_halves)], narrowed := true }
def FramesPutUptoSaid : Prop := framesPutUptoRow.holds Tryd.pinned (OpenSpec.upto framesPutSpec)

/-- 'taborlaw03.FramesRead', WHERE WHAT IT READS IS OF BULK AT MOST 1048576: true; the input reads as it did. -/
def framesReadUptoRow : OpenClaim := { program := "ythbhbjfmlmgeeaadoor", sum := "5b909734b046d506a626f1834e958c5d71badf41a81426182ae8dfcf42d2ba13", func := "tabor/taborlaw03.FramesRead", spec := "framesRead", unfollowed := true, recurses := true, named := ["tabor/sums.halves"], apart := false, laid := [("tabor/sums.halves", laid_tabor_sums_halves)], narrowed := true }
def FramesReadUptoSaid : Prop := framesReadUptoRow.holds Tryd.pinned (OpenSpec.upto framesReadSpec)

/-- 'taborlaw03.FramesScan', WHERE WHAT IT READS IS OF BULK AT MOST 1048576: true; the input reads as it did. -/
def framesScanUptoRow : OpenClaim := { program := "ythbhbjfmlmgeeaadoor", sum := "5b909734b046d506a626f1834e958c5d71badf41a81426182ae8dfcf42d2ba13", func := "tabor/taborlaw03.FramesScan", spec := "framesScan", unfollowed := true, recurses := true, named := ["tabor/sums.halves"], apart := false, laid := [("tabor/sums.halves", laid_tabor_sums_halves)], narrowed := true }
def FramesScanUptoSaid : Prop := framesScanUptoRow.holds Tryd.pinned (OpenSpec.upto framesScanSpec)

/-- 'taborlaw03.FramesSame', WHERE WHAT IT READS IS OF BULK AT MOST 1048576: true; the input reads as it did. -/
def framesSameUptoRow : OpenClaim := { program := "ythbhbjfmlmgeeaadoor", sum := "5b909734b046d506a626f1834e958c5d71badf41a81426182ae8dfcf42d2ba13", func := "tabor/taborlaw03.FramesSame", spec := "framesSame", unfollowed := true, recurses := true, named := ["tabor/sums.halves"], apart := false, laid := [("tabor/sums.halves", laid_tabor_sums_halves)], narrowed := true }
def FramesSameUptoSaid : Prop := framesSameUptoRow.holds Tryd.pinned (OpenSpec.upto framesSameSpec)

/-- 'taborlaw03.FramesBounds', WHERE WHAT IT READS IS OF BULK AT MOST 1048576: true; the input reads as it did. -/
def framesBoundsUptoRow : OpenClaim := { program := "ythbhbjfmlmgeeaadoor", sum := "5b909734b046d506a626f1834e958c5d71badf41a81426182ae8dfcf42d2ba13", func := "tabor/taborlaw03.FramesBounds", spec := "framesBounds", unfollowed := true, recurses := true, named := ["tabor/sums.halves"], apart := false, laid := [("tabor/sums.halves", laid_tabor_sums_halves)], narrowed := true }
def FramesBoundsUptoSaid : Prop := framesBoundsUptoRow.holds Tryd.pinned (OpenSpec.upto framesBoundsSpec)

/-- 'taborlaw03.FramesBack', WHERE WHAT IT READS IS OF BULK AT MOST 1048576: true; the input reads as it did. -/
def framesBackUptoRow : OpenClaim := { program := "ythbhbjfmlmgeeaadoor", sum := "5b909734b046d506a626f1834e958c5d71badf41a81426182ae8dfcf42d2ba13", func := "tabor/taborlaw03.FramesBack", spec := "framesBack", unfollowed := true, recurses := true, named := ["tabor/sums.halves"], apart := false, laid := [("tabor/sums.halves", laid_tabor_sums_halves)], narrowed := true }
def FramesBackUptoSaid : Prop := framesBackUptoRow.holds Tryd.pinned (OpenSpec.upto framesBackSpec)

/-- 'taborlaw03.FramesRows', WHERE WHAT IT READS IS OF BULK AT MOST 1048576: true; the input reads as it did. -/
def framesRowsUptoRow : OpenClaim := { program := "ythbhbjfmlmgeeaadoor", sum := "5b909734b046d506a626f1834e958c5d71badf41a81426182ae8dfcf42d2ba13", func := "tabor/taborlaw03.FramesRows", spec := "framesRows", unfollowed := true, recurses := true, named := ["tabor/sums.halves"], apart := false, laid := [("tabor/sums.halves", laid_tabor_sums_halves)], narrowed := true }
def FramesRowsUptoSaid : Prop := framesRowsUptoRow.holds Tryd.pinned (OpenSpec.upto framesRowsSpec)

end Rows
end Go.Proofs.YthbhbjfmlmgeeaaDoor
