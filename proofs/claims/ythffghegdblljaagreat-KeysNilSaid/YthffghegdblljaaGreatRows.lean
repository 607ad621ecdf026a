/-
  No cell of these rows narrows 'for every input' (looked for: loops, veiled, ifaces, maps, wideKeys, modest, calm, conditions, laid).
  DERIVED. THE GIVEN ROWS OF THIS SEAT. 8 by the template 'for every input the law returns true; each argument reads behind the call as it read before'; 0 by the template 'total and deterministic' (their statements: YthffghegdblljaaGreatTotals.lean).
  GIVEN WITH THE SEED: the statements are not yours to turn. If you find one false, say at which input.
  Laid BY PROGRAM, IN A SANDBOX (cutbox-rows.mjs): the forced cells as the released guide's own fill.sh prints them over the translation ca3215cb33e87eb0… (all of the seat's roots in one cut). By AI agents, Wed Nov 11 2026. No macro, syntax, notation, axiom, sorry.
-/
import Derived.Test.YthffghegdblljaaGreatChecked
import GoSem.Claim
import GoSem.ClaimJoined
import GoSem.ClaimMapViews
import Derived.JoinedTies
import Derived.KernelRfl
namespace Go.Proofs.YthffghegdblljaaGreat
/- THE CELL 'sum', in the pinned program and in every row, IS THE sha256 OF THE DUMP (.gsa) THAT YthffghegdblljaaGreatProg.lean LOADS. Nothing in Lean hashes anything: it is a label: what it is worth is what the hold of that sum in a sandbox is worth. -/
noncomputable def Tryz.pinned : Pinned := { name := "ythffghegdblljaagreat", sum := "ca3215cb33e87eb0d005abccb580768bad6d912d3164a15c9fb8956d305ef90c", checked := Tryz.checked }
namespace Rows
def none {H : Type} : Left H := { results := [], args := [] }

/-- 'taborlaw07.KeysCheck': WHATEVER THE INPUT: true; the input reads as it did. -/
def keysCheckSpec : ChangeSpec := { name := "keysCheck", fn := fun _ => fun
  | [d1, d2] => { results := [.lit (.bool true)], args := [d1, d2] }
  | _ => none }
def keysCheckRow : OpenClaim := { program := "ythffghegdblljaagreat", sum := "ca3215cb33e87eb0d005abccb580768bad6d912d3164a15c9fb8956d305ef90c", func := "tabor/taborlaw07.KeysCheck", spec := "keysCheck", inPlace := ["internal/bytealg.abigen_runtime_cmpstring", "slices.overlaps[tabor/api.Pair]", "slices.overlaps[string]", "slices.overlaps[tabor/api.Rank]", "maps.clone"], unfollowed := true, recurses := true, apart := false }
def KeysCheckSaid : Prop := keysCheckRow.holds Tryz.pinned (OpenSpec.ofChange keysCheckSpec)

/-- ITS FALSE NEIGHBOUR: 'it returns false'. Refute it at one input. -/
def keysCheckWrong : ChangeSpec := { name := "keysCheck", fn := fun _ => fun
  | [d1, d2] => { results := [.lit (.bool false)], args := [d1, d2] }
  | _ => none }
def KeysCheckWrongFalsely : Prop := keysCheckRow.holds Tryz.pinned (OpenSpec.ofChange keysCheckWrong)

/-- 'taborlaw07.KeysOf': WHATEVER THE INPUT: true; the input reads as it did. -/
def keysOfSpec : ChangeSpec := { name := "keysOf", fn := fun _ => fun
  | [d] => { results := [.lit (.bool true)], args := [d] }
  | _ => none }
def keysOfRow : OpenClaim := { program := "ythffghegdblljaagreat", sum := "ca3215cb33e87eb0d005abccb580768bad6d912d3164a15c9fb8956d305ef90c", func := "tabor/taborlaw07.KeysOf", spec := "keysOf", inPlace := ["internal/bytealg.abigen_runtime_cmpstring", "slices.overlaps[tabor/api.Pair]", "slices.overlaps[string]", "slices.overlaps[tabor/api.Rank]", "maps.clone"], unfollowed := true, recurses := true, apart := false }
def KeysOfSaid : Prop := keysOfRow.holds Tryz.pinned (OpenSpec.ofChange keysOfSpec)

/-- ITS FALSE NEIGHBOUR: 'it returns false'. Refute it at one input. -/
def keysOfWrong : ChangeSpec := { name := "keysOf", fn := fun _ => fun
  | [d] => { results := [.lit (.bool false)], args := [d] }
  | _ => none }
def KeysOfWrongFalsely : Prop := keysOfRow.holds Tryz.pinned (OpenSpec.ofChange keysOfWrong)

/-- 'taborlaw07.KeysApply': WHATEVER THE INPUT: true; the input reads as it did. -/
def keysApplySpec : ChangeSpec := { name := "keysApply", fn := fun _ => fun
  | [d1, d2] => { results := [.lit (.bool true)], args := [d1, d2] }
  | _ => none }
def keysApplyRow : OpenClaim := { program := "ythffghegdblljaagreat", sum := "ca3215cb33e87eb0d005abccb580768bad6d912d3164a15c9fb8956d305ef90c", func := "tabor/taborlaw07.KeysApply", spec := "keysApply", inPlace := ["internal/bytealg.abigen_runtime_cmpstring", "slices.overlaps[tabor/api.Pair]", "slices.overlaps[string]", "slices.overlaps[tabor/api.Rank]", "maps.clone"], unfollowed := true, recurses := true, apart := false }
def KeysApplySaid : Prop := keysApplyRow.holds Tryz.pinned (OpenSpec.ofChange keysApplySpec)

/-- ITS FALSE NEIGHBOUR: 'it returns false'. Refute it at one input. -/
def keysApplyWrong : ChangeSpec := { name := "keysApply", fn := fun _ => fun
  | [d1, d2] => { results := [.lit (.bool false)], args := [d1, d2] }
  | _ => none }
def KeysApplyWrongFalsely : Prop := keysApplyRow.holds Tryz.pinned (OpenSpec.ofChange keysApplyWrong)

/-- 'taborlaw07.KeysOne': WHATEVER THE INPUT: true; the input reads as it did. -/
def keysOneSpec : ChangeSpec := { name := "keysOne", fn := fun _ => fun
  | [d1, d2] => { results := [.lit (.bool true)], args := [d1, d2] }
  | _ => none }
def keysOneRow : OpenClaim := { program := "ythffghegdblljaagreat", sum := "ca3215cb33e87eb0d005abccb580768bad6d912d3164a15c9fb8956d305ef90c", func := "tabor/taborlaw07.KeysOne", spec := "keysOne", inPlace := ["internal/bytealg.abigen_runtime_cmpstring", "slices.overlaps[tabor/api.Pair]", "slices.overlaps[string]", "slices.overlaps[tabor/api.Rank]", "maps.clone"], unfollowed := true, recurses := true, apart := false }
def KeysOneSaid : Prop := keysOneRow.holds Tryz.pinned (OpenSpec.ofChange keysOneSpec)

/-- ITS FALSE NEIGHBOUR: 'it returns false'. Refute it at one input. -/
def keysOneWrong : ChangeSpec := { name := "keysOne", fn := fun _ => fun
  | [d1, d2] => { results := [.lit (.bool false)], args := [d1, d2] }
  | _ => none }
def KeysOneWrongFalsely : Prop := keysOneRow.holds Tryz.pinned (OpenSpec.ofChange keysOneWrong)

/-- 'taborlaw07.KeysParts': WHATEVER THE INPUT: true; the input reads as it did. -/
def keysPartsSpec : ChangeSpec := { name := "keysParts", fn := fun _ => fun
  | [d1, d2, d3] => { results := [.lit (.bool true)], args := [d1, d2, d3] }
  | _ => none }
def keysPartsRow : OpenClaim := { program := "ythffghegdblljaagreat", sum := "ca3215cb33e87eb0d005abccb580768bad6d912d3164a15c9fb8956d305ef90c", func := "tabor/taborlaw07.KeysParts", spec := "keysParts", inPlace := ["internal/bytealg.abigen_runtime_cmpstring", "slices.overlaps[tabor/api.Pair]", "slices.overlaps[string]", "slices.overlaps[tabor/api.Rank]", "maps.clone"], unfollowed := true, recurses := true, apart := false }
def KeysPartsSaid : Prop := keysPartsRow.holds Tryz.pinned (OpenSpec.ofChange keysPartsSpec)

/-- ITS FALSE NEIGHBOUR: 'it returns false'. Refute it at one input. -/
def keysPartsWrong : ChangeSpec := { name := "keysParts", fn := fun _ => fun
  | [d1, d2, d3] => { results := [.lit (.bool false)], args := [d1, d2, d3] }
  | _ => none }
def KeysPartsWrongFalsely : Prop := keysPartsRow.holds Tryz.pinned (OpenSpec.ofChange keysPartsWrong)

/-- 'taborlaw07.KeysTells': WHATEVER THE INPUT: true; the input reads as it did. -/
def keysTellsSpec : ChangeSpec := { name := "keysTells", fn := fun _ => fun
  | [d1, d2, d3] => { results := [.lit (.bool true)], args := [d1, d2, d3] }
  | _ => none }
def keysTellsRow : OpenClaim := { program := "ythffghegdblljaagreat", sum := "ca3215cb33e87eb0d005abccb580768bad6d912d3164a15c9fb8956d305ef90c", func := "tabor/taborlaw07.KeysTells", spec := "keysTells", inPlace := ["internal/bytealg.abigen_runtime_cmpstring", "slices.overlaps[tabor/api.Pair]", "slices.overlaps[string]", "slices.overlaps[tabor/api.Rank]", "maps.clone"], unfollowed := true, recurses := true, apart := false }
def KeysTellsSaid : Prop := keysTellsRow.holds Tryz.pinned (OpenSpec.ofChange keysTellsSpec)

/-- ITS FALSE NEIGHBOUR: 'it returns false'. Refute it at one input. -/
def keysTellsWrong : ChangeSpec := { name := "keysTells", fn := fun _ => fun
  | [d1, d2, d3] => { results := [.lit (.bool false)], args := [d1, d2, d3] }
  | _ => none }
def KeysTellsWrongFalsely : Prop := keysTellsRow.holds Tryz.pinned (OpenSpec.ofChange keysTellsWrong)

/-- 'taborlaw07.KeysAll': WHATEVER THE INPUT: true; the input reads as it did. -/
def keysAllSpec : ChangeSpec := { name := "keysAll", fn := fun _ => fun
  | [d1, d2] => { results := [.lit (.bool true)], args := [d1, d2] }
  | _ => none }
def keysAllRow : OpenClaim := { program := "ythffghegdblljaagreat", sum := "ca3215cb33e87eb0d005abccb580768bad6d912d3164a15c9fb8956d305ef90c", func := "tabor/taborlaw07.KeysAll", spec := "keysAll", inPlace := ["internal/bytealg.abigen_runtime_cmpstring", "slices.overlaps[tabor/api.Pair]", "slices.overlaps[string]", "slices.overlaps[tabor/api.Rank]", "maps.clone"], unfollowed := true, recurses := true, apart := false }
def KeysAllSaid : Prop := keysAllRow.holds Tryz.pinned (OpenSpec.ofChange keysAllSpec)

/-- ITS FALSE NEIGHBOUR: 'it returns false'. Refute it at one input. -/
def keysAllWrong : ChangeSpec := { name := "keysAll", fn := fun _ => fun
  | [d1, d2] => { results := [.lit (.bool false)], args := [d1, d2] }
  | _ => none }
def KeysAllWrongFalsely : Prop := keysAllRow.holds Tryz.pinned (OpenSpec.ofChange keysAllWrong)

/-- 'taborlaw07.KeysNil': WHATEVER THE INPUT: true; the input reads as it did. -/
def keysNilSpec : ChangeSpec := { name := "keysNil", fn := fun _ => fun
  | [d1, d2, d3] => { results := [.lit (.bool true)], args := [d1, d2, d3] }
  | _ => none }
def keysNilRow : OpenClaim := { program := "ythffghegdblljaagreat", sum := "ca3215cb33e87eb0d005abccb580768bad6d912d3164a15c9fb8956d305ef90c", func := "tabor/taborlaw07.KeysNil", spec := "keysNil", inPlace := ["internal/bytealg.abigen_runtime_cmpstring", "slices.overlaps[tabor/api.Pair]", "slices.overlaps[string]", "slices.overlaps[tabor/api.Rank]", "maps.clone"], unfollowed := true, recurses := true, apart := false }
def KeysNilSaid : Prop := keysNilRow.holds Tryz.pinned (OpenSpec.ofChange keysNilSpec)

/-- ITS FALSE NEIGHBOUR: 'it returns false'. Refute it at one input. -/
def keysNilWrong : ChangeSpec := { name := "keysNil", fn := fun _ => fun
  | [d1, d2, d3] => { results := [.lit (.bool false)], args := [d1, d2, d3] }
  | _ => none }
def KeysNilWrongFalsely : Prop := keysNilRow.holds Tryz.pinned (OpenSpec.ofChange keysNilWrong)

/- THE SECOND FORM. 'bulk': how many values and letters a reading holds, each counted each time it is reached (what is shared counts as often as it is met; a slice's spare places count too). A statement '..UptoSaid' is the law's where the arguments, and the package variables that the reading takes, are together of bulk at most 1048576: NARROWER than '..Said'. Prove '..Said' where nothing that the law and all that it calls make is longer than what came in: it says more and counts as full. Else prove '..UptoSaid'. A law counts once. -/
mutual
def uptoBulk {H : Type} : DataW H → Nat
  | .lit (.string bytes) => bytes.length + 1
  | .lit _ => 1
  | .nil => 1
  | .ptr d => uptoBulk d + 1
  | .slice elems spare => uptoBulkAll elems + uptoBulkAll spare + 1
  | .agg parts => uptoBulkAll parts + 1
  | .iface _ d => uptoBulk d + 1
  | .map entries => uptoBulkEntries entries + 1
  | .held _ => 1
def uptoBulkAll {H : Type} : List (DataW H) → Nat
  | [] => 0
  | d :: r => uptoBulk d + uptoBulkAll r
def uptoBulkEntries {H : Type} : List (Lit × DataW H) → Nat
  | [] => 0
  | x :: r => uptoBulkEntry x + uptoBulkEntries r
def uptoBulkEntry {H : Type} : Lit × DataW H → Nat
  | (.string bytes, d) => bytes.length + uptoBulk d + 1
  | (_, d) => uptoBulk d + 1
 end
def uptoSmall : (H : Type) → List (DataW H) → Bool := fun _ ds => decide (uptoBulkAll ds ≤ 1048576)
def OpenSpec.upto (s : _root_.Go.ChangeSpec) : _root_.Go.OpenSpec := { _root_.Go.OpenSpec.ofChange s with cond := some uptoSmall }

/-- 'taborlaw07.KeysCheck', WHERE WHAT IT READS IS OF BULK AT MOST 1048576: true; the input reads as it did. -/
def keysCheckUptoRow : OpenClaim := { program := "ythffghegdblljaagreat", sum := "ca3215cb33e87eb0d005abccb580768bad6d912d3164a15c9fb8956d305ef90c", func := "tabor/taborlaw07.KeysCheck", spec := "keysCheck", inPlace := ["internal/bytealg.abigen_runtime_cmpstring", "slices.overlaps[tabor/api.Pair]", "slices.overlaps[string]", "slices.overlaps[tabor/api.Rank]", "maps.clone"], unfollowed := true, recurses := true, apart := false, narrowed := true }
def KeysCheckUptoSaid : Prop := keysCheckUptoRow.holds Tryz.pinned (OpenSpec.upto keysCheckSpec)

/-- 'taborlaw07.KeysOf', WHERE WHAT IT READS IS OF BULK AT MOST 1048576: true; the input reads as it did. -/
def keysOfUptoRow : OpenClaim := { program := "ythffghegdblljaagreat", sum := "ca3215cb33e87eb0d005abccb580768bad6d912d3164a15c9fb8956d305ef90c", func := "tabor/taborlaw07.KeysOf", spec := "keysOf", inPlace := ["internal/bytealg.abigen_runtime_cmpstring", "slices.overlaps[tabor/api.Pair]", "slices.overlaps[string]", "slices.overlaps[tabor/api.Rank]", "maps.clone"], unfollowed := true, recurses := true, apart := false, narrowed := true }
def KeysOfUptoSaid : Prop := keysOfUptoRow.holds Tryz.pinned (OpenSpec.upto keysOfSpec)

/-- 'taborlaw07.KeysApply', WHERE WHAT IT READS IS OF BULK AT MOST 1048576: true; the input reads as it did. -/
def keysApplyUptoRow : OpenClaim := { program := "ythffghegdblljaagreat", sum := "ca3215cb33e87eb0d005abccb580768bad6d912d3164a15c9fb8956d305ef90c", func := "tabor/taborlaw07.KeysApply", spec := "keysApply", inPlace := ["internal/bytealg.abigen_runtime_cmpstring", "slices.overlaps[tabor/api.Pair]", "slices.overlaps[string]", "slices.overlaps[tabor/api.Rank]", "maps.clone"], unfollowed := true, recurses := true, apart := false, narrowed := true }
def KeysApplyUptoSaid : Prop := keysApplyUptoRow.holds Tryz.pinned (OpenSpec.upto keysApplySpec)

/-- 'taborlaw07.KeysOne', WHERE WHAT IT READS IS OF BULK AT MOST 1048576: true; the input reads as it did. -/
def keysOneUptoRow : OpenClaim := { program := "ythffghegdblljaagreat", sum := "ca3215cb33e87eb0d005abccb580768bad6d912d3164a15c9fb8956d305ef90c", func := "tabor/taborlaw07.KeysOne", spec := "keysOne", inPlace := ["internal/bytealg.abigen_runtime_cmpstring", "slices.overlaps[tabor/api.Pair]", "slices.overlaps[string]", "slices.overlaps[tabor/api.Rank]", "maps.clone"], unfollowed := true, recurses := true, apart := false, narrowed := true }
def KeysOneUptoSaid : Prop := keysOneUptoRow.holds Tryz.pinned (OpenSpec.upto keysOneSpec)

/-- 'taborlaw07.KeysParts', WHERE WHAT IT READS IS OF BULK AT MOST 1048576: true; the input reads as it did. -/
def keysPartsUptoRow : OpenClaim := { program := "ythffghegdblljaagreat", sum := "ca3215cb33e87eb0d005abccb580768bad6d912d3164a15c9fb8956d305ef90c", func := "tabor/taborlaw07.KeysParts", spec := "keysParts", inPlace := ["internal/bytealg.abigen_runtime_cmpstring", "slices.overlaps[tabor/api.Pair]", "slices.overlaps[string]", "slices.overlaps[tabor/api.Rank]", "maps.clone"], unfollowed := true, recurses := true, apart := false, narrowed := true }
def KeysPartsUptoSaid : Prop := keysPartsUptoRow.holds Tryz.pinned (OpenSpec.upto keysPartsSpec)

/-- 'taborlaw07.KeysTells', WHERE WHAT IT READS IS OF BULK AT MOST 1048576: true; the input reads as it did. -/
def keysTellsUptoRow : OpenClaim := { program := "ythffghegdblljaagreat", sum := "ca3215cb33e87eb0d005abccb580768bad6d912d3164a15c9fb8956d305ef90c", func := "tabor/taborlaw07.KeysTells", spec := "keysTells", inPlace := ["internal/bytealg.abigen_runtime_cmpstring", "slices.overlaps[tabor/api.Pair]", "slices.overlaps[string]", "slices.overlaps[tabor/api.Rank]", "maps.clone"], unfollowed := true, recurses := true, apart := false, narrowed := true }
def KeysTellsUptoSaid : Prop := keysTellsUptoRow.holds Tryz.pinned (OpenSpec.upto keysTellsSpec)

/-- 'taborlaw07.KeysAll', WHERE WHAT IT READS IS OF BULK AT MOST 1048576: true; the input reads as it did. -/
def keysAllUptoRow : OpenClaim := { program := "ythffghegdblljaagreat", sum := "ca3215cb33e87eb0d005abccb580768bad6d912d3164a15c9fb8956d305ef90c", func := "tabor/taborlaw07.KeysAll", spec := "keysAll", inPlace := ["internal/bytealg.abigen_runtime_cmpstring", "slices.overlaps[tabor/api.Pair]", "slices.overlaps[string]", "slices.overlaps[tabor/api.Rank]", "maps.clone"], unfollowed := true, recurses := true, apart := false, narrowed := true }
def KeysAllUptoSaid : Prop := keysAllUptoRow.holds Tryz.pinned (OpenSpec.upto keysAllSpec)

/-- 'taborlaw07.KeysNil', WHERE WHAT IT READS IS OF BULK AT MOST 1048576: true; the input reads as it did. -/
def keysNilUptoRow : OpenClaim := { program := "ythffghegdblljaagreat", sum := "ca3215cb33e87eb0d005abccb580768bad6d912d3164a15c9fb8956d305ef90c", func := "tabor/taborlaw07.KeysNil", spec := "keysNil", inPlace := ["internal/bytealg.abigen_runtime_cmpstring", "slices.overlaps[tabor/api.Pair]", "slices.overlaps[string]", "slices.overlaps[tabor/api.Rank]", "maps.clone"], unfollowed := true, recurses := true, apart := false, narrowed := true }
def KeysNilUptoSaid : Prop := keysNilUptoRow.holds Tryz.pinned (OpenSpec.upto keysNilSpec)

end Rows
end Go.Proofs.YthffghegdblljaaGreat
