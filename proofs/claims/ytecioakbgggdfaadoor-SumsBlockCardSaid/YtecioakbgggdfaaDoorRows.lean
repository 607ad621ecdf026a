/-
  NARROWER THAN 'FOR EVERY INPUT', by the rows' own cells (each row's printed sentence says how): SumsCrc: laid · SumsUpdate: laid · SumsBytes: laid · SumsPads: laid · SumsBlock: laid · SumsDigest: laid · SumsIs: laid · SumsParts: laid · SumsUnlike: laid.
  DERIVED. THE GIVEN ROWS OF THIS SEAT. 9 by the template 'for every input the law returns true; each argument reads behind the call as it read before'; 0 by the template 'total and deterministic' (their statements: YtecioakbgggdfaaDoorTotals.lean).
  GIVEN WITH THE SEED: the statements are not yours to turn. If you find one false, say at which input.
  Laid BY PROGRAM, IN A SANDBOX (cutbox-rows.mjs): the forced cells as the released guide's own fill.sh prints them over the translation 8db2a71af98fa7df… (all of the seat's roots in one cut). By AI agents, Wed Nov 11 2026. No macro, syntax, notation, axiom, sorry.
-/
import Derived.Test.YtecioakbgggdfaaDoorChecked
import GoSem.Claim
import GoSem.ClaimJoined
import GoSem.ClaimMapViews
import Derived.JoinedTies
import Derived.KernelRfl
namespace Go.Proofs.YtecioakbgggdfaaDoor
/- THE CELL 'sum', in the pinned program and in every row, IS THE sha256 OF THE DUMP (.gsa) THAT YtecioakbgggdfaaDoorProg.lean LOADS. Nothing in Lean hashes anything: it is a label: what it is worth is what the hold of that sum in a sandbox is worth. -/
noncomputable def Tryd.pinned : Pinned := { name := "ytecioakbgggdfaadoor", sum := "8db2a71af98fa7df52b73a9fd0cc1eac43edd629eb93224497fbe7e7d801983f", checked := Tryd.checked }
namespace Rows
def none {H : Type} : Left H := { results := [], args := [] }

/- WHAT THE LISTED PACKAGE-LEVEL VARIABLES READ AS WHEN THE CALL BEGINS. Each datum BY PROGRAM (the guide's laid-datum.mjs) off the statement by which the dump's own 'gosem.cut.vars' lays the variable. In a bare row this is a premise. The card (YtecioakbgggdfaaDoorCards.lean) ties it to the program's text. -/
def laid_math_bits_deBruijn32tab {H : Type} : DataW H := .agg [.lit (.int .u8 0), .lit (.int .u8 1), .lit (.int .u8 28), .lit (.int .u8 2), .lit (.int .u8 29), .lit (.int .u8 14), .lit (.int .u8 24), .lit (.int .u8 3), .lit (.int .u8 30), .lit (.int .u8 22), .lit (.int .u8 20), .lit (.int .u8 15), .lit (.int .u8 25), .lit (.int .u8 17), .lit (.int .u8 4), .lit (.int .u8 8), .lit (.int .u8 31), .lit (.int .u8 27), .lit (.int .u8 13), .lit (.int .u8 23), .lit (.int .u8 21), .lit (.int .u8 19), .lit (.int .u8 16), .lit (.int .u8 7), .lit (.int .u8 26), .lit (.int .u8 12), .lit (.int .u8 18), .lit (.int .u8 6), .lit (.int .u8 11), .lit (.int .u8 5), .lit (.int .u8 10), .lit (.int .u8 9)]
def laid_math_bits_deBruijn64tab {H : Type} : DataW H := .agg [.lit (.int .u8 0), .lit (.int .u8 1), .lit (.int .u8 56), .lit (.int .u8 2), .lit (.int .u8 57), .lit (.int .u8 49), .lit (.int .u8 28), .lit (.int .u8 3), .lit (.int .u8 61), .lit (.int .u8 58), .lit (.int .u8 42), .lit (.int .u8 50), .lit (.int .u8 38), .lit (.int .u8 29), .lit (.int .u8 17), .lit (.int .u8 4), .lit (.int .u8 62), .lit (.int .u8 47), .lit (.int .u8 59), .lit (.int .u8 36), .lit (.int .u8 45), .lit (.int .u8 43), .lit (.int .u8 51), .lit (.int .u8 22), .lit (.int .u8 53), .lit (.int .u8 39), .lit (.int .u8 33), .lit (.int .u8 30), .lit (.int .u8 24), .lit (.int .u8 18), .lit (.int .u8 12), .lit (.int .u8 5), .lit (.int .u8 63), .lit (.int .u8 55), .lit (.int .u8 48), .lit (.int .u8 27), .lit (.int .u8 60), .lit (.int .u8 41), .lit (.int .u8 37), .lit (.int .u8 16), .lit (.int .u8 46), .lit (.int .u8 35), .lit (.int .u8 44), .lit (.int .u8 21), .lit (.int .u8 52), .lit (.int .u8 32), .lit (.int .u8 23), .lit (.int .u8 11), .lit (.int .u8 54), .lit (.int .u8 26), .lit (.int .u8 40), .lit (.int .u8 15), .lit (.int .u8 34), .lit (.int .u8 20), .lit (.int .u8 31), .lit (.int .u8 10), .lit (.int .u8 25), .lit (.int .u8 14), .lit (.int .u8 19), .lit (.int .u8 9), .lit (.int .u8 13), .lit (.int .u8 8), .lit (.int .u8 7), .lit (.int .u8 6)]
def laid_internal_strconv_uint64pow10 {H : Type} : DataW H := .agg [.lit (.int .u64 1), .lit (.int .u64 10), .lit (.int .u64 100), .lit (.int .u64 1000), .lit (.int .u64 10000), .lit (.int .u64 100000), .lit (.int .u64 1000000), .lit (.int .u64 10000000), .lit (.int .u64 100000000), .lit (.int .u64 1000000000), .lit (.int .u64 10000000000), .lit (.int .u64 100000000000), .lit (.int .u64 1000000000000), .lit (.int .u64 10000000000000), .lit (.int .u64 100000000000000), .lit (.int .u64 1000000000000000), .lit (.int .u64 10000000000000000), .lit (.int .u64 100000000000000000), .lit (.int .u64 1000000000000000000), .lit (.int .u64 10000000000000000000)]
def laid_tabor_sums_halves {H : Type} : DataW H := .agg [.lit (.int .u32 0), .lit (.int .u32 498536548), .lit (.int .u32 997073096), .lit (.int .u32 651767980), .lit (.int .u32 1994146192), .lit (.int .u32 1802195444), .lit (.int .u32 1303535960), .lit (.int .u32 1342533948), .lit (.int .u32 3988292384), .lit (.int .u32 4027552580), .lit (.int .u32 3604390888), .lit (.int .u32 3412177804), .lit (.int .u32 2607071920), .lit (.int .u32 2262029012), .lit (.int .u32 2685067896), .lit (.int .u32 3183342108)]

/-- 'taborlaw01.SumsCrc': WHATEVER THE INPUT: true; the input reads as it did. -/
def sumsCrcSpec : ChangeSpec := { name := "sumsCrc", fn := fun _ => fun
  | [d] => { results := [.lit (.bool true)], args := [d] }
  | _ => none }
def sumsCrcRow : OpenClaim := { program := "ytecioakbgggdfaadoor", sum := "8db2a71af98fa7df52b73a9fd0cc1eac43edd629eb93224497fbe7e7d801983f", func := "tabor/taborlaw01.SumsCrc", spec := "sumsCrc", unfollowed := true, recurses := true, named := ["tabor/sums.halves", "internal/strconv.uint64pow10", "math/bits.deBruijn32tab", "math/bits.deBruijn64tab"], apart := false, laid := [("math/bits.deBruijn32tab", laid_math_bits_deBruijn32tab), ("math/bits.deBruijn64tab", laid_math_bits_deBruijn64tab), ("internal/strconv.uint64pow10", laid_internal_strconv_uint64pow10), ("tabor/sums.halves", laid_tabor_sums_halves)] }
def SumsCrcSaid : Prop := sumsCrcRow.holds Tryd.pinned (OpenSpec.ofChange sumsCrcSpec)

/-- ITS FALSE NEIGHBOUR: 'it returns false'. Refute it at one input. -/
def sumsCrcWrong : ChangeSpec := { name := "sumsCrc", fn := fun _ => fun
  | [d] => { results := [.lit (.bool false)], args := [d] }
  | _ => none }
def SumsCrcWrongFalsely : Prop := sumsCrcRow.holds Tryd.pinned (OpenSpec.ofChange sumsCrcWrong)

/-- 'taborlaw01.SumsUpdate': WHATEVER THE INPUT: true; the input reads as it did. -/
def sumsUpdateSpec : ChangeSpec := { name := "sumsUpdate", fn := fun _ => fun
  | [d1, d2] => { results := [.lit (.bool true)], args := [d1, d2] }
  | _ => none }
def sumsUpdateRow : OpenClaim := { program := "ytecioakbgggdfaadoor", sum := "8db2a71af98fa7df52b73a9fd0cc1eac43edd629eb93224497fbe7e7d801983f", func := "tabor/taborlaw01.SumsUpdate", spec := "sumsUpdate", unfollowed := true, recurses := true, named := ["tabor/sums.halves", "internal/strconv.uint64pow10", "math/bits.deBruijn32tab", "math/bits.deBruijn64tab"], apart := false, laid := [("math/bits.deBruijn32tab", laid_math_bits_deBruijn32tab), ("math/bits.deBruijn64tab", laid_math_bits_deBruijn64tab), ("internal/strconv.uint64pow10", laid_internal_strconv_uint64pow10), ("tabor/sums.halves", laid_tabor_sums_halves)] }
def SumsUpdateSaid : Prop := sumsUpdateRow.holds Tryd.pinned (OpenSpec.ofChange sumsUpdateSpec)

/-- ITS FALSE NEIGHBOUR: 'it returns false'. Refute it at one input. -/
def sumsUpdateWrong : ChangeSpec := { name := "sumsUpdate", fn := fun _ => fun
  | [d1, d2] => { results := [.lit (.bool false)], args := [d1, d2] }
  | _ => none }
def SumsUpdateWrongFalsely : Prop := sumsUpdateRow.holds Tryd.pinned (OpenSpec.ofChange sumsUpdateWrong)

/-- 'taborlaw01.SumsBytes': WHATEVER THE INPUT: true; the input reads as it did. -/
def sumsBytesSpec : ChangeSpec := { name := "sumsBytes", fn := fun _ => fun
  | [d1, d2] => { results := [.lit (.bool true)], args := [d1, d2] }
  | _ => none }
def sumsBytesRow : OpenClaim := { program := "ytecioakbgggdfaadoor", sum := "8db2a71af98fa7df52b73a9fd0cc1eac43edd629eb93224497fbe7e7d801983f", func := "tabor/taborlaw01.SumsBytes", spec := "sumsBytes", unfollowed := true, recurses := true, named := ["tabor/sums.halves", "internal/strconv.uint64pow10", "math/bits.deBruijn32tab", "math/bits.deBruijn64tab"], apart := false, laid := [("math/bits.deBruijn32tab", laid_math_bits_deBruijn32tab), ("math/bits.deBruijn64tab", laid_math_bits_deBruijn64tab), ("internal/strconv.uint64pow10", laid_internal_strconv_uint64pow10), ("tabor/sums.halves", laid_tabor_sums_halves)] }
def SumsBytesSaid : Prop := sumsBytesRow.holds Tryd.pinned (OpenSpec.ofChange sumsBytesSpec)

/-- ITS FALSE NEIGHBOUR: 'it returns false'. Refute it at one input. -/
def sumsBytesWrong : ChangeSpec := { name := "sumsBytes", fn := fun _ => fun
  | [d1, d2] => { results := [.lit (.bool false)], args := [d1, d2] }
  | _ => none }
def SumsBytesWrongFalsely : Prop := sumsBytesRow.holds Tryd.pinned (OpenSpec.ofChange sumsBytesWrong)

/-- 'taborlaw01.SumsPads': WHATEVER THE INPUT: true; the input reads as it did. -/
def sumsPadsSpec : ChangeSpec := { name := "sumsPads", fn := fun _ => fun
  | [d] => { results := [.lit (.bool true)], args := [d] }
  | _ => none }
def sumsPadsRow : OpenClaim := { program := "ytecioakbgggdfaadoor", sum := "8db2a71af98fa7df52b73a9fd0cc1eac43edd629eb93224497fbe7e7d801983f", func := "tabor/taborlaw01.SumsPads", spec := "sumsPads", unfollowed := true, recurses := true, named := ["tabor/sums.halves", "internal/strconv.uint64pow10", "math/bits.deBruijn32tab", "math/bits.deBruijn64tab"], apart := false, laid := [("math/bits.deBruijn32tab", laid_math_bits_deBruijn32tab), ("math/bits.deBruijn64tab", laid_math_bits_deBruijn64tab), ("internal/strconv.uint64pow10", laid_internal_strconv_uint64pow10), ("tabor/sums.halves", laid_tabor_sums_halves)] }
def SumsPadsSaid : Prop := sumsPadsRow.holds Tryd.pinned (OpenSpec.ofChange sumsPadsSpec)

/-- ITS FALSE NEIGHBOUR: 'it returns false'. Refute it at one input. -/
def sumsPadsWrong : ChangeSpec := { name := "sumsPads", fn := fun _ => fun
  | [d] => { results := [.lit (.bool false)], args := [d] }
  | _ => none }
def SumsPadsWrongFalsely : Prop := sumsPadsRow.holds Tryd.pinned (OpenSpec.ofChange sumsPadsWrong)

/-- 'taborlaw01.SumsBlock': WHATEVER THE INPUT: true; the input reads as it did. -/
def sumsBlockSpec : ChangeSpec := { name := "sumsBlock", fn := fun _ => fun
  | [d1, d2] => { results := [.lit (.bool true)], args := [d1, d2] }
  | _ => none }
def sumsBlockRow : OpenClaim := { program := "ytecioakbgggdfaadoor", sum := "8db2a71af98fa7df52b73a9fd0cc1eac43edd629eb93224497fbe7e7d801983f", func := "tabor/taborlaw01.SumsBlock", spec := "sumsBlock", unfollowed := true, recurses := true, named := ["tabor/sums.halves", "internal/strconv.uint64pow10", "math/bits.deBruijn32tab", "math/bits.deBruijn64tab"], apart := false, laid := [("math/bits.deBruijn32tab", laid_math_bits_deBruijn32tab), ("math/bits.deBruijn64tab", laid_math_bits_deBruijn64tab), ("internal/strconv.uint64pow10", laid_internal_strconv_uint64pow10), ("tabor/sums.halves", laid_tabor_sums_halves)] }
def SumsBlockSaid : Prop := sumsBlockRow.holds Tryd.pinned (OpenSpec.ofChange sumsBlockSpec)

/-- ITS FALSE NEIGHBOUR: 'it returns false'. Refute it at one input. -/
def sumsBlockWrong : ChangeSpec := { name := "sumsBlock", fn := fun _ => fun
  | [d1, d2] => { results := [.lit (.bool false)], args := [d1, d2] }
  | _ => none }
def SumsBlockWrongFalsely : Prop := sumsBlockRow.holds Tryd.pinned (OpenSpec.ofChange sumsBlockWrong)

/-- 'taborlaw01.SumsDigest': WHATEVER THE INPUT: true; the input reads as it did. -/
def sumsDigestSpec : ChangeSpec := { name := "sumsDigest", fn := fun _ => fun
  | [d] => { results := [.lit (.bool true)], args := [d] }
  | _ => none }
def sumsDigestRow : OpenClaim := { program := "ytecioakbgggdfaadoor", sum := "8db2a71af98fa7df52b73a9fd0cc1eac43edd629eb93224497fbe7e7d801983f", func := "tabor/taborlaw01.SumsDigest", spec := "sumsDigest", unfollowed := true, recurses := true, named := ["tabor/sums.halves", "internal/strconv.uint64pow10", "math/bits.deBruijn32tab", "math/bits.deBruijn64tab"], apart := false, laid := [("math/bits.deBruijn32tab", laid_math_bits_deBruijn32tab), ("math/bits.deBruijn64tab", laid_math_bits_deBruijn64tab), ("internal/strconv.uint64pow10", laid_internal_strconv_uint64pow10), ("tabor/sums.halves", laid_tabor_sums_halves)] }
def SumsDigestSaid : Prop := sumsDigestRow.holds Tryd.pinned (OpenSpec.ofChange sumsDigestSpec)

/-- ITS FALSE NEIGHBOUR: 'it returns false'. Refute it at one input. -/
def sumsDigestWrong : ChangeSpec := { name := "sumsDigest", fn := fun _ => fun
  | [d] => { results := [.lit (.bool false)], args := [d] }
  | _ => none }
def SumsDigestWrongFalsely : Prop := sumsDigestRow.holds Tryd.pinned (OpenSpec.ofChange sumsDigestWrong)

/-- 'taborlaw01.SumsIs': WHATEVER THE INPUT: true; the input reads as it did. -/
def sumsIsSpec : ChangeSpec := { name := "sumsIs", fn := fun _ => fun
  | [d] => { results := [.lit (.bool true)], args := [d] }
  | _ => none }
def sumsIsRow : OpenClaim := { program := "ytecioakbgggdfaadoor", sum := "8db2a71af98fa7df52b73a9fd0cc1eac43edd629eb93224497fbe7e7d801983f", func := "tabor/taborlaw01.SumsIs", spec := "sumsIs", unfollowed := true, recurses := true, named := ["tabor/sums.halves", "internal/strconv.uint64pow10", "math/bits.deBruijn32tab", "math/bits.deBruijn64tab"], apart := false, laid := [("math/bits.deBruijn32tab", laid_math_bits_deBruijn32tab), ("math/bits.deBruijn64tab", laid_math_bits_deBruijn64tab), ("internal/strconv.uint64pow10", laid_internal_strconv_uint64pow10), ("tabor/sums.halves", laid_tabor_sums_halves)] }
def SumsIsSaid : Prop := sumsIsRow.holds Tryd.pinned (OpenSpec.ofChange sumsIsSpec)

/-- ITS FALSE NEIGHBOUR: 'it returns false'. Refute it at one input. -/
def sumsIsWrong : ChangeSpec := { name := "sumsIs", fn := fun _ => fun
  | [d] => { results := [.lit (.bool false)], args := [d] }
  | _ => none }
def SumsIsWrongFalsely : Prop := sumsIsRow.holds Tryd.pinned (OpenSpec.ofChange sumsIsWrong)

/-- 'taborlaw01.SumsParts': WHATEVER THE INPUT: true; the input reads as it did. -/
def sumsPartsSpec : ChangeSpec := { name := "sumsParts", fn := fun _ => fun
  | [d1, d2] => { results := [.lit (.bool true)], args := [d1, d2] }
  | _ => none }
def sumsPartsRow : OpenClaim := { program := "ytecioakbgggdfaadoor", sum := "8db2a71af98fa7df52b73a9fd0cc1eac43edd629eb93224497fbe7e7d801983f", func := "tabor/taborlaw01.SumsParts", spec := "sumsParts", unfollowed := true, recurses := true, named := ["tabor/sums.halves", "internal/strconv.uint64pow10", "math/bits.deBruijn32tab", "math/bits.deBruijn64tab"], apart := false, laid := [("math/bits.deBruijn32tab", laid_math_bits_deBruijn32tab), ("math/bits.deBruijn64tab", laid_math_bits_deBruijn64tab), ("internal/strconv.uint64pow10", laid_internal_strconv_uint64pow10), ("tabor/sums.halves", laid_tabor_sums_halves)] }
def SumsPartsSaid : Prop := sumsPartsRow.holds Tryd.pinned (OpenSpec.ofChange sumsPartsSpec)

/-- ITS FALSE NEIGHBOUR: 'it returns false'. Refute it at one input. -/
def sumsPartsWrong : ChangeSpec := { name := "sumsParts", fn := fun _ => fun
  | [d1, d2] => { results := [.lit (.bool false)], args := [d1, d2] }
  | _ => none }
def SumsPartsWrongFalsely : Prop := sumsPartsRow.holds Tryd.pinned (OpenSpec.ofChange sumsPartsWrong)

/-- 'taborlaw01.SumsUnlike': WHATEVER THE INPUT: true; the input reads as it did. -/
def sumsUnlikeSpec : ChangeSpec := { name := "sumsUnlike", fn := fun _ => fun
  | [d1, d2] => { results := [.lit (.bool true)], args := [d1, d2] }
  | _ => none }
def sumsUnlikeRow : OpenClaim := { program := "ytecioakbgggdfaadoor", sum := "8db2a71af98fa7df52b73a9fd0cc1eac43edd629eb93224497fbe7e7d801983f", func := "tabor/taborlaw01.SumsUnlike", spec := "sumsUnlike", unfollowed := true, recurses := true, named := ["tabor/sums.halves", "internal/strconv.uint64pow10", "math/bits.deBruijn32tab", "math/bits.deBruijn64tab"], apart := false, laid := [("math/bits.deBruijn32tab", laid_math_bits_deBruijn32tab), ("math/bits.deBruijn64tab", laid_math_bits_deBruijn64tab), ("internal/strconv.uint64pow10", laid_internal_strconv_uint64pow10), ("tabor/sums.halves", laid_tabor_sums_halves)] }
def SumsUnlikeSaid : Prop := sumsUnlikeRow.holds Tryd.pinned (OpenSpec.ofChange sumsUnlikeSpec)

/-- ITS FALSE NEIGHBOUR: 'it returns false'. Refute it at one input. -/
def sumsUnlikeWrong : ChangeSpec := { name := "sumsUnlike", fn := fun _ => fun
  | [d1, d2] => { results := [.lit (.bool false)], args := [d1, d2] }
  | _ => none }
def SumsUnlikeWrongFalsely : Prop := sumsUnlikeRow.holds Tryd.pinned (OpenSpec.ofChange sumsUnlikeWrong)

/- THE SECOND FORM. 'bulk': how many values and letters a reading holds, each counted each time it is reached (what is shared counts as often as it is met; a slice's spare places count too). A statement '..UptoSaid' is the law's where the arguments, and the package variables that the reading takes, are together of bulk at most 1048576: NARROWER than '..Said'. Prove '..Said' where nothing that the law and all that it calls make is longer than what came in: it says more and counts as full. Else prove '..UptoSaid'. A law counts once. -/
mutual
def uptoBulk {H : Type} : DataW H → Nat
  | .lit (.string bytes) => bytes.length + 1
  | .lit _ => 1
  | .nil => 1
  | .ptr d => uptoBulk d + 1
  | .slice elems spare => uptoBulkAll elems + uptoBulkAll spare + 1
  | .agg parts => uptoBulkAll parts + 1
  | .iface _ d => uptoBulk d + 1
  | .map entries => uptoBulkEntries entries + 1
  | .held _ => 1
def uptoBulkAll {H : Type} : List (DataW H) → Nat
  | [] => 0
  | d :: r => uptoBulk d + uptoBulkAll r
def uptoBulkEntries {H : Type} : List (Lit × DataW H) → Nat
  | [] => 0
  | x :: r => uptoBulkEntry x + uptoBulkEntries r
def uptoBulkEntry {H : Type} : Lit × DataW H → Nat
  | (.string bytes, d) => bytes.length + uptoBulk d + 1
  | (_, d) => uptoBulk d + 1
 end
def uptoSmall : (H : Type) → List (DataW H) → Bool := fun _ ds => decide (uptoBulkAll ds ≤ 1048576)
def OpenSpec.upto (s : _root_.Go.ChangeSpec) : _root_.Go.OpenSpec := { _root_.Go.OpenSpec.ofChange s with cond := some uptoSmall }

/-- 'taborlaw01.SumsCrc', WHERE WHAT IT READS IS OF BULK AT MOST 1048576: true; the input reads as it did. -/
def sumsCrcUptoRow : OpenClaim := { program := "ytecioakbgggdfaadoor", sum := "8db2a71af98fa7df52b73a9fd0cc1eac43edd629eb93224497fbe7e7d801983f", func := "tabor/taborlaw01.SumsCrc", spec := "sumsCrc", unfollowed := true, recurses := true, named := ["tabor/sums.halves", "internal/strconv.uint64pow10", "math/bits.deBruijn32tab", "math/bits.deBruijn64tab"], apart := false, laid := [("math/bits.deBruijn32tab", laid_math_bits_deBruijn32tab), ("math/bits.deBruijn64tab", laid_math_bits_deBruijn64tab), ("internal/strconv.uint64pow10", laid_internal_strconv_uint64pow10), ("tabor/sums.halves", laid_tabor_sums_halves)], narrowed := true }
def SumsCrcUptoSaid : Prop := sumsCrcUptoRow.holds Tryd.pinned (OpenSpec.upto sumsCrcSpec)

/-- 'taborlaw01.SumsUpdate', WHERE WHAT IT READS IS OF BULK AT MOST 1048576: true; the input reads as it did. -/
def sumsUpdateUptoRow : OpenClaim := { program := "ytecioakbgggdfaadoor", sum := "8db2a71af98fa7df52b73a9fd0cc1eac43edd629eb93224497fbe7e7d801983f", func := "tabor/taborlaw01.SumsUpdate", spec := "sumsUpdate", unfollowed := true, recurses := true, named := ["tabor/sums.halves", "internal/strconv.uint64pow10", "math/bits.deBruijn32tab", "math/bits.deBruijn64tab"], apart := false, laid := [("math/bits.deBruijn32tab", laid_math_bits_deBruijn32tab), ("math/bits.deBruijn64tab", laid_math_bits_deBruijn64tab), ("internal/strconv.uint64pow10", laid_internal_strconv_uint64pow10), ("tabor/sums.halves", laid_tabor_sums_halves)], narrowed := true }
def SumsUpdateUptoSaid : Prop := sumsUpdateUptoRow.holds Tryd.pinned (OpenSpec.upto sumsUpdateSpec)

/-- 'taborlaw01.SumsBytes', WHERE WHAT IT READS IS OF BULK AT MOST 1048576: true; the input reads as it did. -/
def sumsBytesUptoRow : OpenClaim := { program := "ytecioakbgggdfaadoor", sum := "8db2a71af98fa7df52b73a9fd0cc1eac43edd629eb93224497fbe7e7d801983f", func := "tabor/taborlaw01.SumsBytes", spec := "sumsBytes", unfollowed := true, recurses := true, named := ["tabor/sums.halves", "internal/strconv.uint64pow10", "math/bits.deBruijn32tab", "math/bits.deBruijn64tab"], apart := false, laid := [("math/bits.deBruijn32tab", laid_math_bits_deBruijn32tab), ("math/bits.deBruijn64tab", laid_math_bits_deBruijn64tab), ("internal/strconv.uint64pow10", laid_internal_strconv_uint64pow10), ("tabor/sums.halves", laid_tabor_sums_halves)], narrowed := true }
def SumsBytesUptoSaid : Prop := sumsBytesUptoRow.holds Tryd.pinned (OpenSpec.upto sumsBytesSpec)

/-- 'taborlaw01.SumsPads', WHERE WHAT IT READS IS OF BULK AT MOST 1048576: true; the input reads as it did. -/
def sumsPadsUptoRow : OpenClaim := { program := "ytecioakbgggdfaadoor", sum := "8db2a71af98fa7df52b73a9fd0cc1eac43edd629eb93224497fbe7e7d801983f", func := "tabor/taborlaw01.SumsPads", spec := "sumsPads", unfollowed := true, recurses := true, named := ["tabor/sums.halves", "internal/strconv.uint64pow10", "math/bits.deBruijn32tab", "math/bits.deBruijn64tab"], apart := false, laid := [("math/bits.deBruijn32tab", laid_math_bits_deBruijn32tab), ("math/bits.deBruijn64tab", laid_math_bits_deBruijn64tab), ("internal/strconv.uint64pow10", laid_internal_strconv_uint64pow10), ("tabor/sums.halves", laid_tabor_sums_halves)], narrowed := true }
def SumsPadsUptoSaid : Prop := sumsPadsUptoRow.holds Tryd.pinned (OpenSpec.upto sumsPadsSpec)

/-- 'taborlaw01.SumsBlock', WHERE WHAT IT READS IS OF BULK AT MOST 1048576: true; the input reads as it did. -/
def sumsBlockUptoRow : OpenClaim := { program := "ytecioakbgggdfaadoor", sum := "8db2a71af98fa7df52b73a9fd0cc1eac43edd629eb93224497fbe7e7d801983f", func := "tabor/taborlaw01.SumsBlock", spec := "sumsBlock", unfollowed := true, recurses := true, named := ["tabor/sums.halves", "internal/strconv.uint64pow10", "math/bits.deBruijn32tab", "math/bits.deBruijn64tab"], apart := false, laid := [("math/bits.deBruijn32tab", laid_math_bits_deBruijn32tab), ("math/bits.deBruijn64tab", laid_math_bits_deBruijn64tab), ("internal/strconv.uint64pow10", laid_internal_strconv_uint64pow10), ("tabor/sums.halves", laid_tabor_sums_halves)], narrowed := true }
def SumsBlockUptoSaid : Prop := sumsBlockUptoRow.holds Tryd.pinned (OpenSpec.upto sumsBlockSpec)

/-- 'taborlaw01.SumsDigest', WHERE WHAT IT READS IS OF BULK AT MOST 1048576: true; the input reads as it did. -/
def sumsDigestUptoRow : OpenClaim := { program := "ytecioakbgggdfaadoor", sum := "8db2a71af98fa7df52b73a9fd0cc1eac43edd629eb93224497fbe7e7d801983f", func := "tabor/taborlaw01.SumsDigest", spec := "sumsDigest", unfollowed := true, recurses := true, named := ["tabor/sums.halves", "internal/strconv.uint64pow10", "math/bits.deBruijn32tab", "math/bits.deBruijn64tab"], apart := false, laid := [("math/bits.deBruijn32tab", laid_math_bits_deBruijn32tab), ("math/bits.deBruijn64tab", laid_math_bits_deBruijn64tab), ("internal/strconv.uint64pow10", laid_internal_strconv_uint64pow10), ("tabor/sums.halves", laid_tabor_sums_halves)], narrowed := true }
def SumsDigestUptoSaid : Prop := sumsDigestUptoRow.holds Tryd.pinned (OpenSpec.upto sumsDigestSpec)

/-- 'taborlaw01.SumsIs', WHERE WHAT IT READS IS OF BULK AT MOST 1048576: true; the input reads as it did. -/
def sumsIsUptoRow : OpenClaim := { program := "ytecioakbgggdfaadoor", sum := "8db2a71af98fa7df52b73a9fd0cc1eac43edd629eb93224497fbe7e7d801983f", func := "tabor/taborlaw01.SumsIs", spec := "sumsIs", unfollowed := true, recurses := true, named := ["tabor/sums.halves", "internal/strconv.uint64pow10", "math/bits.deBruijn32tab", "math/bits.deBruijn64tab"], apart := false, laid := [("math/bits.deBruijn32tab", laid_math_bits_deBruijn32tab), ("math/bits.deBruijn64tab", laid_math_bits_deBruijn64tab), ("internal/strconv.uint64pow10", laid_internal_strconv_uint64pow10), ("tabor/sums.halves", laid_tabor_sums_halves)], narrowed := true }
def SumsIsUptoSaid : Prop := sumsIsUptoRow.holds Tryd.pinned (OpenSpec.upto sumsIsSpec)

/-- 'taborlaw01.SumsParts', WHERE WHAT IT READS IS OF BULK AT MOST 1048576: true; the input reads as it did. -/
def sumsPartsUptoRow : OpenClaim := { program := "ytecioakbgggdfaadoor", sum := "8db2a71af98fa7df52b73a9fd0cc1eac43edd629eb93224497fbe7e7d801983f", func := "tabor/taborlaw01.SumsParts", spec := "sumsParts", unfollowed := true, recurses := true, named := ["tabor/sums.halves", "internal/strconv.uint64pow10", "math/bits.deBruijn32tab", "math/bits.deBruijn64tab"], apart := false, laid := [("math/bits.deBruijn32tab", laid_math_bits_deBruijn32tab), ("math/bits.deBruijn64tab", laid_math_bits_deBruijn64tab), ("internal/strconv.uint64pow10", laid_internal_strconv_uint64pow10), ("tabor/sums.halves", laid_tabor_sums_halves)], narrowed := true }
def SumsPartsUptoSaid : Prop := sumsPartsUptoRow.holds Tryd.pinned (OpenSpec.upto sumsPartsSpec)

/-- 'taborlaw01.SumsUnlike', WHERE WHAT IT READS IS OF BULK AT MOST 1048576: true; the input reads as it did. -/
def sumsUnlikeUptoRow : OpenClaim := { program := "ytecioakbgggdfaadoor", sum := "8db2a71af98fa7df52b73a9fd0cc1eac43edd629eb93224497fbe7e7d801983f", func := "tabor/taborlaw01.SumsUnlike", spec := "sumsUnlike", unfollowed := true, recurses := true, named := ["tabor/sums.halves", "internal/strconv.uint64pow10", "math/bits.deBruijn32tab", "math/bits.deBruijn64tab"], apart := false, laid := [("math/bits.deBruijn32tab", laid_math_bits_deBruijn32tab), ("math/bits.deBruijn64tab", laid_math_bits_deBruijn64tab), ("internal/strconv.uint64pow10", laid_internal_strconv_uint64pow10), ("tabor/sums.halves", laid_tabor_sums_halves)], narrowed := true }
def SumsUnlikeUptoSaid : Prop := sumsUnlikeUptoRow.holds Tryd.pinned (OpenSpec.upto sumsUnlikeSpec)

end Rows
end Go.Proofs.YtecioakbgggdfaaDoor
