/-
  NARROWER THAN 'FOR EVERY INPUT', by the rows' own cells (each row's printed sentence says how): RespRequest: laid · RespParse: laid · RespEncode: loops, laid · RespDecode: laid · RespSame: loops, laid · RespReads: laid · RespBounds: laid · RespBack: loops, laid · RespAgain: laid.
  DERIVED. THE GIVEN ROWS OF THIS SEAT. 9 by the template 'for every input the law returns true; each argument reads behind the call as it read before'; 0 by the template 'total and deterministic' (their statements: YtglicojojpggmaaDoorTotals.lean).
  GIVEN WITH THE SEED: the statements are not yours to turn. If you find one false, say at which input.
  Laid BY PROGRAM, IN A SANDBOX (cutbox-rows.mjs): the forced cells as the released guide's own fill.sh prints them over the translation a1b6d8e062e50ea1… (all of the seat's roots in one cut). By AI agents, Wed Nov 11 2026. No macro, syntax, notation, axiom, sorry.
-/
import Derived.Test.YtglicojojpggmaaDoorChecked
import GoSem.Claim
import GoSem.ClaimJoined
import GoSem.ClaimMapViews
import Derived.JoinedTies
import Derived.KernelRfl
namespace Go.Proofs.YtglicojojpggmaaDoor
/- THE CELL 'sum', in the pinned program and in every row, IS THE sha256 OF THE DUMP (.gsa) THAT YtglicojojpggmaaDoorProg.lean LOADS. Nothing in Lean hashes anything: it is a label: what it is worth is what the hold of that sum in a sandbox is worth. -/
noncomputable def Tryd.pinned : Pinned := { name := "ytglicojojpggmaadoor", sum := "a1b6d8e062e50ea1a963ad696abebe7da52bdf451203c358dbc34ee069f1d1a4", checked := Tryd.checked }
namespace Rows
def none {H : Type} : Left H := { results := [], args := [] }

/- WHAT THE LISTED PACKAGE-LEVEL VARIABLES READ AS WHEN THE CALL BEGINS. Each datum BY PROGRAM (the guide's laid-datum.mjs) off the statement by which the dump's own 'gosem.cut.vars' lays the variable. In a bare row this is a premise. The card (YtglicojojpggmaaDoorCards.lean) ties it to the program's text. -/
def laid_math_bits_deBruijn32tab {H : Type} : DataW H := .agg [.lit (.int .u8 0), .lit (.int .u8 1), .lit (.int .u8 28), .lit (.int .u8 2), .lit (.int .u8 29), .lit (.int .u8 14), .lit (.int .u8 24), .lit (.int .u8 3), .lit (.int .u8 30), .lit (.int .u8 22), .lit (.int .u8 20), .lit (.int .u8 15), .lit (.int .u8 25), .lit (.int .u8 17), .lit (.int .u8 4), .lit (.int .u8 8), .lit (.int .u8 31), .lit (.int .u8 27), .lit (.int .u8 13), .lit (.int .u8 23), .lit (.int .u8 21), .lit (.int .u8 19), .lit (.int .u8 16), .lit (.int .u8 7), .lit (.int .u8 26), .lit (.int .u8 12), .lit (.int .u8 18), .lit (.int .u8 6), .lit (.int .u8 11), .lit (.int .u8 5), .lit (.int .u8 10), .lit (.int .u8 9)]
def laid_math_bits_deBruijn64tab {H : Type} : DataW H := .agg [.lit (.int .u8 0), .lit (.int .u8 1), .lit (.int .u8 56), .lit (.int .u8 2), .lit (.int .u8 57), .lit (.int .u8 49), .lit (.int .u8 28), .lit (.int .u8 3), .lit (.int .u8 61), .lit (.int .u8 58), .lit (.int .u8 42), .lit (.int .u8 50), .lit (.int .u8 38), .lit (.int .u8 29), .lit (.int .u8 17), .lit (.int .u8 4), .lit (.int .u8 62), .lit (.int .u8 47), .lit (.int .u8 59), .lit (.int .u8 36), .lit (.int .u8 45), .lit (.int .u8 43), .lit (.int .u8 51), .lit (.int .u8 22), .lit (.int .u8 53), .lit (.int .u8 39), .lit (.int .u8 33), .lit (.int .u8 30), .lit (.int .u8 24), .lit (.int .u8 18), .lit (.int .u8 12), .lit (.int .u8 5), .lit (.int .u8 63), .lit (.int .u8 55), .lit (.int .u8 48), .lit (.int .u8 27), .lit (.int .u8 60), .lit (.int .u8 41), .lit (.int .u8 37), .lit (.int .u8 16), .lit (.int .u8 46), .lit (.int .u8 35), .lit (.int .u8 44), .lit (.int .u8 21), .lit (.int .u8 52), .lit (.int .u8 32), .lit (.int .u8 23), .lit (.int .u8 11), .lit (.int .u8 54), .lit (.int .u8 26), .lit (.int .u8 40), .lit (.int .u8 15), .lit (.int .u8 34), .lit (.int .u8 20), .lit (.int .u8 31), .lit (.int .u8 10), .lit (.int .u8 25), .lit (.int .u8 14), .lit (.int .u8 19), .lit (.int .u8 9), .lit (.int .u8 13), .lit (.int .u8 8), .lit (.int .u8 7), .lit (.int .u8 6)]
def laid_internal_strconv_uint64pow10 {H : Type} : DataW H := .agg [.lit (.int .u64 1), .lit (.int .u64 10), .lit (.int .u64 100), .lit (.int .u64 1000), .lit (.int .u64 10000), .lit (.int .u64 100000), .lit (.int .u64 1000000), .lit (.int .u64 10000000), .lit (.int .u64 100000000), .lit (.int .u64 1000000000), .lit (.int .u64 10000000000), .lit (.int .u64 100000000000), .lit (.int .u64 1000000000000), .lit (.int .u64 10000000000000), .lit (.int .u64 100000000000000), .lit (.int .u64 1000000000000000), .lit (.int .u64 10000000000000000), .lit (.int .u64 100000000000000000), .lit (.int .u64 1000000000000000000), .lit (.int .u64 10000000000000000000)]

/-- 'taborlaw04.RespRequest': WHATEVER THE INPUT: true; the input reads as it did. -/
def respRequestSpec : ChangeSpec := { name := "respRequest", fn := fun _ => fun
  | [d] => { results := [.lit (.bool true)], args := [d] }
  | _ => none }
def respRequestRow : OpenClaim := { program := "ytglicojojpggmaadoor", sum := "a1b6d8e062e50ea1a963ad696abebe7da52bdf451203c358dbc34ee069f1d1a4", func := "tabor/taborlaw04.RespRequest", spec := "respRequest", unfollowed := true, recurses := true, named := ["internal/strconv.uint64pow10", "math/bits.deBruijn32tab", "math/bits.deBruijn64tab"], apart := false, laid := [("math/bits.deBruijn32tab", laid_math_bits_deBruijn32tab), ("math/bits.deBruijn64tab", laid_math_bits_deBruijn64tab), ("internal/strconv.uint64pow10", laid_internal_strconv_uint64pow10)] }
def RespRequestSaid : Prop := respRequestRow.holds Tryd.pinned (OpenSpec.ofChange respRequestSpec)

/-- ITS FALSE NEIGHBOUR: 'it returns false'. Refute it at one input. -/
def respRequestWrong : ChangeSpec := { name := "respRequest", fn := fun _ => fun
  | [d] => { results := [.lit (.bool false)], args := [d] }
  | _ => none }
def RespRequestWrongFalsely : Prop := respRequestRow.holds Tryd.pinned (OpenSpec.ofChange respRequestWrong)

/-- 'taborlaw04.RespParse': WHATEVER THE INPUT: true; the input reads as it did. -/
def respParseSpec : ChangeSpec := { name := "respParse", fn := fun _ => fun
  | [d] => { results := [.lit (.bool true)], args := [d] }
  | _ => none }
def respParseRow : OpenClaim := { program := "ytglicojojpggmaadoor", sum := "a1b6d8e062e50ea1a963ad696abebe7da52bdf451203c358dbc34ee069f1d1a4", func := "tabor/taborlaw04.RespParse", spec := "respParse", unfollowed := true, recurses := true, named := ["internal/strconv.uint64pow10", "math/bits.deBruijn32tab", "math/bits.deBruijn64tab"], apart := false, laid := [("math/bits.deBruijn32tab", laid_math_bits_deBruijn32tab), ("math/bits.deBruijn64tab", laid_math_bits_deBruijn64tab), ("internal/strconv.uint64pow10", laid_internal_strconv_uint64pow10)] }
def RespParseSaid : Prop := respParseRow.holds Tryd.pinned (OpenSpec.ofChange respParseSpec)

/-- ITS FALSE NEIGHBOUR: 'it returns false'. Refute it at one input. -/
def respParseWrong : ChangeSpec := { name := "respParse", fn := fun _ => fun
  | [d] => { results := [.lit (.bool false)], args := [d] }
  | _ => none }
def RespParseWrongFalsely : Prop := respParseRow.holds Tryd.pinned (OpenSpec.ofChange respParseWrong)

/-- 'taborlaw04.RespEncode': WHATEVER THE INPUT: true; the input reads as it did. -/
def respEncodeSpec : ChangeSpec := { name := "respEncode", fn := fun _ => fun
  | [d] => { results := [.lit (.bool true)], args := [d] }
  | _ => none }
def respEncodeRow : OpenClaim := { program := "ytglicojojpggmaadoor", sum := "a1b6d8e062e50ea1a963ad696abebe7da52bdf451203c358dbc34ee069f1d1a4", func := "tabor/taborlaw04.RespEncode", spec := "respEncode", unfollowed := true, recurses := true, named := ["internal/strconv.uint64pow10", "math/bits.deBruijn32tab", "math/bits.deBruijn64tab"], loops := true, apart := false, laid := [("math/bits.deBruijn32tab", laid_math_bits_deBruijn32tab), ("math/bits.deBruijn64tab", laid_math_bits_deBruijn64tab), ("internal/strconv.uint64pow10", laid_internal_strconv_uint64pow10)] }
def RespEncodeSaid : Prop := respEncodeRow.holds Tryd.pinned (OpenSpec.ofChange respEncodeSpec)

/-- ITS FALSE NEIGHBOUR: 'it returns false'. Refute it at one input. -/
def respEncodeWrong : ChangeSpec := { name := "respEncode", fn := fun _ => fun
  | [d] => { results := [.lit (.bool false)], args := [d] }
  | _ => none }
def RespEncodeWrongFalsely : Prop := respEncodeRow.holds Tryd.pinned (OpenSpec.ofChange respEncodeWrong)

/-- 'taborlaw04.RespDecode': WHATEVER THE INPUT: true; the input reads as it did. -/
def respDecodeSpec : ChangeSpec := { name := "respDecode", fn := fun _ => fun
  | [d] => { results := [.lit (.bool true)], args := [d] }
  | _ => none }
def respDecodeRow : OpenClaim := { program := "ytglicojojpggmaadoor", sum := "a1b6d8e062e50ea1a963ad696abebe7da52bdf451203c358dbc34ee069f1d1a4", func := "tabor/taborlaw04.RespDecode", spec := "respDecode", unfollowed := true, recurses := true, named := ["internal/strconv.uint64pow10", "math/bits.deBruijn32tab", "math/bits.deBruijn64tab"], apart := false, laid := [("math/bits.deBruijn32tab", laid_math_bits_deBruijn32tab), ("math/bits.deBruijn64tab", laid_math_bits_deBruijn64tab), ("internal/strconv.uint64pow10", laid_internal_strconv_uint64pow10)] }
def RespDecodeSaid : Prop := respDecodeRow.holds Tryd.pinned (OpenSpec.ofChange respDecodeSpec)

/-- ITS FALSE NEIGHBOUR: 'it returns false'. Refute it at one input. -/
def respDecodeWrong : ChangeSpec := { name := "respDecode", fn := fun _ => fun
  | [d] => { results := [.lit (.bool false)], args := [d] }
  | _ => none }
def RespDecodeWrongFalsely : Prop := respDecodeRow.holds Tryd.pinned (OpenSpec.ofChange respDecodeWrong)

/-- 'taborlaw04.RespSame': WHATEVER THE INPUT: true; the input reads as it did. -/
def respSameSpec : ChangeSpec := { name := "respSame", fn := fun _ => fun
  | [d1, d2] => { results := [.lit (.bool true)], args := [d1, d2] }
  | _ => none }
def respSameRow : OpenClaim := { program := "ytglicojojpggmaadoor", sum := "a1b6d8e062e50ea1a963ad696abebe7da52bdf451203c358dbc34ee069f1d1a4", func := "tabor/taborlaw04.RespSame", spec := "respSame", unfollowed := true, recurses := true, named := ["internal/strconv.uint64pow10", "math/bits.deBruijn32tab", "math/bits.deBruijn64tab"], loops := true, apart := false, laid := [("math/bits.deBruijn32tab", laid_math_bits_deBruijn32tab), ("math/bits.deBruijn64tab", laid_math_bits_deBruijn64tab), ("internal/strconv.uint64pow10", laid_internal_strconv_uint64pow10)] }
def RespSameSaid : Prop := respSameRow.holds Tryd.pinned (OpenSpec.ofChange respSameSpec)

/-- ITS FALSE NEIGHBOUR: 'it returns false'. Refute it at one input. -/
def respSameWrong : ChangeSpec := { name := "respSame", fn := fun _ => fun
  | [d1, d2] => { results := [.lit (.bool false)], args := [d1, d2] }
  | _ => none }
def RespSameWrongFalsely : Prop := respSameRow.holds Tryd.pinned (OpenSpec.ofChange respSameWrong)

/-- 'taborlaw04.RespReads': WHATEVER THE INPUT: true; the input reads as it did. -/
def respReadsSpec : ChangeSpec := { name := "respReads", fn := fun _ => fun
  | [d] => { results := [.lit (.bool true)], args := [d] }
  | _ => none }
def respReadsRow : OpenClaim := { program := "ytglicojojpggmaadoor", sum := "a1b6d8e062e50ea1a963ad696abebe7da52bdf451203c358dbc34ee069f1d1a4", func := "tabor/taborlaw04.RespReads", spec := "respReads", unfollowed := true, recurses := true, named := ["internal/strconv.uint64pow10", "math/bits.deBruijn32tab", "math/bits.deBruijn64tab"], apart := false, laid := [("math/bits.deBruijn32tab", laid_math_bits_deBruijn32tab), ("math/bits.deBruijn64tab", laid_math_bits_deBruijn64tab), ("internal/strconv.uint64pow10", laid_internal_strconv_uint64pow10)] }
def RespReadsSaid : Prop := respReadsRow.holds Tryd.pinned (OpenSpec.ofChange respReadsSpec)

/-- ITS FALSE NEIGHBOUR: 'it returns false'. Refute it at one input. -/
def respReadsWrong : ChangeSpec := { name := "respReads", fn := fun _ => fun
  | [d] => { results := [.lit (.bool false)], args := [d] }
  | _ => none }
def RespReadsWrongFalsely : Prop := respReadsRow.holds Tryd.pinned (OpenSpec.ofChange respReadsWrong)

/-- 'taborlaw04.RespBounds': WHATEVER THE INPUT: true; the input reads as it did. -/
def respBoundsSpec : ChangeSpec := { name := "respBounds", fn := fun _ => fun
  | [] => { results := [.lit (.bool true)], args := [] }
  | _ => none }
def respBoundsRow : OpenClaim := { program := "ytglicojojpggmaadoor", sum := "a1b6d8e062e50ea1a963ad696abebe7da52bdf451203c358dbc34ee069f1d1a4", func := "tabor/taborlaw04.RespBounds", spec := "respBounds", unfollowed := true, recurses := true, named := ["internal/strconv.uint64pow10", "math/bits.deBruijn32tab", "math/bits.deBruijn64tab"], apart := false, laid := [("math/bits.deBruijn32tab", laid_math_bits_deBruijn32tab), ("math/bits.deBruijn64tab", laid_math_bits_deBruijn64tab), ("internal/strconv.uint64pow10", laid_internal_strconv_uint64pow10)] }
def RespBoundsSaid : Prop := respBoundsRow.holds Tryd.pinned (OpenSpec.ofChange respBoundsSpec)

/-- ITS FALSE NEIGHBOUR: 'it returns false'. Refute it at one input. -/
def respBoundsWrong : ChangeSpec := { name := "respBounds", fn := fun _ => fun
  | [] => { results := [.lit (.bool false)], args := [] }
  | _ => none }
def RespBoundsWrongFalsely : Prop := respBoundsRow.holds Tryd.pinned (OpenSpec.ofChange respBoundsWrong)

/-- 'taborlaw04.RespBack': WHATEVER THE INPUT: true; the input reads as it did. -/
def respBackSpec : ChangeSpec := { name := "respBack", fn := fun _ => fun
  | [d1, d2, d3, d4] => { results := [.lit (.bool true)], args := [d1, d2, d3, d4] }
  | _ => none }
def respBackRow : OpenClaim := { program := "ytglicojojpggmaadoor", sum := "a1b6d8e062e50ea1a963ad696abebe7da52bdf451203c358dbc34ee069f1d1a4", func := "tabor/taborlaw04.RespBack", spec := "respBack", unfollowed := true, recurses := true, named := ["internal/strconv.uint64pow10", "math/bits.deBruijn32tab", "math/bits.deBruijn64tab"], loops := true, apart := false, laid := [("math/bits.deBruijn32tab", laid_math_bits_deBruijn32tab), ("math/bits.deBruijn64tab", laid_math_bits_deBruijn64tab), ("internal/strconv.uint64pow10", laid_internal_strconv_uint64pow10)] }
def RespBackSaid : Prop := respBackRow.holds Tryd.pinned (OpenSpec.ofChange respBackSpec)

/-- ITS FALSE NEIGHBOUR: 'it returns false'. Refute it at one input. -/
def respBackWrong : ChangeSpec := { name := "respBack", fn := fun _ => fun
  | [d1, d2, d3, d4] => { results := [.lit (.bool false)], args := [d1, d2, d3, d4] }
  | _ => none }
def RespBackWrongFalsely : Prop := respBackRow.holds Tryd.pinned (OpenSpec.ofChange respBackWrong)

/-- 'taborlaw04.RespAgain': WHATEVER THE INPUT: true; the input reads as it did. -/
def respAgainSpec : ChangeSpec := { name := "respAgain", fn := fun _ => fun
  | [d1, d2] => { results := [.lit (.bool true)], args := [d1, d2] }
  | _ => none }
def respAgainRow : OpenClaim := { program := "ytglicojojpggmaadoor", sum := "a1b6d8e062e50ea1a963ad696abebe7da52bdf451203c358dbc34ee069f1d1a4", func := "tabor/taborlaw04.RespAgain", spec := "respAgain", unfollowed := true, recurses := true, named := ["internal/strconv.uint64pow10", "math/bits.deBruijn32tab", "math/bits.deBruijn64tab"], apart := false, laid := [("math/bits.deBruijn32tab", laid_math_bits_deBruijn32tab), ("math/bits.deBruijn64tab", laid_math_bits_deBruijn64tab), ("internal/strconv.uint64pow10", laid_internal_strconv_uint64pow10)] }
def RespAgainSaid : Prop := respAgainRow.holds Tryd.pinned (OpenSpec.ofChange respAgainSpec)

/-- ITS FALSE NEIGHBOUR: 'it returns false'. Refute it at one input. -/
def respAgainWrong : ChangeSpec := { name := "respAgain", fn := fun _ => fun
  | [d1, d2] => { results := [.lit (.bool false)], args := [d1, d2] }
  | _ => none }
def RespAgainWrongFalsely : Prop := respAgainRow.holds Tryd.pinned (OpenSpec.ofChange respAgainWrong)

/- THE SECOND FORM. 'bulk': how many values and letters a reading holds, each counted each time it is reached (what is shared counts as often as it is met; a slice's spare places count too). A statement '..UptoSaid' is the law's where the arguments, and the package variables that the reading takes, are together of bulk at most 1048576: NARROWER than '..Said'. Prove '..Said' where nothing that the law and all that it calls make is longer than what came in: it says more and counts as full. Else prove '..UptoSaid'. A law counts once. -/
mutual
def uptoBulk {H : Type} : DataW H → Nat
  | .lit (.string bytes) => bytes.length + 1
  | .lit _ => 1
  | .nil => 1
  | .ptr d => uptoBulk d + 1
  | .slice elems spare => uptoBulkAll elems + uptoBulkAll spare + 1
  | .agg parts => uptoBulkAll parts + 1
  | .iface _ d => uptoBulk d + 1
  | .map entries => uptoBulkEntries entries + 1
  | .held _ => 1
def uptoBulkAll {H : Type} : List (DataW H) → Nat
  | [] => 0
  | d :: r => uptoBulk d + uptoBulkAll r
def uptoBulkEntries {H : Type} : List (Lit × DataW H) → Nat
  | [] => 0
  | x :: r => uptoBulkEntry x + uptoBulkEntries r
def uptoBulkEntry {H : Type} : Lit × DataW H → Nat
  | (.string bytes, d) => bytes.length + uptoBulk d + 1
  | (_, d) => uptoBulk d + 1
 end
def uptoSmall : (H : Type) → List (DataW H) → Bool := fun _ ds => decide (uptoBulkAll ds ≤ 1048576)
def OpenSpec.upto (s : _root_.Go.ChangeSpec) : _root_.Go.OpenSpec := { _root_.Go.OpenSpec.ofChange s with cond := some uptoSmall }

/-- 'taborlaw04.RespRequest', WHERE WHAT IT READS IS OF BULK AT MOST 1048576: true; the input reads as it did. -/
def respRequestUptoRow : OpenClaim := { program := "ytglicojojpggmaadoor", sum := "a1b6d8e062e50ea1a963ad696abebe7da52bdf451203c358dbc34ee069f1d1a4", func := "tabor/taborlaw04.RespRequest", spec := "respRequest", unfollowed := true, recurses := true, named := ["internal/strconv.uint64pow10", "math/bits.deBruijn32tab", "math/bits.deBruijn64tab"], apart := false, laid := [("math/bits.deBruijn32tab", laid_math_bits_deBruijn32tab), ("math/bits.deBruijn64tab", laid_math_bits_deBruijn64tab), ("internal/strconv.uint64pow10", laid_internal_strconv_uint64pow10)], narrowed := true }
def RespRequestUptoSaid : Prop := respRequestUptoRow.holds Tryd.pinned (OpenSpec.upto respRequestSpec)

/-- 'taborlaw04.RespParse', WHERE WHAT IT READS IS OF BULK AT MOST 1048576: true; the input reads as it did. -/
def respParseUptoRow : OpenClaim := { program := "ytglicojojpggmaadoor", sum := "a1b6d8e062e50ea1a963ad696abebe7da52bdf451203c358dbc34ee069f1d1a4", func := "tabor/taborlaw04.RespParse", spec := "respParse", unfollowed := true, recurses := true, named := ["internal/strconv.uint64pow10", "math/bits.deBruijn32tab", "math/bits.deBruijn64tab"], apart := false, laid := [("math/bits.deBruijn32tab", laid_math_bits_deBruijn32tab), ("math/bits.deBruijn64tab", laid_math_bits_deBruijn64tab), ("internal/strconv.uint64pow10", laid_internal_strconv_uint64pow10)], narrowed := true }
def RespParseUptoSaid : Prop := respParseUptoRow.holds Tryd.pinned (OpenSpec.upto respParseSpec)

/-- 'taborlaw04.RespEncode', WHERE WHAT IT READS IS OF BULK AT MOST 1048576: true; the input reads as it did. -/
def respEncodeUptoRow : OpenClaim := { program := "ytglicojojpggmaadoor", sum := "a1b6d8e062e50ea1a963ad696abebe7da52bdf451203c358dbc34ee069f1d1a4", func := "tabor/taborlaw04.RespEncode", spec := "respEncode", unfollowed := true, recurses := true, named := ["internal/strconv.uint64pow10", "math/bits.deBruijn32tab", "math/bits.deBruijn64tab"], loops := true, apart := false, laid := [("math/bits.deBruijn32tab", laid_math_bits_deBruijn32tab), ("math/bits.deBruijn64tab", laid_math_bits_deBruijn64tab), ("internal/strconv.uint64pow10", laid_internal_strconv_uint64pow10)], narrowed := true }
def RespEncodeUptoSaid : Prop := respEncodeUptoRow.holds Tryd.pinned (OpenSpec.upto respEncodeSpec)

/-- 'taborlaw04.RespDecode', WHERE WHAT IT READS IS OF BULK AT MOST 1048576: true; the input reads as it did. -/
def respDecodeUptoRow : OpenClaim := { program := "ytglicojojpggmaadoor", sum := "a1b6d8e062e50ea1a963ad696abebe7da52bdf451203c358dbc34ee069f1d1a4", func := "tabor/taborlaw04.RespDecode", spec := "respDecode", unfollowed := true, recurses := true, named := ["internal/strconv.uint64pow10", "math/bits.deBruijn32tab", "math/bits.deBruijn64tab"], apart := false, laid := [("math/bits.deBruijn32tab", laid_math_bits_deBruijn32tab), ("math/bits.deBruijn64tab", laid_math_bits_deBruijn64tab), ("internal/strconv.uint64pow10", laid_internal_strconv_uint64pow10)], narrowed := true }
def RespDecodeUptoSaid : Prop := respDecodeUptoRow.holds Tryd.pinned (OpenSpec.upto respDecodeSpec)

/-- 'taborlaw04.RespSame', WHERE WHAT IT READS IS OF BULK AT MOST 1048576: true; the input reads as it did. -/
def respSameUptoRow : OpenClaim := { program := "ytglicojojpggmaadoor", sum := "a1b6d8e062e50ea1a963ad696abebe7da52bdf451203c358dbc34ee069f1d1a4", func := "tabor/taborlaw04.RespSame", spec := "respSame", unfollowed := true, recurses := true, named := ["internal/strconv.uint64pow10", "math/bits.deBruijn32tab", "math/bits.deBruijn64tab"], loops := true, apart := false, laid := [("math/bits.deBruijn32tab", laid_math_bits_deBruijn32tab), ("math/bits.deBruijn64tab", laid_math_bits_deBruijn64tab), ("internal/strconv.uint64pow10", laid_internal_strconv_uint64pow10)], narrowed := true }
def RespSameUptoSaid : Prop := respSameUptoRow.holds Tryd.pinned (OpenSpec.upto respSameSpec)

/-- 'taborlaw04.RespReads', WHERE WHAT IT READS IS OF BULK AT MOST 1048576: true; the input reads as it did. -/
def respReadsUptoRow : OpenClaim := { program := "ytglicojojpggmaadoor", sum := "a1b6d8e062e50ea1a963ad696abebe7da52bdf451203c358dbc34ee069f1d1a4", func := "tabor/taborlaw04.RespReads", spec := "respReads", unfollowed := true, recurses := true, named := ["internal/strconv.uint64pow10", "math/bits.deBruijn32tab", "math/bits.deBruijn64tab"], apart := false, laid := [("math/bits.deBruijn32tab", laid_math_bits_deBruijn32tab), ("math/bits.deBruijn64tab", laid_math_bits_deBruijn64tab), ("internal/strconv.uint64pow10", laid_internal_strconv_uint64pow10)], narrowed := true }
def RespReadsUptoSaid : Prop := respReadsUptoRow.holds Tryd.pinned (OpenSpec.upto respReadsSpec)

/-- 'taborlaw04.RespBounds', WHERE WHAT IT READS IS OF BULK AT MOST 1048576: true; the input reads as it did. -/
def respBoundsUptoRow : OpenClaim := { program := "ytglicojojpggmaadoor", sum := "a1b6d8e062e50ea1a963ad696abebe7da52bdf451203c358dbc34ee069f1d1a4", func := "tabor/taborlaw04.RespBounds", spec := "respBounds", unfollowed := true, recurses := true, named := ["internal/strconv.uint64pow10", "math/bits.deBruijn32tab", "math/bits.deBruijn64tab"], apart := false, laid := [("math/bits.deBruijn32tab", laid_math_bits_deBruijn32tab), ("math/bits.deBruijn64tab", laid_math_bits_deBruijn64tab), ("internal/strconv.uint64pow10", laid_internal_strconv_uint64pow10)], narrowed := true }
def RespBoundsUptoSaid : Prop := respBoundsUptoRow.holds Tryd.pinned (OpenSpec.upto respBoundsSpec)

/-- 'taborlaw04.RespBack', WHERE WHAT IT READS IS OF BULK AT MOST 1048576: true; the input reads as it did. -/
def respBackUptoRow : OpenClaim := { program := "ytglicojojpggmaadoor", sum := "a1b6d8e062e50ea1a963ad696abebe7da52bdf451203c358dbc34ee069f1d1a4", func := "tabor/taborlaw04.RespBack", spec := "respBack", unfollowed := true, recurses := true, named := ["internal/strconv.uint64pow10", "math/bits.deBruijn32tab", "math/bits.deBruijn64tab"], loops := true, apart := false, laid := [("math/bits.deBruijn32tab", laid_math_bits_deBruijn32tab), ("math/bits.deBruijn64tab", laid_math_bits_deBruijn64tab), ("internal/strconv.uint64pow10", laid_internal_strconv_uint64pow10)], narrowed := true }
def RespBackUptoSaid : Prop := respBackUptoRow.holds Tryd.pinned (OpenSpec.upto respBackSpec)

/-- 'taborlaw04.RespAgain', WHERE WHAT IT READS IS OF BULK AT MOST 1048576: true; the input reads as it did. -/
def respAgainUptoRow : OpenClaim := { program := "ytglicojojpggmaadoor", sum := "a1b6d8e062e50ea1a963ad696abebe7da52bdf451203c358dbc34ee069f1d1a4", func := "tabor/taborlaw04.RespAgain", spec := "respAgain", unfollowed := true, recurses := true, named := ["internal/strconv.uint64pow10", "math/bits.deBruijn32tab", "math/bits.deBruijn64tab"], apart := false, laid := [("math/bits.deBruijn32tab", laid_math_bits_deBruijn32tab), ("math/bits.deBruijn64tab", laid_math_bits_deBruijn64tab), ("internal/strconv.uint64pow10", laid_internal_strconv_uint64pow10)], narrowed := true }
def RespAgainUptoSaid : Prop := respAgainUptoRow.holds Tryd.pinned (OpenSpec.upto respAgainSpec)

end Rows
end Go.Proofs.YtglicojojpggmaaDoor
