/- The tables that are laid where numbers are told; a world that holds them. -/
import Derived.Test.YtejicjcdbfjajaaDoorFrame
import Derived.Test.YtejicjcdbfjajaaDoorPt
namespace Go.Proofs.YtejicjcdbfjajaaDoor
open Go Go.RowKit
open Go.ChangeShapes Go.WideShapes Go.ChangeAt Go.Deep
theorem gPowTP : (Tryd.prog.globals[2]?).map (·.type) = some 126 := by kernel_rfl
theorem cells126 : Tryd.prog.cellsOf 126 = 20 := by kernel_rfl
theorem cells109 : Tryd.prog.cellsOf 109 = 1 := by kernel_rfl
def bits64L : List Int := [0, 1, 56, 2, 57, 49, 28, 3, 61, 58, 42, 50, 38, 29, 17, 4, 62, 47, 59, 36, 45, 43, 51, 22, 53, 39, 33, 30, 24, 18, 12, 5, 63, 55, 48, 27, 60, 41, 37, 16, 46, 35, 44, 21, 52, 32, 23, 11, 54, 26, 40, 15, 34, 20, 31, 10, 25, 14, 19, 9, 13, 8, 7, 6]
def bits32L : List Int := [0, 1, 28, 2, 29, 14, 24, 3, 30, 22, 20, 15, 25, 17, 4, 8, 31, 27, 13, 23, 21, 19, 16, 7, 26, 12, 18, 6, 11, 5, 10, 9]
def pow10L : List Int := (List.range 20).map fun i => ((10 ^ i : Nat) : Int)
def laidLP : List (String × DataW Unit) := Rows.wordsPrintRow.laid
/-- A world for the witness. -/
noncomputable def laidWorldP (os : Os) : World :=
  let h2 := (laidWorld os).heap
  let h3 := h2.modify 2 (fun | .cells _ t frozen => .cells (pow10L.map fun z => Value.int .u64 z).toArray t frozen | o => o)
  let h4 := h3.modify 4 (fun | .cells _ t frozen => .cells (bits32L.map fun z => Value.int .u8 z).toArray t frozen | o => o)
  let h5 := h4.modify 5 (fun | .cells _ t frozen => .cells (bits64L.map fun z => Value.int .u8 z).toArray t frozen | o => o)
  { laidWorld os with heap := h5 }
theorem laid_metP (os : Os) (args : Array Value) : laidMet Tryd.prog laidLP ((laidWorldP os).forCall (fun _ _ => 0) ⟨#[], args, []⟩).memory :=
  laidMet_of_run3 10 (by kernel_rfl) (by kernel_rfl) (by kernel_rfl)
theorem laid_spcP {W : World} (h : laidMetH Tryd.prog laidLP W) : SPC W := by
  have h1 := laidMetH.filter (fun x => x.1 == "strings.asciiSpace") h
  have e : laidLP.filter (fun x => x.1 == "strings.asciiSpace") = [("strings.asciiSpace", Lib.tabData .u8 Lib.asciiSpaceTab)] := by kernel_rfl
  rw [e] at h1
  exact Lib.tabIs_of_head (rest := []) gSpc gSpcT Tryd.underlying93 Tryd.underlying5 Go.Proofs.YtejicjcdbfjajaaDoor.cells5 cells93 h1
theorem laid_powP {W : World} (h : laidMetH Tryd.prog laidLP W) : TAB W := by
  have h1 := laidMetH.filter (fun x => x.1 == "internal/strconv.uint64pow10") h
  have e : laidLP.filter (fun x => x.1 == "internal/strconv.uint64pow10") = [("internal/strconv.uint64pow10", Lib.tabData .u64 Lib.pow10Tab)] := by kernel_rfl
  rw [e] at h1
  exact Lib.tabIs_of_head (rest := []) gPow' gPowTP Tryd.underlying126 Tryd.underlying109 cells109 cells126 h1
end Go.Proofs.YtejicjcdbfjajaaDoor
