/- What the rows of this seat share: the tables that are laid, a world that holds them. -/
import Derived.Test.YtccofgdcpmplmaaDoorKno
import Derived.Test.YtccofgdcpmplmaaDoorCards
import Derived.Test.YtccofgdcpmplmaaDoorTie
import Derived.ProofKit
import Derived.OpenShut
import Derived.ShutString
import Derived.ChangeOld
import Derived.Deep.DeepHandedRow
import Derived.Deep.DeepWitnessRowRef
import Derived.Deep.DeepLaidRun
import Derived.Lib.LaidTab
import Derived.Lib.SpaceR
namespace Go.Proofs.YtccofgdcpmplmaaDoor
open Go Go.RowKit
open Go.ChangeShapes Go.WideShapes Go.ChangeAt Go.Deep
theorem own : ownKnob Tryd.prog.godebug = none := by kernel_rfl
theorem laidOut : laidOutB Tryd.prog = true := by kernel_rfl
theorem gSpcT : (Tryd.prog.globals[4]?).map (·.type) = some 114 := by kernel_rfl
theorem cells114 : Tryd.prog.cellsOf 114 = 256 := by kernel_rfl
def bits64L : List Int := [0, 1, 56, 2, 57, 49, 28, 3, 61, 58, 42, 50, 38, 29, 17, 4, 62, 47, 59, 36, 45, 43, 51, 22, 53, 39, 33, 30, 24, 18, 12, 5, 63, 55, 48, 27, 60, 41, 37, 16, 46, 35, 44, 21, 52, 32, 23, 11, 54, 26, 40, 15, 34, 20, 31, 10, 25, 14, 19, 9, 13, 8, 7, 6]
def bits32L : List Int := [0, 1, 28, 2, 29, 14, 24, 3, 30, 22, 20, 15, 25, 17, 4, 8, 31, 27, 13, 23, 21, 19, 16, 7, 26, 12, 18, 6, 11, 5, 10, 9]
def pow10L : List Int := (List.range 20).map fun i => ((10 ^ i : Nat) : Int)
def laidL : List (String × DataW Unit) := Rows.codeSameRow.laid
/-- A world for the witness: the settled one with two blocks more (the ranges of unicode.White_Space; its table), and what the initialisers lay. -/
noncomputable def laidWorld (os : Os) : World :=
  let M := (World.settled Tryd.prog os).heap.size
  let w0 := World.holding Tryd.prog os ⟨#[.cells (Lib.whiteT.map fun (z : Nat) => Value.int .u16 (z : Int)).toArray 128, .cells #[.slice (some ⟨M, 0, none⟩) 7 7, .slice none 0 0, .int .i64 2] 125], #[], []⟩
  let h1 := w0.heap.modify 4 (fun | .cells _ t frozen => .cells (Lib.asciiSpaceTab.map fun z => Value.int .u8 z).toArray t frozen | o => o)
  let h2 := h1.modify 5 (fun | .cells _ t frozen => .cells #[.pointer (some ⟨M + 1, 0, none⟩)] t frozen | o => o)
  let h3 := h2.modify 0 (fun | .cells _ t frozen => .cells (pow10L.map fun z => Value.int .u64 z).toArray t frozen | o => o)
  let h4 := h3.modify 2 (fun | .cells _ t frozen => .cells (bits32L.map fun z => Value.int .u8 z).toArray t frozen | o => o)
  let h5 := h4.modify 3 (fun | .cells _ t frozen => .cells (bits64L.map fun z => Value.int .u8 z).toArray t frozen | o => o)
  { w0 with heap := h5 }
theorem laid_met (os : Os) (args : Array Value) : laidMet Tryd.prog laidL ((laidWorld os).forCall (fun _ _ => 0) ⟨#[], args, []⟩).memory :=
  laidMet_of_run3 10 (by kernel_rfl) (by kernel_rfl) (by kernel_rfl)
theorem laid_spc {W : World} (h : laidMetH Tryd.prog laidL W) : SPC W := by
  have h1 := laidMetH.filter (fun x => x.1 == "strings.asciiSpace") h
  have e : laidL.filter (fun x => x.1 == "strings.asciiSpace") = [("strings.asciiSpace", Lib.tabData .u8 Lib.asciiSpaceTab)] := by kernel_rfl
  rw [e] at h1
  exact Lib.tabIs_of_head (rest := []) gSpc gSpcT Tryd.underlying114 Tryd.underlying5 cells5 cells114 h1
section
variable {H : Type} {enc : TypeId × Value → H} {W : World}
/-- The weights of one argument. -/
theorem weight_at {ts : List TypeId} {ds : List (DataW H)} (h : (DataW.weightsEach Tryd.prog ts ds).all (· ≤ reachBytes) = true) : ∀ {j : Nat} {t : TypeId} {d : DataW H}, ts[j]? = some t → ds[j]? = some d → ∀ m ∈ d.weights Tryd.prog t, m ≤ reachBytes := by
  induction ts generalizing ds with
  | nil => intro j t d h; simp at h
  | cons t0 ts ih =>
    cases ds with
    | nil => intro j t d _ h; simp at h
    | cons d0 ds =>
      rw [DataW.weightsEach, List.all_append, Bool.and_eq_true] at h
      intro j t d ht hd m hm
      cases j with
      | zero =>
        simp at ht hd
        subst ht; subst hd
        exact of_decide_eq_true (List.all_eq_true.1 h.1 m hm)
      | succ j => exact ih h.2 (by simpa using ht) (by simpa using hd) m hm
end
end Go.Proofs.YtccofgdcpmplmaaDoor
