/- What the rows of this seat share: the tables that are laid, a world that holds them. -/
import Derived.Test.YtpomaabkgbaikaaDoorWk
import Derived.Test.YtpomaabkgbaikaaDoorCards
import Derived.Test.YtpomaabkgbaikaaDoorTie
import Derived.ProofKit
import Derived.OpenShut
import Derived.ShutString
import Derived.ChangeOld
import Derived.Deep.DeepHandedRow
import Derived.Lib.LaidTab
namespace Go.Proofs.YtpomaabkgbaikaaDoor
open Go Go.RowKit
open Go.ChangeShapes Go.WideShapes Go.ChangeAt Go.Deep
theorem own : ownKnob Tryd.prog.godebug = none := by kernel_rfl
theorem laidOut : laidOutB Tryd.prog = true := by kernel_rfl
theorem gBits : Tryd.prog.globalNamed "math/bits.deBruijn64tab" = some 2 := by kernel_rfl
theorem gBitsT : (Tryd.prog.globals[2]?).map (·.type) = some 149 := by kernel_rfl
theorem cells64 : Tryd.prog.cellsOf 149 = 64 := by kernel_rfl
theorem cells5f : Tryd.prog.cellsOf 5 = 1 := by kernel_rfl
def bits64L : List Int := [0, 1, 56, 2, 57, 49, 28, 3, 61, 58, 42, 50, 38, 29, 17, 4, 62, 47, 59, 36, 45, 43, 51, 22, 53, 39, 33, 30, 24, 18, 12, 5, 63, 55, 48, 27, 60, 41, 37, 16, 46, 35, 44, 21, 52, 32, 23, 11, 54, 26, 40, 15, 34, 20, 31, 10, 25, 14, 19, 9, 13, 8, 7, 6]
def bits32L : List Int := [0, 1, 28, 2, 29, 14, 24, 3, 30, 22, 20, 15, 25, 17, 4, 8, 31, 27, 13, 23, 21, 19, 16, 7, 26, 12, 18, 6, 11, 5, 10, 9]
def pow10L : List Int := (List.range 20).map fun i => ((10 ^ i : Nat) : Int)
def laidL : List (String × DataW Unit) := Rows.cacheNamesRow.laid
theorem laid_bits {W : World} (h : laidMetH Tryd.prog laidL W) : Lib.TabIs Tryd.prog W "math/bits.deBruijn64tab" .u8 bits64L := by
  have h1 := laidMetH.filter (fun x => x.1 == "math/bits.deBruijn64tab") h
  have e : laidL.filter (fun x => x.1 == "math/bits.deBruijn64tab") = [("math/bits.deBruijn64tab", Lib.tabData .u8 bits64L)] := by kernel_rfl
  rw [e] at h1
  exact Lib.tabIs_of_head (rest := []) gBits gBitsT Tryd.underlying149 Tryd.underlying5 cells5f cells64 h1
theorem block_lt {W : World} {b off : Nat} {v : Value} (h : W.cell? ⟨b, off, none⟩ = some v) : b < W.heap.size := by
  rcases Nat.lt_or_ge b W.heap.size with h1 | h1
  · exact h1
  · simp [World.cell?, Array.getElem?_eq_none h1] at h
theorem laid_dg {W : World} (h : laidMetH Tryd.prog laidL W) : DG W := by
  have h3 : W.cell? ⟨2, 15, none⟩ = some (.int .u8 4) := (laid_bits h).cell gBits 15 (by decide)
  exact ⟨h3, block_lt h3⟩
/-- A world for the witness: the settled one, with what the initialisers lay. -/
noncomputable def laidWorld (os : Os) : World :=
  let h0 := (World.holding Tryd.prog os ⟨#[], #[], []⟩).heap
  let h2 := h0.modify 0 (fun | .cells _ t frozen => .cells (pow10L.map fun z => Value.int .u64 z).toArray t frozen | o => o)
  let h3 := h2.modify 1 (fun | .cells _ t frozen => .cells (bits32L.map fun z => Value.int .u8 z).toArray t frozen | o => o)
  let h4 := h3.modify 2 (fun | .cells _ t frozen => .cells (bits64L.map fun z => Value.int .u8 z).toArray t frozen | o => o)
  { World.holding Tryd.prog os ⟨#[], #[], []⟩ with heap := h4 }
theorem laid_met (os : Os) (args : Array Value) : laidMet Tryd.prog laidL ((laidWorld os).forCall (fun _ _ => 0) ⟨#[], args, []⟩).memory :=
  laidMet_of_run' 8 (by kernel_rfl) (by kernel_rfl)
section
variable {H : Type} {enc : TypeId × Value → H} {W : World}
/-- The weights of one argument. -/
theorem weight_at {ts : List TypeId} {ds : List (DataW H)} (h : (DataW.weightsEach Tryd.prog ts ds).all (· ≤ reachBytes) = true) : ∀ {j : Nat} {t : TypeId} {d : DataW H}, ts[j]? = some t → ds[j]? = some d → ∀ m ∈ d.weights Tryd.prog t, m ≤ reachBytes := by
  induction ts generalizing ds with
  | nil => intro j t d h; simp at h
  | cons t0 ts ih =>
    cases ds with
    | nil => intro j t d _ h; simp at h
    | cons d0 ds =>
      rw [DataW.weightsEach, List.all_append, Bool.and_eq_true] at h
      intro j t d ht hd m hm
      cases j with
      | zero =>
        simp at ht hd
        subst ht; subst hd
        exact of_decide_eq_true (List.all_eq_true.1 h.1 m hm)
      | succ j => exact ih h.2 (by simpa using ht) (by simpa using hd) m hm
end
end Go.Proofs.YtpomaabkgbaikaaDoor
