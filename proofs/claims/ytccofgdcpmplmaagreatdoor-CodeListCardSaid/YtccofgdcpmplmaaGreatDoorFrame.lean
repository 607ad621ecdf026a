/- What the rows of this seat share: the tables that are laid, a world that holds them. -/
import Derived.Test.YtccofgdcpmplmaaGreatDoorEnv
import Derived.Test.YtccofgdcpmplmaaGreatDoorCards
import Derived.Test.YtccofgdcpmplmaaGreatDoorTie
import Derived.ProofKit
import Derived.OpenShut
import Derived.ShutString
import Derived.ChangeOld
import Derived.Deep.DeepHandedRow
import Derived.Deep.DeepWitnessRowRef
import Derived.Deep.DeepLaidRun
import Derived.Lay
import Derived.Stop.LaidErr
import Derived.Lib.LaidTab
import Derived.Lib.SpaceR
namespace Go.Proofs.YtccofgdcpmplmaaGreatDoor
open Go Go.RowKit
open Go.ChangeShapes Go.WideShapes Go.ChangeAt Go.Deep
theorem own : ownKnob Tryz.prog.godebug = none := by kernel_rfl
theorem laidOut : laidOutB Tryz.prog = true := by kernel_rfl
theorem gSpcT : (Tryz.prog.globals[8]?).map (·.type) = some 150 := by kernel_rfl
theorem cells150 : Tryz.prog.cellsOf 150 = 256 := by kernel_rfl
theorem gPowT : (Tryz.prog.globals[0]?).map (·.type) = some 116 := by kernel_rfl
theorem cells116 : Tryz.prog.cellsOf 116 = 20 := by kernel_rfl
theorem cells99 : Tryz.prog.cellsOf 99 = 1 := by kernel_rfl
theorem gSyn : Tryz.prog.globalNamed "strconv.ErrSyntax" = some 2 := by kernel_rfl
theorem gSynT : (Tryz.prog.globals[2]?).map (·.type) = some 65 := by kernel_rfl
theorem gRan : Tryz.prog.globalNamed "strconv.ErrRange" = some 3 := by kernel_rfl
theorem gRanT : (Tryz.prog.globals[3]?).map (·.type) = some 65 := by kernel_rfl
theorem cells148 : Tryz.prog.cellsOf 148 = 1 := by kernel_rfl
theorem star : "*" ++ "errors.errorString" = "*errors.errorString" := by decide
theorem row146 (u : TypeId) (h : Tryz.prog.typeName? 3 u = some "*errors.errorString") : u = 146 :=
  typeName_ptr_named (nm := "errors.errorString") (by rw [star]; kernel_rfl) (by kernel_rfl) (by decide) u (by rw [star]; exact h)
def laidL : List (String × DataW Unit) := Rows.codeListRow.laid
noncomputable def laidWorld (os : Os) : World := World.laidAll Tryz.prog os laidL
theorem laidWorld_os (os : Os) : (laidWorld os).os = os := World.laidAll_os _ _ _
theorem laid_met (os : Os) (args : Array Value) : laidMet Tryz.prog laidL ((laidWorld os).forCall (fun _ _ => 0) ⟨#[], args, []⟩).memory :=
  laidMet_laidAll _ (by kernel_rfl) (by kernel_rfl)
theorem laid_spc {W : World} (h : laidMetH Tryz.prog laidL W) : SPC W := by
  have h1 := laidMetH.filter (fun x => x.1 == "strings.asciiSpace") h
  have e : laidL.filter (fun x => x.1 == "strings.asciiSpace") = [("strings.asciiSpace", Lib.tabData .u8 Lib.asciiSpaceTab)] := by kernel_rfl
  rw [e] at h1
  exact Lib.tabIs_of_head (rest := []) gSpc gSpcT Tryz.underlying150 Tryz.underlying5 cells5 cells150 h1
theorem laid_pow {W : World} (h : laidMetH Tryz.prog laidL W) : TAB W := by
  have h1 := laidMetH.filter (fun x => x.1 == "internal/strconv.uint64pow10") h
  have e : laidL.filter (fun x => x.1 == "internal/strconv.uint64pow10") = [("internal/strconv.uint64pow10", Lib.tabData .u64 Lib.pow10Tab)] := by kernel_rfl
  rw [e] at h1
  exact Lib.tabIs_of_head (rest := []) gPow' gPowT Tryz.underlying116 Tryz.underlying99 cells99 cells116 h1
theorem laid_syn {W : World} (h : laidMetH Tryz.prog laidL W) : ∃ tp p, W.cell? ⟨2, 0, none⟩ = some (.iface tp p) := by
  have h1 := laidMetH.filter (fun x => x.1 == "strconv.ErrSyntax") h
  have e : laidL.filter (fun x => x.1 == "strconv.ErrSyntax") = [("strconv.ErrSyntax", Rows.laid_strconv_ErrSyntax)] := by kernel_rfl
  rw [e] at h1
  obtain ⟨a, s, hv, _⟩ := laid_sentinel (r := []) (P := Tryz.prog) h1 gSyn gSynT Tryz.underlying65 row146 Tryz.underlying146 Tryz.underlying148 rfl rfl Tryz.underlying9 cells148 cells9
  exact ⟨_, _, by simpa using World.var?_cell gSyn hv 0⟩
theorem laid_ran {W : World} (h : laidMetH Tryz.prog laidL W) : ∃ tp p, W.cell? ⟨3, 0, none⟩ = some (.iface tp p) := by
  have h1 := laidMetH.filter (fun x => x.1 == "strconv.ErrRange") h
  have e : laidL.filter (fun x => x.1 == "strconv.ErrRange") = [("strconv.ErrRange", Rows.laid_strconv_ErrRange)] := by kernel_rfl
  rw [e] at h1
  obtain ⟨a, s, hv, _⟩ := laid_sentinel (r := []) (P := Tryz.prog) h1 gRan gRanT Tryz.underlying65 row146 Tryz.underlying146 Tryz.underlying148 rfl rfl Tryz.underlying9 cells148 cells9
  exact ⟨_, _, by simpa using World.var?_cell gRan hv 0⟩
theorem laid_env {W : World} (h : laidMetH Tryz.prog laidL W) (hs : W.ShapedOpen Tryz.prog) : Env W :=
  ⟨laid_spc h, laid_pow h, Tryz.laysM145.s1_3 W hs, laid_syn h, laid_ran h⟩
section
variable {H : Type} {enc : TypeId × Value → H} {W : World}
/-- The weights of one argument. -/
theorem weight_at {ts : List TypeId} {ds : List (DataW H)} (h : (DataW.weightsEach Tryz.prog ts ds).all (· ≤ reachBytes) = true) : ∀ {j : Nat} {t : TypeId} {d : DataW H}, ts[j]? = some t → ds[j]? = some d → ∀ m ∈ d.weights Tryz.prog t, m ≤ reachBytes := by
  induction ts generalizing ds with
  | nil => intro j t d h; simp at h
  | cons t0 ts ih =>
    cases ds with
    | nil => intro j t d _ h; simp at h
    | cons d0 ds =>
      rw [DataW.weightsEach, List.all_append, Bool.and_eq_true] at h
      intro j t d ht hd m hm
      cases j with
      | zero =>
        simp at ht hd
        subst ht; subst hd
        exact of_decide_eq_true (List.all_eq_true.1 h.1 m hm)
      | succ j => exact ih h.2 (by simpa using ht) (by simpa using hd) m hm
end
end Go.Proofs.YtccofgdcpmplmaaGreatDoor
