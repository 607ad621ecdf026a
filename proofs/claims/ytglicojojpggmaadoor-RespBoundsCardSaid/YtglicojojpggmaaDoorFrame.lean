/- What the rows of this seat share: the tables that are laid, a world that holds them, arguments as they are read. -/
import Derived.Test.YtglicojojpggmaaDoorOwn
import Derived.Test.YtglicojojpggmaaDoorCards
import Derived.Test.YtglicojojpggmaaDoorTie
import Derived.ProofKit
import Derived.OpenShut
import Derived.ShutString
import Derived.ChangeOld
import Derived.Deep.DeepHandedRow
import Derived.Deep.Strs
import Derived.Lib.LaidTab
namespace Go.Proofs.YtglicojojpggmaaDoor
open Go Go.RowKit
open Go.ChangeShapes Go.WideShapes Go.ChangeAt Go.Deep
theorem own : ownKnob Tryd.prog.godebug = none := by kernel_rfl
theorem laidOut : laidOutB Tryd.prog = true := by kernel_rfl
theorem gPowT : (Tryd.prog.globals[0]?).map (·.type) = some 117 := by kernel_rfl
theorem cells117 : Tryd.prog.cellsOf 117 = 20 := by kernel_rfl
theorem cells90 : Tryd.prog.cellsOf 90 = 1 := by kernel_rfl
theorem cells5 : Tryd.prog.cellsOf 5 = 1 := by kernel_rfl
theorem cells9 : Tryd.prog.cellsOf 9 = 1 := by kernel_rfl
theorem cells22 : Tryd.prog.cellsOf 22 = 1 := by kernel_rfl
def bits64L : List Int := [0, 1, 56, 2, 57, 49, 28, 3, 61, 58, 42, 50, 38, 29, 17, 4, 62, 47, 59, 36, 45, 43, 51, 22, 53, 39, 33, 30, 24, 18, 12, 5, 63, 55, 48, 27, 60, 41, 37, 16, 46, 35, 44, 21, 52, 32, 23, 11, 54, 26, 40, 15, 34, 20, 31, 10, 25, 14, 19, 9, 13, 8, 7, 6]
def bits32L : List Int := [0, 1, 28, 2, 29, 14, 24, 3, 30, 22, 20, 15, 25, 17, 4, 8, 31, 27, 13, 23, 21, 19, 16, 7, 26, 12, 18, 6, 11, 5, 10, 9]
def pow10L : List Int := (List.range 20).map fun i => ((10 ^ i : Nat) : Int)
def laidL : List (String × DataW Unit) := Rows.respRequestRow.laid
/-- A world for the witness: the settled one, with what the initialisers lay. -/
noncomputable def laidWorld (os : Os) : World :=
  let h0 := (World.holding Tryd.prog os ⟨#[], #[], []⟩).heap
  let h2 := h0.modify 0 (fun | .cells _ t frozen => .cells (pow10L.map fun z => Value.int .u64 z).toArray t frozen | o => o)
  let h3 := h2.modify 1 (fun | .cells _ t frozen => .cells (bits32L.map fun z => Value.int .u8 z).toArray t frozen | o => o)
  let h4 := h3.modify 2 (fun | .cells _ t frozen => .cells (bits64L.map fun z => Value.int .u8 z).toArray t frozen | o => o)
  { World.holding Tryd.prog os ⟨#[], #[], []⟩ with heap := h4 }
theorem laid_met (os : Os) (args : Array Value) : laidMet Tryd.prog laidL ((laidWorld os).forCall (fun _ _ => 0) ⟨#[], args, []⟩).memory :=
  laidMet_of_run' 8 (by kernel_rfl) (by kernel_rfl)
theorem laid_pow {W : World} (h : laidMetH Tryd.prog laidL W) : TAB W := by
  have h1 := laidMetH.filter (fun x => x.1 == "internal/strconv.uint64pow10") h
  have e : laidL.filter (fun x => x.1 == "internal/strconv.uint64pow10") = [("internal/strconv.uint64pow10", Lib.tabData .u64 Lib.pow10Tab)] := by kernel_rfl
  rw [e] at h1
  exact Lib.tabIs_of_head (rest := []) gPow' gPowT Tryd.underlying117 Tryd.underlying90 cells90 cells117 h1
theorem block_lt {W : World} {b off : Nat} {v : Value} (h : W.cell? ⟨b, off, none⟩ = some v) : b < W.heap.size := by
  rcases Nat.lt_or_ge b W.heap.size with h1 | h1
  · exact h1
  · simp [World.cell?, Array.getElem?_eq_none h1] at h

/-- The bytes that a row of numbers stands for. -/
def bytesOf (zs : List Int) : List UInt8 := zs.map fun z => UInt8.ofNat z.toNat
theorem u8_back {z : Int} (h : (Lit.int .u8 z).wf = true) : ((UInt8.ofNat z.toNat).toNat : Int) = z := by
  simp [Lit.wf, show IntKind.u8.min = 0 from rfl, show IntKind.u8.max = 255 from rfl] at h
  simp
  omega
section
variable {H : Type} {enc : TypeId × Value → H} {W : World}
/-- An argument of bytes. -/
theorem bytes_of {fuel : Nat} {v : Value} {x : DataW H × List MemPlace} (h : DataW.trod enc Tryd.prog W 0 (fun _ => true) true fuel 25 [v] = some x) :
    ∃ A n c l, v = .slice A n c ∧ List.length l = n ∧ n ≤ c ∧ c ≤ maxLen ∧ (A = none → c = 0) ∧ Rd W A l := by
  rcases open_ints Tryd.underlying25 Tryd.underlying5 cells5 h with ⟨hcs, _⟩ | ⟨a, l, c, zs, hcs, _, hl, hm, hz, _, hcell, hwz⟩
  · simp at hcs
    exact ⟨none, 0, 0, [], hcs, rfl, Nat.le_refl _, by simp [maxLen], fun _ => rfl, Rd.nil _ _⟩
  · simp at hcs
    have hz' : zs.length = c := by simpa using hz
    have hlen : (bytesOf (zs.take l)).length = l := by simp [bytesOf]; omega
    refine ⟨some a, l, c, bytesOf (zs.take l), hcs, hlen, hl, hm, (fun h => by cases h), fun h0 => ?_⟩
    obtain ⟨b, off, spot⟩ := a
    have hc0 := hcell 0 (by omega)
    have hspot : spot = none := by simpa [Addr.add] using World.cell?_spot hc0
    subst hspot
    rw [addoff] at hc0
    refine ⟨b, off, rfl, block_lt hc0, fun j hj => ?_⟩
    have hj' : j < zs.length := by omega
    have h1 := hcell j hj'
    rw [addoff] at h1
    rw [h1]
    have h2 : (bytesOf (zs.take l))[j] = UInt8.ofNat (zs.getD j 0).toNat := by simp [bytesOf, List.getD, hj']
    rw [h2, u8_back (hwz _ (by simp [List.getD, hj']))]
theorem weights_all {e : TypeId} {d : DataW H} : ∀ {l : List (DataW H)}, d ∈ l → ∀ m ∈ d.weights Tryd.prog e, m ∈ DataW.weightsAll Tryd.prog e l
  | [], h => by cases h
  | x :: r, h => fun m hm => by
    rw [DataW.weightsAll]
    rcases List.mem_cons.1 h with rfl | h
    · exact List.mem_append_left _ hm
    · exact List.mem_append_right _ (weights_all h m hm)
/-- An argument of texts. -/
theorem strs_of {fuel : Nat} {v : Value} {x : DataW H × List MemPlace} (h : DataW.trod enc Tryd.prog W 0 (fun _ => true) true fuel 22 [v] = some x) (hw : ∀ m ∈ x.1.weights Tryd.prog 22, m ≤ reachBytes) :
    ∃ A n c ls, v = .slice A n c ∧ List.length ls = n ∧ n ≤ c ∧ c ≤ maxLen ∧ (A = none → c = 0) ∧ RdV W A (cellsS ls) ∧ ∀ s ∈ ls, s.size ≤ 140737488351232 := by
  rcases open_strs Tryd.underlying22 Tryd.underlying9 cells9 h with ⟨hcs, _⟩ | ⟨a, l, c, m, S, hcs, _, hl, hm, hmm, hx, hcell⟩
  · simp at hcs
    exact ⟨none, 0, 0, [], hcs, rfl, Nat.le_refl _, by simp [maxLen], fun _ => rfl, RdV.nil _ _, fun s hs => by cases hs⟩
  · simp at hcs hmm
    subst hmm
    have hlen : ((List.range l).map S).length = l := by simp
    refine ⟨some a, l, m, (List.range l).map S, hcs, hlen, hl, hm, (fun h => by cases h), fun h0 => ?_, fun s hs => ?_⟩
    · rw [cellsS_len, hlen] at h0
      obtain ⟨b, off, spot⟩ := a
      have hc0 := (hcell 0 (by omega)).1
      have hspot : spot = none := by simpa [Addr.add] using World.cell?_spot hc0
      subst hspot
      rw [addoff] at hc0
      refine ⟨b, off, rfl, block_lt hc0, fun j hj => ?_⟩
      rw [cellsS_len, hlen] at hj
      have h1 := (hcell j (by omega)).1
      rw [addoff] at h1
      rw [h1]
      simp [cellsS]
    · obtain ⟨i, hi, rfl⟩ := List.mem_map.1 hs
      subst hx
      refine hw _ ?_
      rw [DataW.weights, Tryd.underlying22]
      simp only
      refine List.mem_cons_of_mem _ (List.mem_append_left _ (weights_all (List.mem_map.2 ⟨i, hi, rfl⟩) _ ?_))
      rw [DataW.weights]
      have h2 : (S i).data.toList.length = (S i).size := by rw [Array.length_toList]; rfl
      rw [h2]
      exact List.mem_singleton.2 rfl
/-- The weights of one argument. -/
theorem weight_at {ts : List TypeId} {ds : List (DataW H)} (h : (DataW.weightsEach Tryd.prog ts ds).all (· ≤ reachBytes) = true) : ∀ {j : Nat} {t : TypeId} {d : DataW H}, ts[j]? = some t → ds[j]? = some d → ∀ m ∈ d.weights Tryd.prog t, m ≤ reachBytes := by
  induction ts generalizing ds with
  | nil => intro j t d h; simp at h
  | cons t0 ts ih =>
    cases ds with
    | nil => intro j t d _ h; simp at h
    | cons d0 ds =>
      rw [DataW.weightsEach, List.all_append, Bool.and_eq_true] at h
      intro j t d ht hd m hm
      cases j with
      | zero =>
        simp at ht hd
        subst ht; subst hd
        exact of_decide_eq_true (List.all_eq_true.1 h.1 m hm)
      | succ j => exact ih h.2 (by simpa using ht) (by simpa using hd) m hm
end
end Go.Proofs.YtglicojojpggmaaDoor
