/- What the rows of this seat share: the table that is laid, a world that holds it, arguments as they are read. -/
import Derived.Test.YthbhbjfmlmgeeaaDoorWorks
import Derived.Test.YthbhbjfmlmgeeaaDoorCards
import Derived.Test.YthbhbjfmlmgeeaaDoorTie
import Derived.ProofKit
import Derived.OpenShut
import Derived.ShutString
import Derived.ChangeOld
import Derived.Deep.DeepHandedRow
import Derived.Deep.Strs
import Derived.Lib.LaidTab
namespace Go.Proofs.YthbhbjfmlmgeeaaDoor
open Go Go.RowKit
open Go.ChangeShapes Go.WideShapes Go.ChangeAt Go.Deep
theorem own : ownKnob Tryd.prog.godebug = none := by kernel_rfl
theorem laidOut : laidOutB Tryd.prog = true := by kernel_rfl
theorem gHalves : Tryd.prog.globalNamed "tabor/sums.halves" = some 0 := by kernel_rfl
theorem gHalvesT : (Tryd.prog.globals[0]?).map (·.type) = some 77 := by kernel_rfl
theorem cellsH : Tryd.prog.cellsOf 77 = 16 := by kernel_rfl
theorem cells51 : Tryd.prog.cellsOf 51 = 1 := by kernel_rfl
theorem cells5 : Tryd.prog.cellsOf 5 = 1 := by kernel_rfl
theorem cells9 : Tryd.prog.cellsOf 9 = 1 := by kernel_rfl
theorem cells22 : Tryd.prog.cellsOf 22 = 1 := by kernel_rfl
def halvesL : List Int := [0, 498536548, 997073096, 651767980, 1994146192, 1802195444, 1303535960, 1342533948, 3988292384, 4027552580, 3604390888, 3412177804, 2607071920, 2262029012, 2685067896, 3183342108]
def laidL : List (String × DataW Unit) := Rows.framesPutRow.laid
theorem laid_halves {W : World} (h : laidMetH Tryd.prog laidL W) : Lib.TabIs Tryd.prog W "tabor/sums.halves" .u32 halvesL := by
  have e : laidL = [("tabor/sums.halves", Lib.tabData .u32 halvesL)] := by kernel_rfl
  rw [e] at h
  exact Lib.tabIs_of_head (rest := []) gHalves gHalvesT Tryd.underlying77 Tryd.underlying51 cells51 cellsH h
theorem halves_htab : ∀ k, k < 16 → halvesL.getD k 0 = (htab k : Int) := by decide
theorem block_lt {W : World} {b off : Nat} {v : Value} (h : W.cell? ⟨b, off, none⟩ = some v) : b < W.heap.size := by
  rcases Nat.lt_or_ge b W.heap.size with h1 | h1
  · exact h1
  · simp [World.cell?, Array.getElem?_eq_none h1] at h
theorem tabs_of {W : World} (h : laidMetH Tryd.prog laidL W) : Tabs W := fun k hk => by
  rw [(laid_halves h).cell gHalves k (by simpa [halvesL] using hk), halves_htab k hk]
theorem pos_of {W : World} (h : laidMetH Tryd.prog laidL W) : 0 < W.heap.size := block_lt (tabs_of h 0 (by omega))
/-- A world for the witness: the settled one, with what the initialisers lay. -/
noncomputable def laidWorld (os : Os) : World :=
  { World.holding Tryd.prog os ⟨#[], #[], []⟩ with heap := (World.holding Tryd.prog os ⟨#[], #[], []⟩).heap.modify 0 (fun | .cells _ t frozen => .cells (halvesL.map fun z => Value.int .u32 z).toArray t frozen | o => o) }
theorem laid_met (os : Os) (args : Array Value) : laidMet Tryd.prog laidL ((laidWorld os).forCall (fun _ _ => 0) ⟨#[], args, []⟩).memory :=
  laidMet_of_run' 8 (by kernel_rfl) (by kernel_rfl)

/-- The bytes that a row of numbers stands for. -/
def bytesOf (zs : List Int) : List UInt8 := zs.map fun z => UInt8.ofNat z.toNat
theorem u8_back {z : Int} (h : (Lit.int .u8 z).wf = true) : ((UInt8.ofNat z.toNat).toNat : Int) = z := by
  simp [Lit.wf, show IntKind.u8.min = 0 from rfl, show IntKind.u8.max = 255 from rfl] at h
  simp
  omega
section
variable {H : Type} {enc : TypeId × Value → H} {W : World}
/-- An argument of bytes. -/
theorem bytes_of {fuel : Nat} {v : Value} {x : DataW H × List MemPlace} (h : DataW.trod enc Tryd.prog W 0 (fun _ => true) true fuel 25 [v] = some x) :
    ∃ A n c l, v = .slice A n c ∧ List.length l = n ∧ n ≤ c ∧ c ≤ maxLen ∧ (A = none → c = 0) ∧ Rd W A l := by
  rcases open_ints Tryd.underlying25 Tryd.underlying5 cells5 h with ⟨hcs, _⟩ | ⟨a, l, c, zs, hcs, _, hl, hm, hz, _, hcell, hwz⟩
  · simp at hcs
    exact ⟨none, 0, 0, [], hcs, rfl, Nat.le_refl _, by simp [maxLen], fun _ => rfl, Rd.nil _ _⟩
  · simp at hcs
    have hz' : zs.length = c := by simpa using hz
    have hlen : (bytesOf (zs.take l)).length = l := by simp [bytesOf]; omega
    refine ⟨some a, l, c, bytesOf (zs.take l), hcs, hlen, hl, hm, (fun h => by cases h), fun h0 => ?_⟩
    obtain ⟨b, off, spot⟩ := a
    have hc0 := hcell 0 (by omega)
    have hspot : spot = none := by simpa [Addr.add] using World.cell?_spot hc0
    subst hspot
    rw [addoff] at hc0
    refine ⟨b, off, rfl, block_lt hc0, fun j hj => ?_⟩
    have hj' : j < zs.length := by omega
    have h1 := hcell j hj'
    rw [addoff] at h1
    rw [h1]
    have h2 : (bytesOf (zs.take l))[j] = UInt8.ofNat (zs.getD j 0).toNat := by simp [bytesOf, List.getD, hj']
    rw [h2, u8_back (hwz _ (by simp [List.getD, hj']))]
theorem weights_all {e : TypeId} {d : DataW H} : ∀ {l : List (DataW H)}, d ∈ l → ∀ m ∈ d.weights Tryd.prog e, m ∈ DataW.weightsAll Tryd.prog e l
  | [], h => by cases h
  | x :: r, h => fun m hm => by
    rw [DataW.weightsAll]
    rcases List.mem_cons.1 h with rfl | h
    · exact List.mem_append_left _ hm
    · exact List.mem_append_right _ (weights_all h m hm)
/-- An argument of texts. -/
theorem strs_of {fuel : Nat} {v : Value} {x : DataW H × List MemPlace} (h : DataW.trod enc Tryd.prog W 0 (fun _ => true) true fuel 22 [v] = some x) (hw : ∀ m ∈ x.1.weights Tryd.prog 22, m ≤ reachBytes) :
    ∃ A n c ls, v = .slice A n c ∧ List.length ls = n ∧ n ≤ c ∧ c ≤ maxLen ∧ (A = none → c = 0) ∧ RdV W A (cellsS ls) ∧ ∀ s ∈ ls, s.size ≤ 140737488351232 := by
  rcases open_strs Tryd.underlying22 Tryd.underlying9 cells9 h with ⟨hcs, _⟩ | ⟨a, l, c, m, S, hcs, _, hl, hm, hmm, hx, hcell⟩
  · simp at hcs
    exact ⟨none, 0, 0, [], hcs, rfl, Nat.le_refl _, by simp [maxLen], fun _ => rfl, RdV.nil _ _, fun s hs => by cases hs⟩
  · simp at hcs hmm
    subst hmm
    have hlen : ((List.range l).map S).length = l := by simp
    refine ⟨some a, l, m, (List.range l).map S, hcs, hlen, hl, hm, (fun h => by cases h), fun h0 => ?_, fun s hs => ?_⟩
    · rw [cellsS_len, hlen] at h0
      obtain ⟨b, off, spot⟩ := a
      have hc0 := (hcell 0 (by omega)).1
      have hspot : spot = none := by simpa [Addr.add] using World.cell?_spot hc0
      subst hspot
      rw [addoff] at hc0
      refine ⟨b, off, rfl, block_lt hc0, fun j hj => ?_⟩
      rw [cellsS_len, hlen] at hj
      have h1 := (hcell j (by omega)).1
      rw [addoff] at h1
      rw [h1]
      simp [cellsS]
    · obtain ⟨i, hi, rfl⟩ := List.mem_map.1 hs
      subst hx
      refine hw _ ?_
      rw [DataW.weights, Tryd.underlying22]
      simp only
      refine List.mem_cons_of_mem _ (List.mem_append_left _ (weights_all (List.mem_map.2 ⟨i, hi, rfl⟩) _ ?_))
      rw [DataW.weights]
      have h2 : (S i).data.toList.length = (S i).size := by rw [Array.length_toList]; rfl
      rw [h2]
      exact List.mem_singleton.2 rfl
/-- An argument of rows of texts. -/
theorem rows_of {fuel : Nat} {v : Value} {x : DataW H × List MemPlace} (h : DataW.trod enc Tryd.prog W 0 (fun _ => true) true fuel 39 [v] = some x) (hw : ∀ m ∈ x.1.weights Tryd.prog 39, m ≤ reachBytes) :
    ∃ A n c rs, v = .slice A n c ∧ List.length rs = n ∧ n ≤ c ∧ c ≤ maxLen ∧ (A = none → c = 0) ∧ RdR W A rs ∧ ∀ r ∈ rs, ∀ s ∈ r.ls, s.size ≤ 140737488351232 := by
  rcases open_slice1 Tryd.underlying39 cells22 h with ⟨hcs, _⟩ | ⟨a, l, c, m, n, V, D, Pl, hcs, _, hl, hm, hmm, hx, hcell⟩
  · simp at hcs
    exact ⟨none, 0, 0, [], hcs, rfl, Nat.le_refl _, by simp [maxLen], fun _ => rfl, ⟨RdV.nil _ _, fun s hs => by cases hs⟩, fun s hs => by cases hs⟩
  · simp at hcs hmm
    subst hmm
    have each : ∀ i, i < l → ∃ r : Row, V i = r.v ∧ RdV W r.A (cellsS r.ls) ∧ r.ls.length ≤ 9223372036854775807 ∧ ∀ s ∈ r.ls, s.size ≤ 140737488351232 := fun i hi => by
      obtain ⟨A, n', c', ls, hv, hls, hnc, hcm, _, hr, hs⟩ := strs_of (hcell i (by omega)).2 (fun q hq => by
        subst hx
        refine hw _ ?_
        rw [DataW.weights, Tryd.underlying39]
        simp only
        exact List.mem_cons_of_mem _ (List.mem_append_left _ (weights_all (List.mem_map.2 ⟨i, List.mem_range.2 hi, rfl⟩) _ hq)))
      exact ⟨⟨A, c', ls⟩, by rw [hv, ← hls]; rfl, hr, by show ls.length ≤ _; simp only [maxLen] at hcm; omega, hs⟩
    haveI : Inhabited Row := ⟨⟨none, 0, []⟩⟩
    obtain ⟨R, hR⟩ := choose_lt each
    have hlen : ((List.range l).map R).length = l := by simp
    refine ⟨some a, l, m, (List.range l).map R, hcs, hlen, hl, hm, (fun h => by cases h), ⟨fun h0 => ?_, fun r hr => ?_⟩, fun r hr => ?_⟩
    · rw [List.length_map, hlen] at h0
      obtain ⟨b, off, spot⟩ := a
      have hc0 := (hcell 0 (by omega)).1
      have hspot : spot = none := by simpa [Addr.add] using World.cell?_spot hc0
      subst hspot
      rw [addoff] at hc0
      refine ⟨b, off, rfl, block_lt hc0, fun j hj => ?_⟩
      rw [List.length_map, hlen] at hj
      have h1 := (hcell j (by omega)).1
      rw [addoff, (hR j hj).1] at h1
      rw [h1]
      simp
    · obtain ⟨i, hi, rfl⟩ := List.mem_map.1 hr
      have := hR i (List.mem_range.1 hi)
      exact ⟨this.2.1, this.2.2.1⟩
    · obtain ⟨i, hi, rfl⟩ := List.mem_map.1 hr
      exact (hR i (List.mem_range.1 hi)).2.2.2
/-- The weights of one argument. -/
theorem weight_at {ts : List TypeId} {ds : List (DataW H)} (h : (DataW.weightsEach Tryd.prog ts ds).all (· ≤ reachBytes) = true) : ∀ {j : Nat} {t : TypeId} {d : DataW H}, ts[j]? = some t → ds[j]? = some d → ∀ m ∈ d.weights Tryd.prog t, m ≤ reachBytes := by
  induction ts generalizing ds with
  | nil => intro j t d h; simp at h
  | cons t0 ts ih =>
    cases ds with
    | nil => intro j t d _ h; simp at h
    | cons d0 ds =>
      rw [DataW.weightsEach, List.all_append, Bool.and_eq_true] at h
      intro j t d ht hd m hm
      cases j with
      | zero =>
        simp at ht hd
        subst ht; subst hd
        exact of_decide_eq_true (List.all_eq_true.1 h.1 m hm)
      | succ j => exact ih h.2 (by simpa using ht) (by simpa using hd) m hm
end
end Go.Proofs.YthbhbjfmlmgeeaaDoor
