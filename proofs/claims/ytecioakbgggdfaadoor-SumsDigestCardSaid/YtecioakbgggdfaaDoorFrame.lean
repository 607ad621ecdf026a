/- What the rows of this seat share: the tables that are laid, a world that holds them, arguments as they are read. -/
import Derived.Test.YtecioakbgggdfaaDoorWorks
import Derived.Test.YtecioakbgggdfaaDoorKept
import Derived.Test.YtecioakbgggdfaaDoorCards
import Derived.Test.YtecioakbgggdfaaDoorTie
import Derived.ProofKit
import Derived.OpenShut
import Derived.ShutString
import Derived.ChangeOld
import Derived.Deep.DeepHandedRow
import Derived.Lib.LaidTab
namespace Go.Proofs.YtecioakbgggdfaaDoor
open Go Go.RowKit Go.ChangeShapes Go.WideShapes Go.ChangeAt

theorem own : ownKnob Tryd.prog.godebug = none := by kernel_rfl
theorem laidOut : laidOutB Tryd.prog = true := by kernel_rfl
theorem gHalves : Tryd.prog.globalNamed "tabor/sums.halves" = some 0 := by kernel_rfl
theorem gHalvesT : (Tryd.prog.globals[0]?).map (·.type) = some 47 := by kernel_rfl
theorem gBits : Tryd.prog.globalNamed "math/bits.deBruijn64tab" = some 3 := by kernel_rfl
theorem gBitsT : (Tryd.prog.globals[3]?).map (·.type) = some 79 := by kernel_rfl
theorem cells47 : Tryd.prog.cellsOf 47 = 16 := by kernel_rfl
theorem cells79 : Tryd.prog.cellsOf 79 = 64 := by kernel_rfl
theorem cells5 : Tryd.prog.cellsOf 5 = 1 := by kernel_rfl
theorem cells25 : Tryd.prog.cellsOf 25 = 1 := by kernel_rfl

def halvesL : List Int := [0, 498536548, 997073096, 651767980, 1994146192, 1802195444, 1303535960, 1342533948, 3988292384, 4027552580, 3604390888, 3412177804, 2607071920, 2262029012, 2685067896, 3183342108]
def bits64L : List Int := [0, 1, 56, 2, 57, 49, 28, 3, 61, 58, 42, 50, 38, 29, 17, 4, 62, 47, 59, 36, 45, 43, 51, 22, 53, 39, 33, 30, 24, 18, 12, 5, 63, 55, 48, 27, 60, 41, 37, 16, 46, 35, 44, 21, 52, 32, 23, 11, 54, 26, 40, 15, 34, 20, 31, 10, 25, 14, 19, 9, 13, 8, 7, 6]
def bits32L : List Int := [0, 1, 28, 2, 29, 14, 24, 3, 30, 22, 20, 15, 25, 17, 4, 8, 31, 27, 13, 23, 21, 19, 16, 7, 26, 12, 18, 6, 11, 5, 10, 9]
def pow10L : List Int := (List.range 20).map fun i => ((10 ^ i : Nat) : Int)
def laidL : List (String × DataW Unit) := Rows.sumsCrcRow.laid
theorem laid_halves {W : World} (h : laidMetH Tryd.prog laidL W) : Lib.TabIs Tryd.prog W "tabor/sums.halves" .u32 halvesL := by
  have h1 := laidMetH.filter (fun x => x.1 == "tabor/sums.halves") h
  have e : laidL.filter (fun x => x.1 == "tabor/sums.halves") = [("tabor/sums.halves", Lib.tabData .u32 halvesL)] := by kernel_rfl
  rw [e] at h1
  exact Lib.tabIs_of_head (rest := []) gHalves gHalvesT Tryd.underlying47 Tryd.underlying25 cells25 cells47 h1
theorem laid_bits {W : World} (h : laidMetH Tryd.prog laidL W) : Lib.TabIs Tryd.prog W "math/bits.deBruijn64tab" .u8 bits64L := by
  have h1 := laidMetH.filter (fun x => x.1 == "math/bits.deBruijn64tab") h
  have e : laidL.filter (fun x => x.1 == "math/bits.deBruijn64tab") = [("math/bits.deBruijn64tab", Lib.tabData .u8 bits64L)] := by kernel_rfl
  rw [e] at h1
  exact Lib.tabIs_of_head (rest := []) gBits gBitsT Tryd.underlying79 Tryd.underlying5 cells5 cells79 h1
theorem halves_htab : ∀ k, k < 16 → halvesL.getD k 0 = (htab k : Int) := by decide
theorem block_lt {W : World} {b off : Nat} {v : Value} (h : W.cell? ⟨b, off, none⟩ = some v) : b < W.heap.size := by
  rcases Nat.lt_or_ge b W.heap.size with h1 | h1
  · exact h1
  · simp [World.cell?, Array.getElem?_eq_none h1] at h
theorem laid_of {W : World} (h : laidMetH Tryd.prog laidL W) : Laid W := by
  have h3 : W.cell? ⟨3, 15, none⟩ = some (.int .u8 4) := (laid_bits h).cell gBits 15 (by decide)
  exact ⟨fun k hk => by rw [(laid_halves h).cell gHalves k (by simpa [halvesL] using hk), halves_htab k hk], h3, block_lt h3⟩

/-- A world for the witness: the settled one, with what the initialisers lay. -/
noncomputable def laidWorld (os : Os) : World :=
  let h0 := (World.holding Tryd.prog os ⟨#[], #[], []⟩).heap
  let h1 := h0.modify 0 (fun | .cells _ t frozen => .cells (halvesL.map fun z => Value.int .u32 z).toArray t frozen | o => o)
  let h2 := h1.modify 1 (fun | .cells _ t frozen => .cells (pow10L.map fun z => Value.int .u64 z).toArray t frozen | o => o)
  let h3 := h2.modify 2 (fun | .cells _ t frozen => .cells (bits32L.map fun z => Value.int .u8 z).toArray t frozen | o => o)
  let h4 := h3.modify 3 (fun | .cells _ t frozen => .cells (bits64L.map fun z => Value.int .u8 z).toArray t frozen | o => o)
  { World.holding Tryd.prog os ⟨#[], #[], []⟩ with heap := h4 }
theorem laid_met (os : Os) (args : Array Value) : laidMet Tryd.prog laidL ((laidWorld os).forCall (fun _ _ => 0) ⟨#[], args, []⟩).memory :=
  laidMet_of_run' 8 (by kernel_rfl) (by kernel_rfl)

/-- The bytes that a row of numbers stands for. -/
def bytesOf (zs : List Int) : List UInt8 := zs.map fun z => UInt8.ofNat z.toNat
theorem u8_back {z : Int} (h : (Lit.int .u8 z).wf = true) : ((UInt8.ofNat z.toNat).toNat : Int) = z := by
  simp [Lit.wf, show IntKind.u8.min = 0 from rfl, show IntKind.u8.max = 255 from rfl] at h
  simp
  omega
theorem arg_of {H : Type} {enc : TypeId × Value → H} {W : World} {a : Option Addr} {len cap : Nat} {d : DataW H} {p : List MemPlace}
    (h : DataW.Trod enc Tryd.prog W 0 (fun _ => true) true 22 (.slice a len cap) d p) : ∃ l : List UInt8, Arg W (.slice a len cap) l ∧ l.length = len ∧ len ≤ maxLen := by
  obtain ⟨fuel, hf⟩ := h
  rcases open_ints Tryd.underlying22 Tryd.underlying5 cells5 hf with ⟨hcs, _⟩ | ⟨x, l, c, zs, hcs, _, hl, hm, hz, _, hcell, hwz⟩
  · simp [Value.cells] at hcs
    obtain ⟨rfl, rfl, rfl⟩ := hcs
    exact ⟨[], .inl ⟨rfl, rfl⟩, rfl, by simp⟩
  · simp [Value.cells] at hcs
    obtain ⟨rfl, rfl, rfl⟩ := hcs
    by_cases h0 : len = 0
    · subst h0
      exact ⟨[], .inr (.inl ⟨x, cap, rfl, rfl⟩), rfl, by simp⟩
    · obtain ⟨b, off, spot⟩ := x
      have hz' : zs.length = cap := by simpa using hz
      have hc0 := hcell 0 (by omega)
      have hspot : spot = none := by simpa [Addr.add] using World.cell?_spot hc0
      subst hspot
      have hlt := block_lt (by rw [addoff] at hc0; exact hc0)
      have hlen : (bytesOf (zs.take len)).length = len := by simp [bytesOf]; omega
      refine ⟨bytesOf (zs.take len), .inr (.inr ⟨b, off, cap, by rw [hlen], hlt, fun j hj => ?_⟩), hlen, by omega⟩
      have hj' : j < zs.length := by omega
      have h1 := hcell j hj'
      rw [addoff] at h1
      rw [h1]
      have h2 : (bytesOf (zs.take len))[j] = UInt8.ofNat (zs.getD j 0).toNat := by simp [bytesOf, List.getD, hj']
      rw [h2, u8_back (hwz _ (by simp [List.getD, hj']))]
theorem u32_nat {z : Int} (h : (Lit.int .u32 z).wf = true) : ∃ n : Nat, z = n ∧ n < 4294967296 := by
  simp [Lit.wf, show IntKind.u32.min = 0 from rfl, show IntKind.u32.max = 4294967295 from rfl] at h
  exact ⟨z.toNat, by omega, by omega⟩
end Go.Proofs.YtecioakbgggdfaaDoor
