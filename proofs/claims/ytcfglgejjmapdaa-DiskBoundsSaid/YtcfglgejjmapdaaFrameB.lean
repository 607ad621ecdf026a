/- Arguments of bytes and of numbers. -/
import Derived.Test.YtcfglgejjmapdaaFrameF
import Derived.Test.YtcfglgejjmapdaaCrs
namespace Go.Proofs.Ytcfglgejjmapdaa
open Go Go.RowKit
open Go.ChangeShapes Go.WideShapes Go.ChangeAt Go.Deep
theorem cells5 : Try.prog.cellsOf 5 = 1 := by kernel_rfl
theorem cells3 : Try.prog.cellsOf 3 = 1 := by kernel_rfl
/-- The bytes that a row of numbers stands for. -/
def bytesOf (zs : List Int) : List UInt8 := zs.map fun z => UInt8.ofNat z.toNat
theorem u8_back {z : Int} (h : (Lit.int .u8 z).wf = true) : ((UInt8.ofNat z.toNat).toNat : Int) = z := by
  simp [Lit.wf, show IntKind.u8.min = 0 from rfl, show IntKind.u8.max = 255 from rfl] at h
  simp
  omega
section
variable {H : Type} {enc : TypeId × Value → H} {W : World}
/-- An argument of bytes. -/
theorem bytes_of {fuel : Nat} {v : Value} {x : DataW H × List MemPlace} (h : DataW.trod enc Try.prog W 0 (fun _ => true) true fuel 35 [v] = some x) :
    ∃ A n c l, v = .slice A n c ∧ List.length l = n ∧ n ≤ c ∧ c ≤ maxLen ∧ (A = none → c = 0) ∧ Rd W A l := by
  rcases open_ints Try.underlying35 Try.underlying5 cells5 h with ⟨hcs, _⟩ | ⟨a, l, c, zs, hcs, _, hl, hm, hz, _, hcell, hwz⟩
  · simp at hcs
    exact ⟨none, 0, 0, [], hcs, rfl, Nat.le_refl _, by simp [maxLen], fun _ => rfl, Rd.nil _ _⟩
  · simp at hcs
    have hz' : zs.length = c := by simpa using hz
    have hlen : (bytesOf (zs.take l)).length = l := by simp [bytesOf]; omega
    refine ⟨some a, l, c, bytesOf (zs.take l), hcs, hlen, hl, hm, (fun h => by cases h), fun h0 => ?_⟩
    obtain ⟨b, off, spot⟩ := a
    have hc0 := hcell 0 (by omega)
    have hspot : spot = none := by simpa [Addr.add] using World.cell?_spot hc0
    subst hspot
    rw [addoff] at hc0
    refine ⟨b, off, rfl, block_lt hc0, fun j hj => ?_⟩
    have hj' : j < zs.length := by omega
    have h1 := hcell j hj'
    rw [addoff] at h1
    rw [h1]
    have h2 : (bytesOf (zs.take l))[j] = UInt8.ofNat (zs.getD j 0).toNat := by simp [bytesOf, List.getD, hj']
    rw [h2, u8_back (hwz _ (by simp [List.getD, hj']))]
/-- An argument of numbers. -/
theorem ints_of {fuel : Nat} {v : Value} {x : DataW H × List MemPlace} (h : DataW.trod enc Try.prog W 0 (fun _ => true) true fuel 55 [v] = some x) :
    ∃ A n c l, v = .slice A n c ∧ List.length l = n ∧ n ≤ c ∧ c ≤ maxLen ∧ (A = none → c = 0) ∧ RdV W A (intsV l) ∧ ∀ z ∈ l, -9223372036854775808 ≤ z ∧ z ≤ 9223372036854775807 := by
  rcases open_ints Try.underlying55 Try.underlying3 cells3 h with ⟨hcs, _⟩ | ⟨a, l, c, zs, hcs, _, hl, hm, hz, _, hcell, hwz⟩
  · simp at hcs
    exact ⟨none, 0, 0, [], hcs, rfl, Nat.le_refl _, by simp [maxLen], fun _ => rfl, RdV.nil _ _, fun z hz => by cases hz⟩
  · simp at hcs
    have hz' : zs.length = c := by simpa using hz
    have hlen : (zs.take l).length = l := by rw [List.length_take]; omega
    refine ⟨some a, l, c, zs.take l, hcs, hlen, hl, hm, (fun h => by cases h), fun h0 => ?_, fun z hz => wf_i64 (hwz z (List.mem_of_mem_take hz))⟩
    have h0' : 0 < l := by simp [intsV] at h0; omega
    obtain ⟨b, off, spot⟩ := a
    have hc0 := hcell 0 (by omega)
    have hspot : spot = none := by simpa [Addr.add] using World.cell?_spot hc0
    subst hspot
    rw [addoff] at hc0
    refine ⟨b, off, rfl, block_lt hc0, fun j hj => ?_⟩
    have hjl : j < l := by simp [intsV] at hj; omega
    have hj' : j < zs.length := by omega
    have h1 := hcell j hj'
    rw [addoff] at h1
    rw [h1]
    simp [intsV, List.getD, hj']
end
end Go.Proofs.Ytcfglgejjmapdaa
