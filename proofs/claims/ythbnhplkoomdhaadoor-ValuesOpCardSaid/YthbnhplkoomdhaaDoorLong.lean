/- Whether a text of a list of values is long. -/
import Derived.Test.YthbnhplkoomdhaaDoorMap
import Derived.Below
import Derived.WalkKit
import Derived.WalkSpells
import Derived.Outline
import Derived.Lib.Hide
import Derived.IntWalk
import Derived.Test.YthbnhplkoomdhaaDoorRec
namespace Go.Proofs.YthbnhplkoomdhaaDoor
open Go Go.RowKit
theorem all_next {k : Nat} {ts : Nat → ByteArray} (h : ∀ j, j < k → (ts j).size ≤ 500) (hk : (ts k).size ≤ 500) : ∀ j, j < k + 1 → (ts j).size ≤ 500 := fun j hj => by
  rcases Nat.lt_or_ge j k with h1 | h1
  · exact h j h1
  · obtain rfl : j = k := by omega
    exact hk
set_option maxHeartbeats 1000000 in
theorem long_any (b n : Nat) (ts : Nat → ByteArray) (w : World) (h : ∀ j, j < n → w.cell? ⟨b, 3 * j + 2, none⟩ = some (.string (ts j))) (hn : n ≤ 1000) :
    Calls Tryd.prog 6 #[.slice (some ⟨b, 0, none⟩) n n] w fun e w' => (∃ v, e = .returned (.bool v) ∧ (v = false → ∀ j, j < n → (ts j).size ≤ 500) ∧ (v = true → ∃ j, j < n ∧ 500 < (ts j).size)) ∧ w' = w := by
  have H := Lib.hid h
  clear h
  go_enter Tryd.func6, Tryd.ntmps6
  go_wp2
  go_loop [3] (fun i => ∃ k : Nat, k ≤ n ∧ i = .int .i64 k ∧ Hid (∀ j, j < k → (ts j).size ≤ 500)) (fun i => n - (intOf i).toNat)
  case atStart => exact ⟨0, Nat.zero_le _, rfl, fun j hj => absurd hj (by omega)⟩
  case round =>
    obtain ⟨k, hk, rfl, HA⟩ := hrel
    by_cases hlt : k < n
    · have hc := H.out k hlt
      have hk0 : (0 : Int) ≤ (k : Int) := by omega
      have hk1 : (k : Int) < (n : Int) := by omega
      have dk : decide ((k : Int) < (n : Int)) = true := by simp; omega
      have e1 : 0 + k * 3 + 2 = 3 * k + 2 := by omega
      have e2 : k * 3 + 2 = 3 * k + 2 := by omega
      have e3 : (0 : Nat) + k * 3 = 3 * k := by omega
      have e4 : k * 3 = 3 * k := by omega
      by_cases hs : (ts k).size ≤ 500
      · have HS := Lib.hid hs
        have ds : decide (((ts k).size : Int) > 500) = false := by simp; omega
        go_wp2_with fail
        exact ⟨⟨k + 1, by omega, by simp, all_next HA.out HS.out⟩, by simp [intOf]; omega⟩
      · have ds : decide (((ts k).size : Int) > 500) = true := by simp; omega
        go_wp2_with fail
        go_ret
        refine ⟨?_, rfl⟩
        first | exact .inr ⟨rfl, k, hlt, by omega⟩ | exact ⟨true, rfl, fun h => by cases h, fun _ => ⟨k, hlt, by omega⟩⟩
    · have dk : decide ((k : Int) < (n : Int)) = false := by simp; omega
      go_wp2_with fail
      go_ret
      refine ⟨?_, rfl⟩
      first | exact .inl ⟨rfl, fun j hj => HA.out j (by omega)⟩ | exact ⟨false, rfl, fun _ j hj => HA.out j (by omega), fun h => by cases h⟩
theorem long_two (b : Nat) (W : World) (k n k' n' : Int) (t t' : Array UInt8) (h : W.heap[b]? = some (.cells #[.int .i64 k, .int .i64 n, .string { data := t }, .int .i64 k', .int .i64 n', .string { data := t' }] 24 (0, 0))) :
    Calls Tryd.prog 6 #[.slice (some ⟨b, 0, none⟩) 2 2] W fun e w' => e = .returned (.bool (decide (500 < t.size ∨ 500 < t'.size))) ∧ w' = W := by
  refine (long_any b 2 (fun j => if j = 0 then { data := t } else { data := t' }) W (fun j hj => ?_) (by omega)).mono ?_
  · match j, hj with
    | 0, _ => rw [cell_of_row W b _ _ 24 (0, 0) h]; rfl
    | 1, _ => rw [cell_of_row W b _ _ 24 (0, 0) h]; rfl
  · rintro e w' ⟨⟨v, rfl, h1, h2⟩, rfl⟩
    refine ⟨?_, rfl⟩
    cases v
    · have a0 := h1 rfl 0 (by omega)
      have a1 := h1 rfl 1 (by omega)
      simp [ByteArray.size] at a0 a1
      have : ¬ (500 < t.size ∨ 500 < t'.size) := by omega
      simp [this]
    · obtain ⟨j, hj, hs⟩ := h2 rfl
      have : 500 < t.size ∨ 500 < t'.size := by
        match j, hj with
        | 0, _ => exact .inl (by simpa [ByteArray.size] using hs)
        | 1, _ => exact .inr (by simpa [ByteArray.size] using hs)
      simp [this]
end Go.Proofs.YthbnhplkoomdhaaDoor
