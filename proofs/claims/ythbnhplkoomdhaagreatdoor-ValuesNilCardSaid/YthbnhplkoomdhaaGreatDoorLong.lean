/- Whether a text of a list of values is long. -/
import Derived.Test.YthbnhplkoomdhaaGreatDoorMap
import Derived.Below
import Derived.WalkKit
import Derived.WalkSpells
import Derived.Outline
import Derived.Lib.Hide
import Derived.IntWalk
namespace Go.Proofs.YthbnhplkoomdhaaGreatDoor
open Go Go.RowKit
set_option maxHeartbeats 1000000 in
theorem long_any (b n : Nat) (ts : Nat → ByteArray) (w : World) (h : ∀ j, j < n → w.cell? ⟨b, 3 * j + 2, none⟩ = some (.string (ts j))) (hn : n ≤ 1000) :
    Calls Tryz.prog 14 #[.slice (some ⟨b, 0, none⟩) n n] w fun e w' => (∃ v, e = .returned (.bool v)) ∧ w' = w := by
  have H := Lib.hid h
  clear h
  go_enter Tryz.func14, Tryz.ntmps14
  go_wp2
  go_loop [3] (fun i => ∃ k : Nat, k ≤ n ∧ i = .int .i64 k) (fun i => n - (intOf i).toNat)
  case atStart => exact ⟨0, Nat.zero_le _, rfl⟩
  case round =>
    obtain ⟨k, hk, rfl⟩ := hrel
    by_cases hlt : k < n
    · have hc := H.out k hlt
      have hk0 : (0 : Int) ≤ (k : Int) := by omega
      have hk1 : (k : Int) < (n : Int) := by omega
      have dk : decide ((k : Int) < (n : Int)) = true := by simp; omega
      have e1 : 0 + k * 3 + 2 = 3 * k + 2 := by omega
      have e2 : k * 3 + 2 = 3 * k + 2 := by omega
      have e3 : (0 : Nat) + k * 3 = 3 * k := by omega
      have e4 : k * 3 = 3 * k := by omega
      by_cases hs : (ts k).size ≤ 500
      · have ds : decide (((ts k).size : Int) > 500) = false := by simp; omega
        go_wp2_with fail
        exact ⟨⟨k + 1, by omega, by simp⟩, by simp [intOf]; omega⟩
      · have ds : decide (((ts k).size : Int) > 500) = true := by simp; omega
        go_wp2_with fail
        go_ret
        exact ⟨.inr rfl, rfl⟩
    · have dk : decide ((k : Int) < (n : Int)) = false := by simp; omega
      go_wp2_with fail
      go_ret
      exact ⟨.inl rfl, rfl⟩
end Go.Proofs.YthbnhplkoomdhaaGreatDoor
