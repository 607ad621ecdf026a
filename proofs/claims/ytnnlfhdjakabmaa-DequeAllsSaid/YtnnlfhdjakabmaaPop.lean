/- A list without its first or last text. -/
import Derived.Test.YtnnlfhdjakabmaaDp
import Derived.Deep.QuietTactic
import Derived.BigQuiet
namespace Go.Proofs.Ytnnlfhdjakabmaa
open Go Go.RowKit
open Go.Shelf
theorem pop_nil (A : Option Addr) (c : Nat) (b : Bool) (w : World) : Calls Try.prog 38 #[.slice A 0 c, .bool b] w fun e w' => e = .returned (.tuple #[.slice A 0 c, .string ⟨#[]⟩]) ∧ w' = w := by
  go_enter Try.func38, Try.ntmps38
  go_wp2
  go_ret2
  exact ⟨rfl, rfl⟩
theorem pop_front (b off m c : Nat) (t : ByteArray) (w : World) (hm : m ≤ 1000) (hmc : m + 1 ≤ c) (h : w.cell? ⟨b, off, none⟩ = some (.string t)) :
    Calls Try.prog 38 #[.slice (some ⟨b, off, none⟩) (m + 1) c, .bool false] w fun e w' => e = .returned (.tuple #[.slice (subA (some ⟨b, off, none⟩) 1 c) m (c - 1), .string t]) ∧ ∃ q, w' = w.drewN q := by
  have e0 : (((m + 1 : Nat) : Int) == 0) = false := by simp; omega
  have e1 : (m + 1 == 0) = false := by simp
  have e2 : (1 : Int) ≤ ((m + 1 : Nat) : Int) := by omega
  have e3 : (0 : Int) < ((m + 1 : Nat) : Int) := by omega
  go_enter Try.func38, Try.ntmps38
  go_wp2
  go_quiet (fail)
  go_wp2
  all_goals
    go_ret2
    refine ⟨?_, _, rfl⟩
    unfold subA
    first
      | (rw [if_pos rfl]; rfl)
      | (rw [if_pos (by assumption)]; rfl)
      | (rw [if_neg (by assumption)]; rfl)
theorem pop_back (b off m c : Nat) (t : ByteArray) (w : World) (hm : m ≤ 1000) (hmc : m + 1 ≤ c) (h : w.cell? ⟨b, off + m, none⟩ = some (.string t)) :
    Calls Try.prog 38 #[.slice (some ⟨b, off, none⟩) (m + 1) c, .bool true] w fun e w' => e = .returned (.tuple #[.slice (some ⟨b, off, none⟩) m c, .string t]) ∧ ∃ q, w' = w.drewN q := by
  have e0 : (((m + 1 : Nat) : Int) == 0) = false := by simp; omega
  have e1 : (m + 1 == 0) = false := by simp
  have e2 : IntKind.i64.wrap (((m + 1 : Nat) : Int) - 1) = (m : Int) := by rw [IntKind.wrap_i64]; omega
  go_enter Try.func38, Try.ntmps38
  go_wp2
  go_quiet (fail)
  go_wp2
  go_ret2
  exact ⟨rfl, _, rfl⟩
end Go.Proofs.Ytnnlfhdjakabmaa
