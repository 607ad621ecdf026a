/- What a byte may be in a word: the program's and the reference's. -/
import Derived.Test.YtejicjcdbfjajaaDoorBase
namespace Go.Proofs.YtejicjcdbfjajaaDoor
open Go Go.RowKit
def isL (n : Nat) : Bool := decide (97 ≤ n ∧ n ≤ 122) || decide (65 ≤ n ∧ n ≤ 90) || decide (n = 95)
def isD (n : Nat) : Bool := decide (48 ≤ n ∧ n ≤ 57)
def clsN (n : Nat) : Int := if isL n then 1 else if isD n then 2 else 0
theorem byte_kinds (n : Nat) : n < 48 ∨ (48 ≤ n ∧ n ≤ 57) ∨ (58 ≤ n ∧ n ≤ 64) ∨ (65 ≤ n ∧ n ≤ 90) ∨ (91 ≤ n ∧ n ≤ 94) ∨ n = 95 ∨ n = 96 ∨ (97 ≤ n ∧ n ≤ 122) ∨ 123 ≤ n := by omega
theorem eq_dec {a b : Nat} (h : a ≠ b) : ((a : Int) == (b : Int)) = false := by simp; omega
set_option maxHeartbeats 2000000 in
theorem class_any (n : Nat) (w : World) : Calls Tryd.prog 54 #[.int .u8 n] w fun e w' => e = .returned (.int .i64 (clsN n)) ∧ w' = w := by
  rcases byte_kinds n with h | ⟨h, k⟩ | ⟨h, k⟩ | ⟨h, k⟩ | ⟨h, k⟩ | h | h | ⟨h, k⟩ | h
  all_goals
    have a1 : decide ((97 : Int) ≤ (n : Int)) = decide (97 ≤ n) := by simp; omega
    have a2 : decide ((n : Int) ≤ 122) = decide (n ≤ 122) := by simp; omega
    have a3 : decide ((65 : Int) ≤ (n : Int)) = decide (65 ≤ n) := by simp; omega
    have a4 : decide ((n : Int) ≤ 90) = decide (n ≤ 90) := by simp; omega
    have a5 : ((n : Int) == 95) = decide (n = 95) := by rw [Bool.eq_iff_iff]; simp; omega
    have a6 : decide ((48 : Int) ≤ (n : Int)) = decide (48 ≤ n) := by simp; omega
    have a7 : decide ((n : Int) ≤ 57) = decide (n ≤ 57) := by simp; omega
  all_goals
    go_enter Tryd.func54, Tryd.ntmps54
    go_wp2
    go_ret
    exact ⟨ret_int (by simp only [clsN, isL, isD]; simp; omega), rfl⟩
end Go.Proofs.YtejicjcdbfjajaaDoor
