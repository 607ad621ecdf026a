/- Quotients that are rounded down, what is left, and products that are not too great. -/
import Derived.IntWalk
namespace Go.Proofs.YthbnhplkoomdhaaDoor
open Go Go.RowKit
abbrev Fits (n : Int) : Prop := -9223372036854775808 ≤ n ∧ n ≤ 9223372036854775807
theorem wrap_turns (z : Int) : ∃ k : Int, IntKind.i64.wrap z = z - k * 18446744073709551616 ∧ Fits (IntKind.i64.wrap z) := by
  rw [IntKind.wrap_i64]
  refine ⟨(z + 9223372036854775808) / 18446744073709551616, ?_, ?_⟩ <;> omega
/-- Down to the lower number. -/
def divV (a b : Int) : Int := if a.tmod b ≠ 0 ∧ (decide (a < 0) ≠ decide (b < 0)) then a.tdiv b - 1 else a.tdiv b
def modV (a b : Int) : Int := if a.tmod b ≠ 0 ∧ (decide (a.tmod b < 0) ≠ decide (b < 0)) then a.tmod b + b else a.tmod b
theorem tmod_small (a b : Int) (hb : b ≠ 0) : -(b.natAbs : Int) < a.tmod b ∧ a.tmod b < b.natAbs := by
  have h := Int.natAbs_tmod a b
  have h2 : a.natAbs % b.natAbs < b.natAbs := Nat.mod_lt _ (Int.natAbs_pos.2 hb)
  omega
theorem tmod_side (a b : Int) (h : a.tmod b ≠ 0) : (a.tmod b < 0) ↔ (a < 0) := by
  constructor
  · intro h1
    rcases Int.lt_or_le a 0 with h2 | h2
    · exact h2
    · have := Int.tmod_nonneg b h2; omega
  · intro h1
    have h2 : (-a).tmod b ≥ 0 := Int.tmod_nonneg b (by omega)
    rw [Int.neg_tmod] at h2
    omega
theorem div_mod (a b : Int) : divV a b * b + modV a b = a := by
  have h := Int.mul_tdiv_add_tmod a b
  have hc : a.tdiv b * b = b * a.tdiv b := Int.mul_comm _ _
  unfold divV modV
  by_cases h0 : a.tmod b = 0
  · simp only [h0, ne_eq, not_true_eq_false, false_and, if_false]; omega
  · have hs := tmod_side a b h0
    have e : decide (a.tmod b < 0) = decide (a < 0) := by simp [hs]
    rw [e]
    split
    · rw [Int.sub_mul]; omega
    · omega
theorem mod_side (a b : Int) (hb : b ≠ 0) : modV a b = 0 ∨ (decide (modV a b < 0) = decide (b < 0)) := by
  have hs := tmod_small a b hb
  unfold modV
  split
  · rename_i h
    obtain ⟨h1, h2⟩ := h
    by_cases h3 : a.tmod b < 0 <;> by_cases h4 : b < 0 <;> simp [h3, h4] at h2
    · right; have : ¬ (a.tmod b + b < 0) := by omega
      simp [this, h4]
    · right; have : a.tmod b + b < 0 := by omega
      simp [this, h4]
  · rename_i h
    by_cases h0 : a.tmod b = 0
    · left; exact h0
    · right; simpa [h0] using h
/-- A product that is not too great. -/
theorem mul_exact (a b : Int) (ha : Fits a) (hb : Fits b) (hb0 : b ≠ 0) (h1 : ¬ (a = -9223372036854775808 ∧ b = -1))
    (hq : IntKind.i64.wrap ((IntKind.i64.wrap (a * b)).tdiv b) = a) : IntKind.i64.wrap (a * b) = a * b := by
  obtain ⟨k, hk, hf⟩ := wrap_turns (a * b)
  generalize IntKind.i64.wrap (a * b) = n at *
  have hmd := Int.mul_tdiv_add_tmod n b
  have hs := tmod_small n b hb0
  have hqd : n.tdiv b = a := by
    by_cases hx : n = -9223372036854775808 ∧ b = -1
    · obtain ⟨rfl, rfl⟩ := hx
      exfalso; apply h1
      refine ⟨?_, rfl⟩
      rw [← hq]; decide
    · have hfit : Fits (n.tdiv b) := by
        have hna := Int.natAbs_tdiv_le_natAbs n b
        by_cases hn : n = -9223372036854775808
        · have hb1 : b ≠ -1 := fun e => hx ⟨hn, e⟩
          by_cases hb2 : b = 1
          · subst hb2; rw [Int.tdiv_one]; exact hf
          · have hnat : (n.tdiv b).natAbs = n.natAbs / b.natAbs := Int.natAbs_tdiv n b
            have h2 : 2 ≤ b.natAbs := by omega
            have h3 : n.natAbs / b.natAbs ≤ n.natAbs / 2 := Nat.div_le_div_left h2 (by omega)
            have h4 : n.natAbs = 9223372036854775808 := by omega
            unfold Fits; omega
        · unfold Fits at *; omega
      rw [IntWalk.i64_in _ hfit] at hq
      exact hq
  rw [hqd] at hmd
  have hc : b * a = a * b := Int.mul_comm _ _
  rw [hc] at hmd
  generalize a * b = p at *
  have hbn : (b.natAbs : Int) ≤ 9223372036854775808 := by unfold Fits at hb; omega
  have : k = 0 := by omega
  subst this
  omega
end Go.Proofs.YthbnhplkoomdhaaDoor
