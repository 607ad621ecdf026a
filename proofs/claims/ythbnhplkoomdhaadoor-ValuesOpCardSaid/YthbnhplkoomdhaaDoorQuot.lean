/- What the quotient and what is left of two numbers tell. -/
import Derived.Test.YthbnhplkoomdhaaDoorReck
namespace Go.Proofs.YthbnhplkoomdhaaDoor
open Go Go.RowKit
theorem tdiv_fits (a b : Int) (ha : Fits a) (hb0 : b ≠ 0) (h : ¬ (a = -9223372036854775808 ∧ b = -1)) : Fits (a.tdiv b) := by
  have hna := Int.natAbs_tdiv_le_natAbs a b
  unfold Fits at *
  by_cases hn : a = -9223372036854775808
  · have hb1 : b ≠ -1 := fun e => h ⟨hn, e⟩
    by_cases hb2 : b = 1
    · subst hb2; rw [Int.tdiv_one]; exact ha
    · have hnat : (a.tdiv b).natAbs = a.natAbs / b.natAbs := Int.natAbs_tdiv a b
      have h2 : 2 ≤ b.natAbs := by omega
      have h3 : a.natAbs / b.natAbs ≤ a.natAbs / 2 := Nat.div_le_div_left h2 (by omega)
      have h4 : a.natAbs = 9223372036854775808 := by omega
      omega
  · omega
theorem bne_of (x y : Int) (h : x ≠ y) : (x != y) = true := by simpa using h
theorem bne_no (x y : Int) (h : x = y) : (x != y) = false := by simpa using h
theorem div_zero (a b : Int) (w : World) (h : b = 0) :
    Calls Tryd.prog 31 #[.int .i64 a, .int .i64 b] w fun e w' => e = .returned (.tuple #[.int .i64 0, .string { data := #[122, 101, 114, 111] }]) ∧ w' = w := by
  have d1 := beq_of b 0 h
  clear h
  go_enter Tryd.func31, Tryd.ntmps31
  go_wp2
  go_ret2
  exact ⟨rfl, rfl⟩
theorem rest_zero (a b : Int) (w : World) (h : b = 0) :
    Calls Tryd.prog 32 #[.int .i64 a, .int .i64 b] w fun e w' => e = .returned (.tuple #[.int .i64 0, .string { data := #[122, 101, 114, 111] }]) ∧ w' = w := by
  have d1 := beq_of b 0 h
  clear h
  go_enter Tryd.func32, Tryd.ntmps32
  go_wp2
  go_ret2
  exact ⟨rfl, rfl⟩
theorem div_over (a b : Int) (w : World) (h : a = -9223372036854775808 ∧ b = -1) :
    Calls Tryd.prog 31 #[.int .i64 a, .int .i64 b] w fun e w' => e = .returned (.tuple #[.int .i64 0, .string { data := #[111, 118, 101, 114] }]) ∧ w' = w := by
  have d1 := beq_no b 0 (by omega)
  have d2 := beq_of _ _ h.1
  have d3 := beq_of _ _ h.2
  clear h
  go_enter Tryd.func31, Tryd.ntmps31
  go_wp2
  go_ret2
  exact ⟨rfl, rfl⟩
theorem div_fine (a b : Int) (w : World) (ha : Fits a) (hb : Fits b) (hb0 : b ≠ 0) (h : ¬ (a = -9223372036854775808 ∧ b = -1)) :
    Calls Tryd.prog 31 #[.int .i64 a, .int .i64 b] w fun e w' => e = .returned (.tuple #[.int .i64 (divV a b), .string { data := #[] }]) ∧ w' = w := by
  have hf := tdiv_fits a b ha hb0 h
  have hs := tmod_small a b hb0
  have hmd := Int.mul_tdiv_add_tmod a b
  have hside := tmod_side a b
  have d1 := beq_no _ _ hb0
  have HD : Hid (divV a b = if a.tmod b ≠ 0 ∧ (decide (a < 0) ≠ decide (b < 0)) then a.tdiv b - 1 else a.tdiv b) := rfl
  have hlow : a.tmod b ≠ 0 → (decide (a < 0) ≠ decide (b < 0)) → -9223372036854775808 < a.tdiv b := by
    intro h1 h2
    rcases Int.lt_or_le (-9223372036854775808) (a.tdiv b) with h3 | h3
    · exact h3
    · exfalso
      have h4 : a.tdiv b = -9223372036854775808 := by unfold Fits at hf; omega
      rw [h4] at hmd
      have : b = 1 ∨ b ≤ 0 ∨ 2 ≤ b := by omega
      unfold Fits at *
      rcases this with rfl | h5 | h5
      · simp at h1
      · have : b = -1 ∨ b ≤ -2 := by omega
        rcases this with rfl | h6
        · simp at h1
        · omega
      · omega
  generalize hq : a.tdiv b = q at *
  generalize hr : a.tmod b = r at *
  unfold Fits at *
  have d2 : (a == -9223372036854775808) = true ∧ (b == -1) = false ∨ (a == -9223372036854775808) = false := by
    by_cases e : a = -9223372036854775808
    · exact .inl ⟨beq_of _ _ e, beq_no _ _ (fun e2 => h ⟨e, e2⟩)⟩
    · exact .inr (beq_no _ _ e)
  clear h hs hmd hside
  by_cases hr0 : r = 0
  · have d3 := bne_no _ _ hr0
    have hv : divV a b = q := by rw [HD.out, if_neg (fun e => e.1 hr0)]
    have HV := Lib.hid hv
    clear hv hlow hr0
    rcases d2 with ⟨d2, d4⟩ | d2
    · go_enter Tryd.func31, Tryd.ntmps31
      go_wp2
      go_ret2
      rw [HV.out]
      exact ⟨rfl, rfl⟩
    · go_enter Tryd.func31, Tryd.ntmps31
      go_wp2
      go_ret2
      rw [HV.out]
      exact ⟨rfl, rfl⟩
  · have d3 := bne_of _ _ hr0
    by_cases hsg : decide (a < 0) = decide (b < 0)
    · have hv : divV a b = q := by rw [HD.out, if_neg (fun e => e.2 hsg)]
      have HV := Lib.hid hv
      have d5 : (decide (a < 0) != decide (b < 0)) = false := by rw [hsg]; simp
      clear hv hlow hr0
      by_cases sa : a < 0
      · have sb : b < 0 := by simpa [sa] using hsg
        have x1 : decide (a < 0) = true := by simpa using sa
        have x2 : decide (b < 0) = true := by simpa using sb
        clear hsg sa sb
        rcases d2 with ⟨d2, d4⟩ | d2
        · go_enter Tryd.func31, Tryd.ntmps31
          go_wp2
          go_ret2
          rw [HV.out]
          exact ⟨rfl, rfl⟩
        · go_enter Tryd.func31, Tryd.ntmps31
          go_wp2
          go_ret2
          rw [HV.out]
          exact ⟨rfl, rfl⟩
      · have sb : ¬ b < 0 := by simpa [sa] using hsg
        have x1 : decide (a < 0) = false := by simpa using sa
        have x2 : decide (b < 0) = false := by simpa using sb
        clear hsg
        rcases d2 with ⟨d2, d4⟩ | d2
        · go_enter Tryd.func31, Tryd.ntmps31
          go_wp2
          go_ret2
          rw [HV.out]
          exact ⟨rfl, rfl⟩
        · go_enter Tryd.func31, Tryd.ntmps31
          go_wp2
          go_ret2
          rw [HV.out]
          exact ⟨rfl, rfl⟩
    · have hl := hlow hr0 hsg
      have hv : divV a b = q - 1 := by rw [HD.out, if_pos ⟨hr0, hsg⟩]
      have HV := Lib.hid hv
      clear hv hlow hr0
      by_cases sa : a < 0
      · have sb : ¬ b < 0 := by simpa [sa] using hsg
        have x1 : decide (a < 0) = true := by simpa using sa
        have x2 : decide (b < 0) = false := by simpa using sb
        clear hsg
        rcases d2 with ⟨d2, d4⟩ | d2
        · go_enter Tryd.func31, Tryd.ntmps31
          go_wp2
          go_ret2
          rw [HV.out]
          exact ⟨rfl, rfl⟩
        · go_enter Tryd.func31, Tryd.ntmps31
          go_wp2
          go_ret2
          rw [HV.out]
          exact ⟨rfl, rfl⟩
      · have sb : b < 0 := by simpa [sa] using hsg
        have x1 : decide (a < 0) = false := by simpa using sa
        have x2 : decide (b < 0) = true := by simpa using sb
        clear hsg
        rcases d2 with ⟨d2, d4⟩ | d2
        · go_enter Tryd.func31, Tryd.ntmps31
          go_wp2
          go_ret2
          rw [HV.out]
          exact ⟨rfl, rfl⟩
        · go_enter Tryd.func31, Tryd.ntmps31
          go_wp2
          go_ret2
          rw [HV.out]
          exact ⟨rfl, rfl⟩
theorem rest_fine (a b : Int) (w : World) (ha : Fits a) (hb : Fits b) (hb0 : b ≠ 0) :
    Calls Tryd.prog 32 #[.int .i64 a, .int .i64 b] w fun e w' => e = .returned (.tuple #[.int .i64 (modV a b), .string { data := #[] }]) ∧ w' = w := by
  have hs := tmod_small a b hb0
  have d1 := beq_no _ _ hb0
  have HD : Hid (modV a b = if a.tmod b ≠ 0 ∧ (decide (a.tmod b < 0) ≠ decide (b < 0)) then a.tmod b + b else a.tmod b) := rfl
  generalize hr : a.tmod b = r at *
  unfold Fits at *
  have hrf : -9223372036854775808 ≤ r ∧ r ≤ 9223372036854775807 := by omega
  by_cases hr0 : r = 0
  · have d3 := bne_no _ _ hr0
    have hv : modV a b = r := by rw [HD.out, if_neg (fun e => e.1 hr0)]
    have HV := Lib.hid hv
    clear hv hr0 hs
    go_enter Tryd.func32, Tryd.ntmps32
    go_wp2
    go_ret2
    rw [HV.out]
    exact ⟨rfl, rfl⟩
  · have d3 := bne_of _ _ hr0
    by_cases sa : r < 0
    · have x1 : decide (r < 0) = true := by simpa using sa
      by_cases sb : b < 0
      · have x2 : decide (b < 0) = true := by simpa using sb
        have hv : modV a b = r := by rw [HD.out, if_neg (fun e => e.2 (x1.trans x2.symm))]
        have HV := Lib.hid hv
        clear hv hr0 hs
        go_enter Tryd.func32, Tryd.ntmps32
        go_wp2
        go_ret2
        rw [HV.out]
        exact ⟨rfl, rfl⟩
      · have x2 : decide (b < 0) = false := by simpa using sb
        have hv : modV a b = r + b := by rw [HD.out, if_pos ⟨hr0, by rw [x1, x2]; decide⟩]
        have HV := Lib.hid hv
        have hfit : -9223372036854775808 ≤ r + b ∧ r + b ≤ 9223372036854775807 := by omega
        clear hv hr0 hs
        go_enter Tryd.func32, Tryd.ntmps32
        go_wp2
        go_ret2
        rw [HV.out]
        exact ⟨rfl, rfl⟩
    · have x1 : decide (r < 0) = false := by simpa using sa
      by_cases sb : b < 0
      · have x2 : decide (b < 0) = true := by simpa using sb
        have hv : modV a b = r + b := by rw [HD.out, if_pos ⟨hr0, by rw [x1, x2]; decide⟩]
        have HV := Lib.hid hv
        have hfit : -9223372036854775808 ≤ r + b ∧ r + b ≤ 9223372036854775807 := by omega
        clear hv hr0 hs
        go_enter Tryd.func32, Tryd.ntmps32
        go_wp2
        go_ret2
        rw [HV.out]
        exact ⟨rfl, rfl⟩
      · have x2 : decide (b < 0) = false := by simpa using sb
        have hv : modV a b = r := by rw [HD.out, if_neg (fun e => e.2 (x1.trans x2.symm))]
        have HV := Lib.hid hv
        clear hv hr0 hs
        go_enter Tryd.func32, Tryd.ntmps32
        go_wp2
        go_ret2
        rw [HV.out]
        exact ⟨rfl, rfl⟩
theorem divV_fits (a b : Int) (ha : Fits a) (hb : Fits b) (hb0 : b ≠ 0) (h : ¬ (a = -9223372036854775808 ∧ b = -1)) : Fits (divV a b) := by
  have hf := tdiv_fits a b ha hb0 h
  have hmd := Int.mul_tdiv_add_tmod a b
  unfold divV
  split
  · rename_i hc
    have hlow : -9223372036854775808 < a.tdiv b := by
      rcases Int.lt_or_le (-9223372036854775808) (a.tdiv b) with h3 | h3
      · exact h3
      · exfalso
        have h4 : a.tdiv b = -9223372036854775808 := by unfold Fits at hf; omega
        have hs := tmod_small a b hb0
        have h1 := hc.1
        rw [h4] at hmd
        have : b = 1 ∨ b ≤ 0 ∨ 2 ≤ b := by omega
        unfold Fits at *
        rcases this with rfl | h5 | h5
        · simp at h1
        · have : b = -1 ∨ b ≤ -2 := by omega
          rcases this with rfl | h6
          · simp at h1
          · omega
        · omega
    unfold Fits at *
    omega
  · exact hf
theorem modV_fits (a b : Int) (hb : Fits b) (hb0 : b ≠ 0) : Fits (modV a b) := by
  have hs := tmod_small a b hb0
  unfold modV Fits at *
  split
  · rename_i hc
    obtain ⟨h1, h2⟩ := hc
    by_cases h3 : a.tmod b < 0 <;> by_cases h4 : b < 0 <;> simp [h3, h4] at h2
    · omega
    · omega
  · omega
end Go.Proofs.YthbnhplkoomdhaaDoor
