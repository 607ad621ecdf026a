/- What the reference reckons of two numbers. -/
import Derived.Test.YthbnhplkoomdhaaDoorHeap
import Derived.RegionTactic
namespace Go.Proofs.YthbnhplkoomdhaaDoor
open Go Go.RowKit
theorem plus_fine (a b : Int) (w : World) (ha : Fits a) (hb : Fits b) (h : Fits (a + b)) :
    Calls Tryd.prog 40 #[.int .i64 a, .int .i64 b] w fun e w' => e = .returned (.tuple #[.int .i64 (a + b), .bool true]) ∧ w' = w := by
  unfold Fits at *
  by_cases h1 : 0 < b
  · have d1 : decide (b > 0) = true := by simp; omega
    have d2 : decide (a > 9223372036854775807 - b) = false := by simp; omega
    have d3 : decide (b < 0) = false := by simp; omega
    go_enter Tryd.func40, Tryd.ntmps40
    go_wp2
    go_ret2
    exact ⟨rfl, rfl⟩
  · have d1 : decide (b > 0) = false := by simp; omega
    by_cases h2 : b < 0
    · have d3 : decide (b < 0) = true := by simp; omega
      have d4 : decide (a < -9223372036854775808 - b) = false := by simp; omega
      go_enter Tryd.func40, Tryd.ntmps40
      go_wp2
      go_ret2
      exact ⟨rfl, rfl⟩
    · have d3 : decide (b < 0) = false := by simp; omega
      go_enter Tryd.func40, Tryd.ntmps40
      go_wp2
      go_ret2
      exact ⟨rfl, rfl⟩
theorem plus_over (a b : Int) (w : World) (ha : Fits a) (hb : Fits b) (h : ¬ Fits (a + b)) :
    Calls Tryd.prog 40 #[.int .i64 a, .int .i64 b] w fun e w' => e = .returned (.tuple #[.int .i64 0, .bool false]) ∧ w' = w := by
  unfold Fits at *
  by_cases h1 : 0 < b
  · have d1 : decide (b > 0) = true := by simp; omega
    have d2 : decide (a > 9223372036854775807 - b) = true := by simp; omega
    go_enter Tryd.func40, Tryd.ntmps40
    go_wp2
    go_ret2
    exact ⟨rfl, rfl⟩
  · have d1 : decide (b > 0) = false := by simp; omega
    have d3 : decide (b < 0) = true := by simp; omega
    have d4 : decide (a < -9223372036854775808 - b) = true := by simp; omega
    go_enter Tryd.func40, Tryd.ntmps40
    go_wp2
    go_ret2
    exact ⟨rfl, rfl⟩

theorem minus_fine (a b : Int) (w : World) (ha : Fits a) (hb : Fits b) (h : Fits (a - b)) :
    Calls Tryd.prog 41 #[.int .i64 a, .int .i64 b] w fun e w' => e = .returned (.tuple #[.int .i64 (a - b), .bool true]) ∧ w' = w := by
  unfold Fits at *
  by_cases h1 : 0 < b
  · have d1 : decide (b > 0) = true := by simp; omega
    have d2 : decide (a < -9223372036854775808 + b) = false := by simp; omega
    have d3 : decide (b < 0) = false := by simp; omega
    go_enter Tryd.func41, Tryd.ntmps41
    go_wp2
    go_ret2
    exact ⟨rfl, rfl⟩
  · have d1 : decide (b > 0) = false := by simp; omega
    by_cases h2 : b < 0
    · have d3 : decide (b < 0) = true := by simp; omega
      have d4 : decide (a > 9223372036854775807 + b) = false := by simp; omega
      go_enter Tryd.func41, Tryd.ntmps41
      go_wp2
      go_ret2
      exact ⟨rfl, rfl⟩
    · have d3 : decide (b < 0) = false := by simp; omega
      go_enter Tryd.func41, Tryd.ntmps41
      go_wp2
      go_ret2
      exact ⟨rfl, rfl⟩
theorem minus_over (a b : Int) (w : World) (ha : Fits a) (hb : Fits b) (h : ¬ Fits (a - b)) :
    Calls Tryd.prog 41 #[.int .i64 a, .int .i64 b] w fun e w' => e = .returned (.tuple #[.int .i64 0, .bool false]) ∧ w' = w := by
  unfold Fits at *
  by_cases h1 : 0 < b
  · have d1 : decide (b > 0) = true := by simp; omega
    have d2 : decide (a < -9223372036854775808 + b) = true := by simp; omega
    go_enter Tryd.func41, Tryd.ntmps41
    go_wp2
    go_ret2
    exact ⟨rfl, rfl⟩
  · have d1 : decide (b > 0) = false := by simp; omega
    have d3 : decide (b < 0) = true := by simp; omega
    have d4 : decide (a > 9223372036854775807 + b) = true := by simp; omega
    go_enter Tryd.func41, Tryd.ntmps41
    go_wp2
    go_ret2
    exact ⟨rfl, rfl⟩

theorem tdiv_nat (M B : Nat) : ((M : Nat) : Int).tdiv (B : Int) = ((M / B : Nat) : Int) := rfl
theorem w64_in {z : Int} (h : Fits z) : wrap64 z = z := by rw [w64]; exact IntWalk.i64_in _ (by unfold Fits at h; omega)
theorem quo_lt (M A B : Nat) (hB : 0 < B) : M / B < A ↔ M < A * B := Nat.div_lt_iff_lt_mul hB
theorem abs_pos {a : Int} (h : 0 < a) : ∃ A : Nat, a = (A : Int) ∧ 0 < A := ⟨a.toNat, by omega, by omega⟩
theorem abs_neg {a : Int} (h : a < 0) : ∃ A : Nat, a = -(A : Int) ∧ 0 < A := ⟨(-a).toNat, by omega, by omega⟩
theorem fits_nat (M : Nat) : Fits (M : Int) ↔ M ≤ 9223372036854775807 := by unfold Fits; omega
theorem fits_neg (M : Nat) : Fits (-(M : Int)) ↔ M ≤ 9223372036854775808 := by unfold Fits; omega
theorem nn_iff (a b : Int) (h1 : a < 0) (h2 : b < 0) : (a < wrap64 (Int.tdiv 9223372036854775807 b)) ↔ ¬ Fits (a * b) := by
  obtain ⟨A, rfl, hA⟩ := abs_neg h1
  obtain ⟨B, rfl, hB⟩ := abs_neg h2
  have e : Int.tdiv 9223372036854775807 (-(B : Int)) = -((9223372036854775807 / B : Nat) : Int) := by rw [Int.tdiv_neg]; rfl
  have hq := quo_lt 9223372036854775807 A B hB
  have hle := Nat.div_le_self 9223372036854775807 B
  rw [e, Int.neg_mul_neg, ← Int.natCast_mul, fits_nat]
  generalize 9223372036854775807 / B = q at *
  rw [w64_in (by unfold Fits; omega)]
  generalize A * B = p at *
  omega
theorem pp_iff (a b : Int) (h1 : 0 < a) (h2 : 0 < b) : (-a < wrap64 (-Int.tdiv 9223372036854775807 b)) ↔ ¬ Fits (a * b) := by
  obtain ⟨A, rfl, hA⟩ := abs_pos h1
  obtain ⟨B, rfl, hB⟩ := abs_pos h2
  have e : Int.tdiv 9223372036854775807 (B : Int) = ((9223372036854775807 / B : Nat) : Int) := rfl
  have hq := quo_lt 9223372036854775807 A B hB
  have hle := Nat.div_le_self 9223372036854775807 B
  rw [e, ← Int.natCast_mul, fits_nat]
  generalize 9223372036854775807 / B = q at *
  rw [w64_in (by unfold Fits; omega)]
  generalize A * B = p at *
  omega
theorem np_iff (a b : Int) (h1 : a < 0) (h2 : 0 < b) : (a < wrap64 (-Int.tdiv 9223372036854775808 b)) ↔ ¬ Fits (a * b) := by
  obtain ⟨A, rfl, hA⟩ := abs_neg h1
  obtain ⟨B, rfl, hB⟩ := abs_pos h2
  have e : Int.tdiv 9223372036854775808 (B : Int) = ((9223372036854775808 / B : Nat) : Int) := rfl
  have hq := quo_lt 9223372036854775808 A B hB
  have hle := Nat.div_le_self 9223372036854775808 B
  rw [e, Int.neg_mul, ← Int.natCast_mul, fits_neg]
  generalize 9223372036854775808 / B = q at *
  rw [w64_in (by unfold Fits; omega)]
  generalize A * B = p at *
  omega
theorem pn_iff (a b : Int) (h1 : 0 < a) (h2 : b < 0) (h3 : b ≠ -1) : (-a < wrap64 (Int.tdiv 9223372036854775808 b)) ↔ ¬ Fits (a * b) := by
  obtain ⟨A, rfl, hA⟩ := abs_pos h1
  obtain ⟨B, rfl, hB⟩ := abs_neg h2
  have e : Int.tdiv 9223372036854775808 (-(B : Int)) = -((9223372036854775808 / B : Nat) : Int) := by rw [Int.tdiv_neg]; rfl
  have hq := quo_lt 9223372036854775808 A B hB
  have hle := Nat.div_le_self 9223372036854775808 B
  rw [e, Int.mul_neg, ← Int.natCast_mul, fits_neg]
  generalize 9223372036854775808 / B = q at *
  rw [w64_in (by unfold Fits; omega)]
  generalize A * B = p at *
  omega
theorem least_iff (a : Int) (h1 : 0 < a) : ((-a != -1) = true) ↔ ¬ Fits (a * -9223372036854775808) := by
  unfold Fits
  simp
  omega
theorem ret_it {a b : Int} {c d : Bool} (h : a = b) (h2 : c = d) : Ending.returned (.tuple #[.int .i64 a, .bool c]) = .returned (.tuple #[.int .i64 b, .bool d]) := by rw [h, h2]
theorem times_zero (a b : Int) (w : World) (h : a = 0 ∨ b = 0) :
    Calls Tryd.prog 42 #[.int .i64 a, .int .i64 b] w fun e w' => e = .returned (.tuple #[.int .i64 0, .bool true]) ∧ w' = w := by
  by_cases h1 : a = 0
  · subst h1
    clear h
    go_enter Tryd.func42, Tryd.ntmps42
    go_wp2
    go_ret2
    exact ⟨rfl, rfl⟩
  · have d1 := beq_no a 0 h1
    obtain rfl : b = 0 := h.resolve_left h1
    clear h h1
    go_enter Tryd.func42, Tryd.ntmps42
    go_wp2
    go_ret2
    exact ⟨rfl, rfl⟩
/-- What the reference tells of a product. -/
def TimesQ (z : Int) (w : World) (e : Ending) (w' : World) : Prop := e = .returned (.tuple #[.int .i64 (if Fits z then z else 0), .bool (decide (Fits z))]) ∧ w' = w
theorem times_qq (z : Int) (w : World) (v : Int) (b : Bool) (hv : v = if Fits z then z else 0) (hb : b = decide (Fits z)) : TimesQ z w (.returned (.tuple #[.int .i64 v, .bool b])) w := by
  subst hv; subst hb; exact ⟨rfl, rfl⟩
theorem no_end (z : Int) (w : World) (h : ¬ Fits z) : TimesQ z w (.returned (.tuple #[.int .i64 0, .bool false])) w := times_qq z w 0 false (by rw [if_neg h]) (by simp [h])
theorem yes_end (z : Int) (w : World) (v : Int) (h : Fits z) (hv : v = z) : TimesQ z w (.returned (.tuple #[.int .i64 v, .bool true])) w := times_qq z w v true (by rw [if_pos h]; exact hv) (by simp [h])
set_option maxHeartbeats 1000000 in
theorem times_nn (a b : Int) (w : World) (ha : Fits a) (hb : Fits b) (h1 : a < 0) (h2 : b < 0) :
    Calls Tryd.prog 42 #[.int .i64 a, .int .i64 b] w (TimesQ (a * b) w) := by
  have d1 := beq_no a 0 (by omega)
  have d2 := beq_no b 0 (by omega)
  have d3 : decide (a > 0) = false := by simp; omega
  have d4 : decide (b > 0) = false := by simp; omega
  have d5 : decide (a < 0) = true := by simp; omega
  have d6 : decide (b < 0) = true := by simp; omega
  have HI := Lib.hid (nn_iff a b h1 h2)
  unfold Fits at *
  have nb : ¬ b = 9223372036854775808 := by omega
  go_enter Tryd.func42, Tryd.ntmps42
  go_wp2
  all_goals go_ret2
  · exact no_end _ _ (HI.out.1 (by assumption))
  · have h : wrap64 (Int.tdiv 9223372036854775807 b) ≤ a := by assumption
    have hf : Fits (a * b) := Decidable.byContradiction fun hn => absurd (HI.out.2 hn) (by omega)
    exact yes_end _ _ _ hf (w64_in hf)
set_option maxHeartbeats 1000000 in
theorem times_pp (a b : Int) (w : World) (ha : Fits a) (hb : Fits b) (h1 : 0 < a) (h2 : 0 < b) :
    Calls Tryd.prog 42 #[.int .i64 a, .int .i64 b] w (TimesQ (a * b) w) := by
  have d1 := beq_no a 0 (by omega)
  have d2 := beq_no b 0 (by omega)
  have d3 : decide (a > 0) = true := by simp; omega
  have d4 : decide (b > 0) = true := by simp; omega
  have d5 : decide (a < 0) = false := by simp; omega
  have d6 : decide (b < 0) = false := by simp; omega
  have HI := Lib.hid (pp_iff a b h1 h2)
  unfold Fits at *
  have nb : ¬ b = 9223372036854775808 := by omega
  go_enter Tryd.func42, Tryd.ntmps42
  go_wp2
  all_goals go_ret2
  · exact no_end _ _ (HI.out.1 (by assumption))
  · have h : wrap64 (-Int.tdiv 9223372036854775807 b) ≤ -a := by assumption
    have hf : Fits (a * b) := Decidable.byContradiction fun hn => absurd (HI.out.2 hn) (by omega)
    exact yes_end _ _ _ hf (by rw [Int.neg_mul_neg]; exact w64_in hf)
set_option maxHeartbeats 1000000 in
theorem times_np (a b : Int) (w : World) (ha : Fits a) (hb : Fits b) (h1 : a < 0) (h2 : 0 < b) :
    Calls Tryd.prog 42 #[.int .i64 a, .int .i64 b] w (TimesQ (a * b) w) := by
  have d1 := beq_no a 0 (by omega)
  have d2 := beq_no b 0 (by omega)
  have d3 : decide (a > 0) = false := by simp; omega
  have d4 : decide (b > 0) = true := by simp; omega
  have d5 : decide (a < 0) = true := by simp; omega
  have d6 : decide (b < 0) = false := by simp; omega
  have HI := Lib.hid (np_iff a b h1 h2)
  unfold Fits at *
  have nb : ¬ b = 9223372036854775808 := by omega
  go_enter Tryd.func42, Tryd.ntmps42
  go_wp2
  all_goals go_ret2
  · exact no_end _ _ (HI.out.1 (by assumption))
  · have h : wrap64 (-Int.tdiv 9223372036854775808 b) ≤ a := by assumption
    have hf : Fits (a * b) := Decidable.byContradiction fun hn => absurd (HI.out.2 hn) (by omega)
    exact yes_end _ _ _ hf (w64_in hf)
set_option maxHeartbeats 1000000 in
theorem times_pn (a b : Int) (w : World) (ha : Fits a) (hb : Fits b) (h1 : 0 < a) (h2 : b < 0) :
    Calls Tryd.prog 42 #[.int .i64 a, .int .i64 b] w (TimesQ (a * b) w) := by
  have d1 := beq_no a 0 (by omega)
  have d2 := beq_no b 0 (by omega)
  have d3 : decide (a > 0) = true := by simp; omega
  have d4 : decide (b > 0) = false := by simp; omega
  have d5 : decide (a < 0) = false := by simp; omega
  have d6 : decide (b < 0) = true := by simp; omega
  by_cases h3 : b = -1
  · subst h3
    unfold Fits at *
    have HF : Hid (Fits (a * -1)) := Lib.hid (by unfold Fits; omega)
    go_enter Tryd.func42, Tryd.ntmps42
    go_wp2
    go_ret2
    exact yes_end _ _ _ HF.out (by omega)
  have HI := Lib.hid (pn_iff a b h1 h2 h3)
  have HL := Lib.hid (least_iff a h1)
  unfold Fits at *
  go_enter Tryd.func42, Tryd.ntmps42
  go_wp2
  all_goals go_ret2
  · have hb2 : b = -9223372036854775808 := by assumption
    exact no_end _ _ (by rw [hb2]; exact HL.out.1 (by assumption))
  · have hb2 : b = -9223372036854775808 := by assumption
    have h : (-a != -1) = false := by assumption
    have hf : Fits (a * -9223372036854775808) := Decidable.byContradiction fun hn => by have := HL.out.2 hn; rw [h] at this; cases this
    have : a = 1 := by simpa using h
    exact yes_end _ _ _ (by rw [hb2]; exact hf) (by rw [hb2, this]; rfl)
  · exact no_end _ _ (HI.out.1 (by assumption))
  · have h : wrap64 (Int.tdiv 9223372036854775808 b) ≤ -a := by assumption
    have hf : Fits (a * b) := Decidable.byContradiction fun hn => absurd (HI.out.2 hn) (by omega)
    exact yes_end _ _ _ hf (by rw [Int.neg_mul_neg]; exact w64_in hf)
theorem times_any (a b : Int) (w : World) (ha : Fits a) (hb : Fits b) : Calls Tryd.prog 42 #[.int .i64 a, .int .i64 b] w (TimesQ (a * b) w) := by
  by_cases h : a = 0 ∨ b = 0
  · have hz : a * b = 0 := by rcases h with rfl | rfl <;> simp
    rw [hz]
    exact (times_zero a b w h).mono fun e w' ⟨he, hw⟩ => by subst he; subst hw; exact yes_end 0 _ 0 (by unfold Fits; omega) rfl
  · have h1 : a ≠ 0 := fun e => h (.inl e)
    have h2 : b ≠ 0 := fun e => h (.inr e)
    rcases Int.lt_or_gt_of_ne h1 with h3 | h3 <;> rcases Int.lt_or_gt_of_ne h2 with h4 | h4
    · exact times_nn a b w ha hb h3 h4
    · exact times_np a b w ha hb h3 h4
    · exact times_pn a b w ha hb h3 h4
    · exact times_pp a b w ha hb h3 h4
theorem res21 (tmps : Array Value) (w : World) (g : Nat) (cs : Array Value) (hp : tmps.getD 2 undef = .pointer (some ⟨g, 0, none⟩)) (hg : w.heap[g]? = some (.cells cs 24 (0, 0))) (hs : cs.size = 3 := by rfl) :
    (results Tryd.f21 tmps).run Tryd.prog w = .ok (.agg cs) w :=
  results_cell_row (P := Tryd.prog) (p := 2) (ty := 24) Tryd.results21 tmps w g 24 cs (0, 0) _ hp hg Tryd.underlying24 rfl (by rw [size24, hs])
theorem res43 (tmps : Array Value) (w : World) (g : Nat) (cs : Array Value) (hp : tmps.getD 2 undef = .pointer (some ⟨g, 0, none⟩)) (hg : w.heap[g]? = some (.cells cs 24 (0, 0))) (hs : cs.size = 3 := by rfl) :
    (results Tryd.f43 tmps).run Tryd.prog w = .ok (.agg cs) w :=
  results_cell_row (P := Tryd.prog) (p := 2) (ty := 24) Tryd.results43 tmps w g 24 cs (0, 0) _ hp hg Tryd.underlying24 rfl (by rw [size24, hs])
theorem res47 (tmps : Array Value) (w : World) (g : Nat) (cs : Array Value) (hp : tmps.getD 2 undef = .pointer (some ⟨g, 0, none⟩)) (hg : w.heap[g]? = some (.cells cs 24 (0, 0))) (hs : cs.size = 3 := by rfl) :
    (results Tryd.f47 tmps).run Tryd.prog w = .ok (.agg cs) w :=
  results_cell_row (P := Tryd.prog) (p := 2) (ty := 24) Tryd.results47 tmps w g 24 cs (0, 0) _ hp hg Tryd.underlying24 rfl (by rw [size24, hs])
theorem rint_any (n : Int) (w : World) : Calls Tryd.prog 43 #[.int .i64 n] w fun e w' => e = .returned (valI n) ∧ Below w.heap.size w w' := by
  go_enter Tryd.func43, Tryd.ntmps43
  go_wp2
  exact bodyPost_ret (v := valI n) (res43 _ _ w.heap.size _ rfl (newc w _)) rfl ⟨rfl, (Below.refl _ _).alloc (Nat.le_refl _) _⟩
theorem rtext_any (s : ByteArray) (w : World) : Calls Tryd.prog 47 #[.string s] w fun e w' => e = .returned (.agg #[.int .i64 3, .int .i64 0, .string s]) ∧ Below w.heap.size w w' := by
  go_enter Tryd.func47, Tryd.ntmps47
  go_wp2
  exact bodyPost_ret (v := .agg #[.int .i64 3, .int .i64 0, .string s]) (res47 _ _ w.heap.size _ rfl (newc w _)) rfl ⟨rfl, (Below.refl _ _).alloc (Nat.le_refl _) _⟩
theorem rbool_any (b : Bool) (w : World) : Calls Tryd.prog 21 #[.bool b] w fun e w' => e = .returned (.agg #[.int .i64 1, .int .i64 (if b then 1 else 0), .string { data := #[] }]) ∧ Below w.heap.size w w' := by
  cases b
  · go_enter Tryd.func21, Tryd.ntmps21
    go_wp2
    exact bodyPost_ret (v := .agg #[.int .i64 1, .int .i64 0, .string { data := #[] }]) (res21 _ _ w.heap.size _ rfl (newc w _)) rfl ⟨rfl, (Below.refl _ _).alloc (Nat.le_refl _) _⟩
  · go_enter Tryd.func21, Tryd.ntmps21
    go_wp2
    exact bodyPost_ret (v := .agg #[.int .i64 1, .int .i64 1, .string { data := #[] }]) (res21 _ _ w.heap.size _ rfl (newc w _)) rfl ⟨rfl, (Below.refl _ _).alloc (Nat.le_refl _) _⟩
/-- The quotient rounded down, and what is left. -/
theorem quo_run (a b : Int) (w : World) (hb0 : b ≠ 0) (h : Fits (a.tdiv b)) : (binOp .quo 2 (.int .i64 a) (.int .i64 b)).run Tryd.prog w = .ok (.int .i64 (a.tdiv b)) w := by
  have d := beq_no _ _ hb0
  have hw : IntKind.i64.wrap (a.tdiv b) = a.tdiv b := IntWalk.i64_in _ h
  go_simp
theorem rem_run (a b : Int) (w : World) (hb0 : b ≠ 0) : (binOp .rem 2 (.int .i64 a) (.int .i64 b)).run Tryd.prog w = .ok (.int .i64 (a.tmod b)) w := by
  have d := beq_no _ _ hb0
  go_simp
theorem tmod_m1 (a : Int) : a.tmod (-1) = 0 := by rw [Int.tmod_neg, Int.tmod_one]
theorem divided_over (a b : Int) (w : World) (h : a = -9223372036854775808 ∧ b = -1) :
    Calls Tryd.prog 44 #[.int .i64 a, .int .i64 b] w fun e w' => e = .returned (.tuple #[.int .i64 0, .int .i64 0, .bool false]) ∧ w' = w := by
  obtain ⟨rfl, rfl⟩ := h
  go_enter Tryd.func44, Tryd.ntmps44
  go_wp2
  go_ret3
  exact ⟨rfl, rfl⟩
set_option maxHeartbeats 1000000 in
theorem divided_fine (a b : Int) (w : World) (ha : Fits a) (hb : Fits b) (hb0 : b ≠ 0) (h : ¬ (a = -9223372036854775808 ∧ b = -1)) :
    Calls Tryd.prog 44 #[.int .i64 a, .int .i64 b] w fun e w' => e = .returned (.tuple #[.int .i64 (divV a b), .int .i64 (modV a b), .bool true]) ∧ ∃ q, w' = w.drewN q := by
  by_cases hb1 : b = -1
  · subst hb1
    have d1 := beq_no a (-9223372036854775808) (fun e => h ⟨e, rfl⟩)
    have HM : Hid (modV a (-1) = 0) := Lib.hid (by unfold modV; rw [if_neg]; · exact tmod_m1 a
                                                   · rintro ⟨h1, -⟩; exact h1 (tmod_m1 a))
    have HD : Hid (divV a (-1) = -a) := Lib.hid (by have := div_mod a (-1); rw [HM.out] at this; omega)
    unfold Fits at *
    have hlow : a ≠ -9223372036854775808 := fun e => h ⟨e, rfl⟩
    have hl2 : -9223372036854775807 ≤ a := by omega
    clear h hlow
    go_enter Tryd.func44, Tryd.ntmps44
    go_wp2
    go_ret3
    rw [HM.out, HD.out]
    exact ⟨rfl, 0, rfl⟩
  have hf := tdiv_fits a b ha hb0 h
  have hs := tmod_small a b hb0
  have hmd := Int.mul_tdiv_add_tmod a b
  have hside := tmod_side a b
  have d1 := beq_no _ _ hb1
  have d2 := beq_no _ _ hb0
  have HDV : Hid (divV a b = if a.tmod b ≠ 0 ∧ (decide (a < 0) ≠ decide (b < 0)) then a.tdiv b - 1 else a.tdiv b) := rfl
  have HMV : Hid (modV a b = if a.tmod b ≠ 0 ∧ (decide (a.tmod b < 0) ≠ decide (b < 0)) then a.tmod b + b else a.tmod b) := rfl
  have hlow : a.tmod b ≠ 0 → (decide (a < 0) ≠ decide (b < 0)) → -9223372036854775808 < a.tdiv b := by
    intro h1 h2
    rcases Int.lt_or_le (-9223372036854775808) (a.tdiv b) with h3 | h3
    · exact h3
    · exfalso
      have h4 : a.tdiv b = -9223372036854775808 := by unfold Fits at hf; omega
      rw [h4] at hmd
      unfold Fits at *
      rcases Int.lt_or_gt_of_ne hb0 with hb2 | hb2
      · omega
      · omega
  have hwq : IntKind.i64.wrap (a.tdiv b) = a.tdiv b := IntWalk.i64_in _ hf
  generalize hr : a.tmod b = r at *
  generalize hq : a.tdiv b = q at *
  unfold Fits at *
  have hrf : -9223372036854775808 ≤ r ∧ r ≤ 9223372036854775807 := by omega
  have sb : b < 0 ∨ 0 < b := by omega
  rcases Int.lt_trichotomy r 0 with h1 | h1 | h1
  · have ha0 : a < 0 := (hside (by omega)).1 h1
    have x0 : decide (r < 0) = true := by simpa using h1
    have x9 : decide (r > 0) = false := by simp; omega
    have y0 : decide (a < 0) = true := by simpa using ha0
    rcases sb with sb | sb
    · have x1 : decide (b < 0) = true := by simpa using sb
      have x2 : decide (b > 0) = false := by simp; omega
      have HD : Hid (divV a b = q) := Lib.hid (by rw [HDV.out, if_neg (fun e => e.2 (y0.trans x1.symm))])
      have HM : Hid (modV a b = r) := Lib.hid (by rw [HMV.out, if_neg (fun e => e.2 (x0.trans x1.symm))])
      clear hlow hmd hside h1 ha0 sb hs HDV HMV h hb1
      go_enter Tryd.func44, Tryd.ntmps44
      go_wp2
      go_quiet (fail)
      go_wp2
      go_ret3
      rw [HM.out, HD.out]
      first | exact ⟨rfl, 1, rfl⟩ | exact ⟨rfl, _, rfl⟩
    · have x1 : decide (b < 0) = false := by simp; omega
      have x2 : decide (b > 0) = true := by simpa using sb
      have HD : Hid (divV a b = q - 1) := Lib.hid (by rw [HDV.out, if_pos ⟨by omega, by rw [y0, x1]; decide⟩])
      have HM : Hid (modV a b = r + b) := Lib.hid (by rw [HMV.out, if_pos ⟨by omega, by rw [x0, x1]; decide⟩])
      have hq1 := hlow (by omega) (by rw [y0, x1]; decide)
      have hq2 : -9223372036854775808 ≤ q - 1 := by omega
      have hq3 : -9223372036854775808 ≤ r + b ∧ r + b ≤ 9223372036854775807 := by omega
      clear hlow hmd hside h1 ha0 sb hs HDV HMV h hb1
      go_enter Tryd.func44, Tryd.ntmps44
      go_wp2
      go_quiet (fail)
      go_wp2
      go_ret3
      rw [HM.out, HD.out]
      first | exact ⟨rfl, 1, rfl⟩ | exact ⟨rfl, _, rfl⟩
  · have x0 : decide (r < 0) = false := by simp; omega
    have x9 : decide (r > 0) = false := by simp; omega
    have HD : Hid (divV a b = q) := Lib.hid (by rw [HDV.out, if_neg (fun e => e.1 h1)])
    have HM : Hid (modV a b = r) := Lib.hid (by rw [HMV.out, if_neg (fun e => e.1 h1)])
    clear hlow hmd hside h1 sb hs HDV HMV h hb1
    go_enter Tryd.func44, Tryd.ntmps44
    go_wp2
    go_quiet (fail)
    go_wp2
    go_ret3
    rw [HM.out, HD.out]
    first | exact ⟨rfl, 1, rfl⟩ | exact ⟨rfl, _, rfl⟩
  · have ha0 : ¬ a < 0 := fun e => by have := (hside (by omega)).2 e; omega
    have x0 : decide (r < 0) = false := by simp; omega
    have x9 : decide (r > 0) = true := by simp; omega
    have y0 : decide (a < 0) = false := by simpa using ha0
    rcases sb with sb | sb
    · have x1 : decide (b < 0) = true := by simpa using sb
      have x2 : decide (b > 0) = false := by simp; omega
      have HD : Hid (divV a b = q - 1) := Lib.hid (by rw [HDV.out, if_pos ⟨by omega, by rw [y0, x1]; decide⟩])
      have HM : Hid (modV a b = r + b) := Lib.hid (by rw [HMV.out, if_pos ⟨by omega, by rw [x0, x1]; decide⟩])
      have hq1 := hlow (by omega) (by rw [y0, x1]; decide)
      have hq2 : -9223372036854775808 ≤ q - 1 := by omega
      have hq3 : -9223372036854775808 ≤ r + b ∧ r + b ≤ 9223372036854775807 := by omega
      clear hlow hmd hside h1 ha0 sb hs HDV HMV h hb1
      go_enter Tryd.func44, Tryd.ntmps44
      go_wp2
      go_quiet (fail)
      go_wp2
      go_ret3
      rw [HM.out, HD.out]
      first | exact ⟨rfl, 1, rfl⟩ | exact ⟨rfl, _, rfl⟩
    · have x1 : decide (b < 0) = false := by simp; omega
      have x2 : decide (b > 0) = true := by simpa using sb
      have HD : Hid (divV a b = q) := Lib.hid (by rw [HDV.out, if_neg (fun e => e.2 (y0.trans x1.symm))])
      have HM : Hid (modV a b = r) := Lib.hid (by rw [HMV.out, if_neg (fun e => e.2 (x0.trans x1.symm))])
      clear hlow hmd hside h1 ha0 sb hs HDV HMV h hb1
      go_enter Tryd.func44, Tryd.ntmps44
      go_wp2
      go_quiet (fail)
      go_wp2
      go_ret3
      rw [HM.out, HD.out]
      first | exact ⟨rfl, 1, rfl⟩ | exact ⟨rfl, _, rfl⟩
end Go.Proofs.YthbnhplkoomdhaaDoor
