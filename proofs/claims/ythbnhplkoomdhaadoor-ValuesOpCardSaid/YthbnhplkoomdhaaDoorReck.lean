/- What the five functions of two numbers tell. -/
import Derived.Test.YthbnhplkoomdhaaDoorMap
import Derived.Test.YthbnhplkoomdhaaDoorArith
import Derived.WalkKit
import Derived.WalkSpells
import Derived.WalkLawsBesides
import Derived.Outline
import Derived.Lib.Hide
import Derived.BigQuiet
import Derived.Deep.QuietTactic
namespace Go.Proofs.YthbnhplkoomdhaaDoor
open Go Go.RowKit
def sFine : ByteArray := ⟨#[]⟩
def sOver : ByteArray := ⟨#[111, 118, 101, 114]⟩
def sZero : ByteArray := ⟨#[122, 101, 114, 111]⟩
theorem add_fine (a b : Int) (w : World) (ha : Fits a) (hb : Fits b) (h : Fits (a + b)) :
    Calls Tryd.prog 28 #[.int .i64 a, .int .i64 b] w fun e w' => e = .returned (.tuple #[.int .i64 (a + b), .string { data := #[] }]) ∧ w' = w := by
  unfold Fits at *
  by_cases h1 : 0 < b
  · have d1 : decide (b > 0) = true := by simp; omega
    have d2 : decide (a > 9223372036854775807 - b) = false := by simp; omega
    have d3 : decide (b < 0) = false := by simp; omega
    go_enter Tryd.func28, Tryd.ntmps28
    go_wp2
    go_ret2
    exact ⟨rfl, rfl⟩
  · have d1 : decide (b > 0) = false := by simp; omega
    by_cases h2 : b < 0
    · have d3 : decide (b < 0) = true := by simp; omega
      have d4 : decide (a < -9223372036854775808 - b) = false := by simp; omega
      go_enter Tryd.func28, Tryd.ntmps28
      go_wp2
      go_ret2
      exact ⟨rfl, rfl⟩
    · have d3 : decide (b < 0) = false := by simp; omega
      go_enter Tryd.func28, Tryd.ntmps28
      go_wp2
      go_ret2
      exact ⟨rfl, rfl⟩
theorem add_over (a b : Int) (w : World) (ha : Fits a) (hb : Fits b) (h : ¬ Fits (a + b)) :
    Calls Tryd.prog 28 #[.int .i64 a, .int .i64 b] w fun e w' => e = .returned (.tuple #[.int .i64 0, .string { data := #[111, 118, 101, 114] }]) ∧ w' = w := by
  unfold Fits at *
  by_cases h1 : 0 < b
  · have d1 : decide (b > 0) = true := by simp; omega
    have d2 : decide (a > 9223372036854775807 - b) = true := by simp; omega
    go_enter Tryd.func28, Tryd.ntmps28
    go_wp2
    go_ret2
    exact ⟨rfl, rfl⟩
  · have d1 : decide (b > 0) = false := by simp; omega
    have d3 : decide (b < 0) = true := by simp; omega
    have d4 : decide (a < -9223372036854775808 - b) = true := by simp; omega
    go_enter Tryd.func28, Tryd.ntmps28
    go_wp2
    go_ret2
    exact ⟨rfl, rfl⟩
theorem sub_fine (a b : Int) (w : World) (ha : Fits a) (hb : Fits b) (h : Fits (a - b)) :
    Calls Tryd.prog 29 #[.int .i64 a, .int .i64 b] w fun e w' => e = .returned (.tuple #[.int .i64 (a - b), .string { data := #[] }]) ∧ w' = w := by
  unfold Fits at *
  by_cases h1 : b < 0
  · have d1 : decide (b < 0) = true := by simp; omega
    have d2 : decide (a > 9223372036854775807 + b) = false := by simp; omega
    have d3 : decide (b > 0) = false := by simp; omega
    go_enter Tryd.func29, Tryd.ntmps29
    go_wp2
    go_ret2
    exact ⟨rfl, rfl⟩
  · have d1 : decide (b < 0) = false := by simp; omega
    by_cases h2 : 0 < b
    · have d3 : decide (b > 0) = true := by simp; omega
      have d4 : decide (a < -9223372036854775808 + b) = false := by simp; omega
      go_enter Tryd.func29, Tryd.ntmps29
      go_wp2
      go_ret2
      exact ⟨rfl, rfl⟩
    · have d3 : decide (b > 0) = false := by simp; omega
      go_enter Tryd.func29, Tryd.ntmps29
      go_wp2
      go_ret2
      exact ⟨rfl, rfl⟩
theorem sub_over (a b : Int) (w : World) (ha : Fits a) (hb : Fits b) (h : ¬ Fits (a - b)) :
    Calls Tryd.prog 29 #[.int .i64 a, .int .i64 b] w fun e w' => e = .returned (.tuple #[.int .i64 0, .string { data := #[111, 118, 101, 114] }]) ∧ w' = w := by
  unfold Fits at *
  by_cases h1 : b < 0
  · have d1 : decide (b < 0) = true := by simp; omega
    have d2 : decide (a > 9223372036854775807 + b) = true := by simp; omega
    go_enter Tryd.func29, Tryd.ntmps29
    go_wp2
    go_ret2
    exact ⟨rfl, rfl⟩
  · have d1 : decide (b < 0) = false := by simp; omega
    have d3 : decide (b > 0) = true := by simp; omega
    have d4 : decide (a < -9223372036854775808 + b) = true := by simp; omega
    go_enter Tryd.func29, Tryd.ntmps29
    go_wp2
    go_ret2
    exact ⟨rfl, rfl⟩
/-- The product that the program finds not too great. -/
def MulFits (a b : Int) : Prop := ¬ (a = -1 ∧ b = -9223372036854775808) ∧ ¬ (b = -1 ∧ a = -9223372036854775808) ∧ IntKind.i64.wrap ((IntKind.i64.wrap (a * b)).tdiv b) = a
theorem w64 (z : Int) : wrap64 z = IntKind.i64.wrap z := by rw [IntKind.wrap_i64]; unfold wrap64; rfl
theorem beq_of (x y : Int) (h : x = y) : (x == y) = true := by simpa using h
theorem beq_no (x y : Int) (h : x ≠ y) : (x == y) = false := by simpa using h
theorem mul_fine (a b : Int) (w : World) (ha : Fits a) (hb : Fits b) (ha0 : a ≠ 0) (hb0 : b ≠ 0) (h : MulFits a b) :
    Calls Tryd.prog 30 #[.int .i64 a, .int .i64 b] w fun e w' => e = .returned (.tuple #[.int .i64 (a * b), .string { data := #[] }]) ∧ w' = w := by
  obtain ⟨h1, h2, h3⟩ := h
  have hx := mul_exact a b ha hb hb0 (fun e => h2 ⟨e.2, e.1⟩) h3
  have hf : Fits (a * b) := by
    obtain ⟨_, _, hf⟩ := wrap_turns (a * b)
    rw [hx] at hf; exact hf
  rw [hx] at h3
  have hxw : wrap64 (a * b) = a * b := (w64 _).trans hx
  have h4 : wrap64 ((a * b).tdiv b) = a := (w64 _).trans h3
  have h5 : (a != a) = false := by simp
  have h6 : wrap64 a = a := (w64 a).trans (IntWalk.i64_in a ha)
  have d1 := beq_no _ _ ha0
  have d2 := beq_no _ _ hb0
  unfold Fits at *
  by_cases ca : a = -1
  · have e1 := beq_of _ _ ca
    have e2 := beq_no b (-9223372036854775808) (fun e => h1 ⟨ca, e⟩)
    have e4 := beq_no a (-9223372036854775808) (by omega)
    by_cases cb : b = -1
    · have e3 := beq_of _ _ cb
      clear ca cb h1 h2 ha0 h3 hx
      go_enter Tryd.func30, Tryd.ntmps30
      go_wp2
      go_ret2
      exact ⟨rfl, rfl⟩
    · have e3 := beq_no _ _ cb
      clear ca cb h1 h2 ha0 h3 hx
      go_enter Tryd.func30, Tryd.ntmps30
      go_wp2
      go_ret2
      exact ⟨rfl, rfl⟩
  · have e1 := beq_no _ _ ca
    by_cases cb : b = -1
    · have e3 := beq_of _ _ cb
      have e4 := beq_no a (-9223372036854775808) (fun e => h2 ⟨cb, e⟩)
      clear ca cb h1 h2 ha0 h3 hx
      go_enter Tryd.func30, Tryd.ntmps30
      go_wp2
      go_ret2
      exact ⟨rfl, rfl⟩
    · have e3 := beq_no _ _ cb
      clear ca cb h1 h2 ha0 h3 hx
      go_enter Tryd.func30, Tryd.ntmps30
      go_wp2
      go_ret2
      exact ⟨rfl, rfl⟩
theorem mul_zero (a b : Int) (w : World) (h : a = 0 ∨ b = 0) :
    Calls Tryd.prog 30 #[.int .i64 a, .int .i64 b] w fun e w' => e = .returned (.tuple #[.int .i64 0, .string { data := #[] }]) ∧ w' = w := by
  by_cases ca : a = 0
  · have d1 := beq_of _ _ ca
    clear h ca
    go_enter Tryd.func30, Tryd.ntmps30
    go_wp2
    go_ret2
    exact ⟨rfl, rfl⟩
  · have d1 := beq_no _ _ ca
    have d2 := beq_of b 0 (by omega)
    clear h ca
    go_enter Tryd.func30, Tryd.ntmps30
    go_wp2
    go_ret2
    exact ⟨rfl, rfl⟩
theorem mul_over (a b : Int) (w : World) (ha : Fits a) (hb : Fits b) (ha0 : a ≠ 0) (hb0 : b ≠ 0) (h : ¬ MulFits a b) :
    Calls Tryd.prog 30 #[.int .i64 a, .int .i64 b] w fun e w' => e = .returned (.tuple #[.int .i64 0, .string { data := #[111, 118, 101, 114] }]) ∧ w' = w := by
  have d1 := beq_no _ _ ha0
  have d2 := beq_no _ _ hb0
  unfold MulFits at h
  unfold Fits at *
  by_cases h1 : a = -1 ∧ b = -9223372036854775808
  · have e1 := beq_of _ _ h1.1
    have e2 := beq_of _ _ h1.2
    clear h h1 ha0 hb0
    go_enter Tryd.func30, Tryd.ntmps30
    go_wp2
    go_ret2
    exact ⟨rfl, rfl⟩
  by_cases h2 : b = -1 ∧ a = -9223372036854775808
  · have e1 := beq_no a (-1) (by omega)
    have e3 := beq_of _ _ h2.1
    have e4 := beq_of _ _ h2.2
    clear h h1 h2 ha0 hb0
    go_enter Tryd.func30, Tryd.ntmps30
    go_wp2
    go_ret2
    exact ⟨rfl, rfl⟩
  have h3 : wrap64 ((wrap64 (a * b)).tdiv b) ≠ a := fun e => h ⟨h1, h2, by rw [← w64, ← w64]; exact e⟩
  generalize hn : wrap64 (a * b) = n at *
  have hn2 : IntKind.i64.wrap (a * b) = n := (w64 _).symm.trans hn
  generalize hq : wrap64 (n.tdiv b) = q at *
  have hq2 : IntKind.i64.wrap (n.tdiv b) = q := (w64 _).symm.trans hq
  have e5 : (q != a) = true := by simpa using h3
  by_cases ca : a = -1
  · have e1 := beq_of _ _ ca
    have e2 := beq_no b (-9223372036854775808) (fun e => h1 ⟨ca, e⟩)
    have e4 := beq_no a (-9223372036854775808) (by omega)
    by_cases cb : b = -1
    · have e3 := beq_of _ _ cb
      clear ca cb h h1 h2 ha0 h3
      go_enter Tryd.func30, Tryd.ntmps30
      go_wp2
      go_ret2
      exact ⟨rfl, rfl⟩
    · have e3 := beq_no _ _ cb
      clear ca cb h h1 h2 ha0 h3
      go_enter Tryd.func30, Tryd.ntmps30
      go_wp2
      go_ret2
      exact ⟨rfl, rfl⟩
  · have e1 := beq_no _ _ ca
    by_cases cb : b = -1
    · have e3 := beq_of _ _ cb
      have e4 := beq_no a (-9223372036854775808) (fun e => h2 ⟨cb, e⟩)
      clear ca cb h h1 h2 ha0 h3
      go_enter Tryd.func30, Tryd.ntmps30
      go_wp2
      go_ret2
      exact ⟨rfl, rfl⟩
    · have e3 := beq_no _ _ cb
      clear ca cb h h1 h2 ha0 h3
      go_enter Tryd.func30, Tryd.ntmps30
      go_wp2
      go_ret2
      exact ⟨rfl, rfl⟩
end Go.Proofs.YthbnhplkoomdhaaDoor
