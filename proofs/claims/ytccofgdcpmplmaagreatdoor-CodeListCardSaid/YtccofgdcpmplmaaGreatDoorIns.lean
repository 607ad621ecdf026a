/- An instruction, by definition: the same answer as the program's. -/
import Derived.Test.YtccofgdcpmplmaaGreatDoorReg
namespace Go.Proofs.YtccofgdcpmplmaaGreatDoor
open Go Go.RowKit Go.Shelf
theorem is_1 (g : Pg) (p : Pr) (a b c : Int) : (rgB p a && (rgB p b && (decide (a ≤ b) && (c == 0)))) = mayB g p ⟨1, a, b, c⟩ := by
  have e0 : sh 0 1 = 1 := rfl
  have e1 : sh 1 1 = 2 := rfl
  have e2 : sh 2 1 = 0 := rfl
  have ek : (((1 : Int)).toNat) = 1 := rfl
  unfold mayB
  simp only [ek, e0, e1, e2]
  rw [Bool.eq_iff_iff]
  simp [stB, belB, rgB, plB]
  try first | omega | grind
theorem is_2 (g : Pg) (p : Pr) (a b c : Int) : (rgB p a && ((b == 0) && (c == 0))) = mayB g p ⟨2, a, b, c⟩ := by
  have e0 : sh 0 2 = 1 := rfl
  have e1 : sh 1 2 = 0 := rfl
  have e2 : sh 2 2 = 0 := rfl
  have ek : (((2 : Int)).toNat) = 2 := rfl
  unfold mayB
  simp only [ek, e0, e1, e2]
  rw [Bool.eq_iff_iff]
  simp [stB, belB, rgB, plB]
  try first | omega | grind
theorem is_3 (g : Pg) (p : Pr) (a b c : Int) : (rgB p a && ((b == 0) && (c == 0))) = mayB g p ⟨3, a, b, c⟩ := by
  have e0 : sh 0 3 = 1 := rfl
  have e1 : sh 1 3 = 0 := rfl
  have e2 : sh 2 3 = 0 := rfl
  have ek : (((3 : Int)).toNat) = 3 := rfl
  unfold mayB
  simp only [ek, e0, e1, e2]
  rw [Bool.eq_iff_iff]
  simp [stB, belB, rgB, plB]
  try first | omega | grind
theorem is_4 (g : Pg) (p : Pr) (a b c : Int) : (rgB p a && (decide (0 ≤ b) && (decide (b < (g.is.length : Int)) && (c == 0)))) = mayB g p ⟨4, a, b, c⟩ := by
  have e0 : sh 0 4 = 1 := rfl
  have e1 : sh 1 4 = 5 := rfl
  have e2 : sh 2 4 = 0 := rfl
  have ek : (((4 : Int)).toNat) = 4 := rfl
  unfold mayB
  simp only [ek, e0, e1, e2]
  rw [Bool.eq_iff_iff]
  simp [stB, belB, rgB, plB]
  try first | omega | grind
theorem is_5 (g : Pg) (p : Pr) (a b c : Int) : (rgB p a && (decide (0 ≤ b) && (decide (b < (g.ts.length : Int)) && (c == 0)))) = mayB g p ⟨5, a, b, c⟩ := by
  have e0 : sh 0 5 = 1 := rfl
  have e1 : sh 1 5 = 6 := rfl
  have e2 : sh 2 5 = 0 := rfl
  have ek : (((5 : Int)).toNat) = 5 := rfl
  unfold mayB
  simp only [ek, e0, e1, e2]
  rw [Bool.eq_iff_iff]
  simp [stB, belB, rgB, plB]
  try first | omega | grind
theorem is_6 (g : Pg) (p : Pr) (a b c : Int) : (rgB p a && (rgB p b && (c == 0))) = mayB g p ⟨6, a, b, c⟩ := by
  have e0 : sh 0 6 = 1 := rfl
  have e1 : sh 1 6 = 1 := rfl
  have e2 : sh 2 6 = 0 := rfl
  have ek : (((6 : Int)).toNat) = 6 := rfl
  unfold mayB
  simp only [ek, e0, e1, e2]
  rw [Bool.eq_iff_iff]
  simp [stB, belB, rgB, plB]
  try first | omega | grind
theorem is_7 (g : Pg) (p : Pr) (a b c : Int) : (rgB p a && ((b == 0) && (c == 0))) = mayB g p ⟨7, a, b, c⟩ := by
  have e0 : sh 0 7 = 1 := rfl
  have e1 : sh 1 7 = 0 := rfl
  have e2 : sh 2 7 = 0 := rfl
  have ek : (((7 : Int)).toNat) = 7 := rfl
  unfold mayB
  simp only [ek, e0, e1, e2]
  rw [Bool.eq_iff_iff]
  simp [stB, belB, rgB, plB]
  try first | omega | grind
theorem is_8 (g : Pg) (p : Pr) (a b c : Int) : (rgB p a && ((b == 0) && (c == 0))) = mayB g p ⟨8, a, b, c⟩ := by
  have e0 : sh 0 8 = 1 := rfl
  have e1 : sh 1 8 = 0 := rfl
  have e2 : sh 2 8 = 0 := rfl
  have ek : (((8 : Int)).toNat) = 8 := rfl
  unfold mayB
  simp only [ek, e0, e1, e2]
  rw [Bool.eq_iff_iff]
  simp [stB, belB, rgB, plB]
  try first | omega | grind
theorem is_9 (g : Pg) (p : Pr) (a b c : Int) : (rgB p a && ((b == 0) && (c == 0))) = mayB g p ⟨9, a, b, c⟩ := by
  have e0 : sh 0 9 = 1 := rfl
  have e1 : sh 1 9 = 0 := rfl
  have e2 : sh 2 9 = 0 := rfl
  have ek : (((9 : Int)).toNat) = 9 := rfl
  unfold mayB
  simp only [ek, e0, e1, e2]
  rw [Bool.eq_iff_iff]
  simp [stB, belB, rgB, plB]
  try first | omega | grind
theorem is_10 (g : Pg) (p : Pr) (a b c : Int) : (rgB p a && (rgB p b && rgB p c)) = mayB g p ⟨10, a, b, c⟩ := by
  have e0 : sh 0 10 = 1 := rfl
  have e1 : sh 1 10 = 1 := rfl
  have e2 : sh 2 10 = 1 := rfl
  have ek : (((10 : Int)).toNat) = 10 := rfl
  unfold mayB
  simp only [ek, e0, e1, e2]
  rw [Bool.eq_iff_iff]
  simp [stB, belB, rgB, plB]
  try first | omega | grind
theorem is_11 (g : Pg) (p : Pr) (a b c : Int) : (rgB p a && (rgB p b && rgB p c)) = mayB g p ⟨11, a, b, c⟩ := by
  have e0 : sh 0 11 = 1 := rfl
  have e1 : sh 1 11 = 1 := rfl
  have e2 : sh 2 11 = 1 := rfl
  have ek : (((11 : Int)).toNat) = 11 := rfl
  unfold mayB
  simp only [ek, e0, e1, e2]
  rw [Bool.eq_iff_iff]
  simp [stB, belB, rgB, plB]
  try first | omega | grind
theorem is_12 (g : Pg) (p : Pr) (a b c : Int) : (rgB p a && (rgB p b && rgB p c)) = mayB g p ⟨12, a, b, c⟩ := by
  have e0 : sh 0 12 = 1 := rfl
  have e1 : sh 1 12 = 1 := rfl
  have e2 : sh 2 12 = 1 := rfl
  have ek : (((12 : Int)).toNat) = 12 := rfl
  unfold mayB
  simp only [ek, e0, e1, e2]
  rw [Bool.eq_iff_iff]
  simp [stB, belB, rgB, plB]
  try first | omega | grind
theorem is_13 (g : Pg) (p : Pr) (a b c : Int) : (rgB p a && (rgB p b && rgB p c)) = mayB g p ⟨13, a, b, c⟩ := by
  have e0 : sh 0 13 = 1 := rfl
  have e1 : sh 1 13 = 1 := rfl
  have e2 : sh 2 13 = 1 := rfl
  have ek : (((13 : Int)).toNat) = 13 := rfl
  unfold mayB
  simp only [ek, e0, e1, e2]
  rw [Bool.eq_iff_iff]
  simp [stB, belB, rgB, plB]
  try first | omega | grind
theorem is_14 (g : Pg) (p : Pr) (a b c : Int) : (rgB p a && (rgB p b && rgB p c)) = mayB g p ⟨14, a, b, c⟩ := by
  have e0 : sh 0 14 = 1 := rfl
  have e1 : sh 1 14 = 1 := rfl
  have e2 : sh 2 14 = 1 := rfl
  have ek : (((14 : Int)).toNat) = 14 := rfl
  unfold mayB
  simp only [ek, e0, e1, e2]
  rw [Bool.eq_iff_iff]
  simp [stB, belB, rgB, plB]
  try first | omega | grind
theorem is_15 (g : Pg) (p : Pr) (a b c : Int) : (rgB p a && (rgB p b && rgB p c)) = mayB g p ⟨15, a, b, c⟩ := by
  have e0 : sh 0 15 = 1 := rfl
  have e1 : sh 1 15 = 1 := rfl
  have e2 : sh 2 15 = 1 := rfl
  have ek : (((15 : Int)).toNat) = 15 := rfl
  unfold mayB
  simp only [ek, e0, e1, e2]
  rw [Bool.eq_iff_iff]
  simp [stB, belB, rgB, plB]
  try first | omega | grind
theorem is_16 (g : Pg) (p : Pr) (a b c : Int) : (rgB p a && (rgB p b && rgB p c)) = mayB g p ⟨16, a, b, c⟩ := by
  have e0 : sh 0 16 = 1 := rfl
  have e1 : sh 1 16 = 1 := rfl
  have e2 : sh 2 16 = 1 := rfl
  have ek : (((16 : Int)).toNat) = 16 := rfl
  unfold mayB
  simp only [ek, e0, e1, e2]
  rw [Bool.eq_iff_iff]
  simp [stB, belB, rgB, plB]
  try first | omega | grind
theorem is_17 (g : Pg) (p : Pr) (a b c : Int) : (rgB p a && (rgB p b && rgB p c)) = mayB g p ⟨17, a, b, c⟩ := by
  have e0 : sh 0 17 = 1 := rfl
  have e1 : sh 1 17 = 1 := rfl
  have e2 : sh 2 17 = 1 := rfl
  have ek : (((17 : Int)).toNat) = 17 := rfl
  unfold mayB
  simp only [ek, e0, e1, e2]
  rw [Bool.eq_iff_iff]
  simp [stB, belB, rgB, plB]
  try first | omega | grind
theorem is_18 (g : Pg) (p : Pr) (a b c : Int) : (rgB p a && (rgB p b && rgB p c)) = mayB g p ⟨18, a, b, c⟩ := by
  have e0 : sh 0 18 = 1 := rfl
  have e1 : sh 1 18 = 1 := rfl
  have e2 : sh 2 18 = 1 := rfl
  have ek : (((18 : Int)).toNat) = 18 := rfl
  unfold mayB
  simp only [ek, e0, e1, e2]
  rw [Bool.eq_iff_iff]
  simp [stB, belB, rgB, plB]
  try first | omega | grind
theorem is_19 (g : Pg) (p : Pr) (a b c : Int) : (rgB p a && (rgB p b && rgB p c)) = mayB g p ⟨19, a, b, c⟩ := by
  have e0 : sh 0 19 = 1 := rfl
  have e1 : sh 1 19 = 1 := rfl
  have e2 : sh 2 19 = 1 := rfl
  have ek : (((19 : Int)).toNat) = 19 := rfl
  unfold mayB
  simp only [ek, e0, e1, e2]
  rw [Bool.eq_iff_iff]
  simp [stB, belB, rgB, plB]
  try first | omega | grind
theorem is_20 (g : Pg) (p : Pr) (a b c : Int) : (rgB p a && (rgB p b && rgB p c)) = mayB g p ⟨20, a, b, c⟩ := by
  have e0 : sh 0 20 = 1 := rfl
  have e1 : sh 1 20 = 1 := rfl
  have e2 : sh 2 20 = 1 := rfl
  have ek : (((20 : Int)).toNat) = 20 := rfl
  unfold mayB
  simp only [ek, e0, e1, e2]
  rw [Bool.eq_iff_iff]
  simp [stB, belB, rgB, plB]
  try first | omega | grind
theorem is_21 (g : Pg) (p : Pr) (a b c : Int) : (rgB p a && (rgB p b && rgB p c)) = mayB g p ⟨21, a, b, c⟩ := by
  have e0 : sh 0 21 = 1 := rfl
  have e1 : sh 1 21 = 1 := rfl
  have e2 : sh 2 21 = 1 := rfl
  have ek : (((21 : Int)).toNat) = 21 := rfl
  unfold mayB
  simp only [ek, e0, e1, e2]
  rw [Bool.eq_iff_iff]
  simp [stB, belB, rgB, plB]
  try first | omega | grind
theorem is_22 (g : Pg) (p : Pr) (a b c : Int) : (rgB p a && (rgB p b && rgB p c)) = mayB g p ⟨22, a, b, c⟩ := by
  have e0 : sh 0 22 = 1 := rfl
  have e1 : sh 1 22 = 1 := rfl
  have e2 : sh 2 22 = 1 := rfl
  have ek : (((22 : Int)).toNat) = 22 := rfl
  unfold mayB
  simp only [ek, e0, e1, e2]
  rw [Bool.eq_iff_iff]
  simp [stB, belB, rgB, plB]
  try first | omega | grind
theorem is_23 (g : Pg) (p : Pr) (a b c : Int) : (rgB p a && (rgB p b && rgB p c)) = mayB g p ⟨23, a, b, c⟩ := by
  have e0 : sh 0 23 = 1 := rfl
  have e1 : sh 1 23 = 1 := rfl
  have e2 : sh 2 23 = 1 := rfl
  have ek : (((23 : Int)).toNat) = 23 := rfl
  unfold mayB
  simp only [ek, e0, e1, e2]
  rw [Bool.eq_iff_iff]
  simp [stB, belB, rgB, plB]
  try first | omega | grind
theorem is_24 (g : Pg) (p : Pr) (a b c : Int) : (rgB p a && (rgB p b && (c == 0))) = mayB g p ⟨24, a, b, c⟩ := by
  have e0 : sh 0 24 = 1 := rfl
  have e1 : sh 1 24 = 1 := rfl
  have e2 : sh 2 24 = 0 := rfl
  have ek : (((24 : Int)).toNat) = 24 := rfl
  unfold mayB
  simp only [ek, e0, e1, e2]
  rw [Bool.eq_iff_iff]
  simp [stB, belB, rgB, plB]
  try first | omega | grind
theorem is_25 (g : Pg) (p : Pr) (a b c : Int) : (rgB p a && (rgB p b && (c == 0))) = mayB g p ⟨25, a, b, c⟩ := by
  have e0 : sh 0 25 = 1 := rfl
  have e1 : sh 1 25 = 1 := rfl
  have e2 : sh 2 25 = 0 := rfl
  have ek : (((25 : Int)).toNat) = 25 := rfl
  unfold mayB
  simp only [ek, e0, e1, e2]
  rw [Bool.eq_iff_iff]
  simp [stB, belB, rgB, plB]
  try first | omega | grind
theorem is_26 (g : Pg) (p : Pr) (a b c : Int) : (rgB p a && (rgB p b && (c == 0))) = mayB g p ⟨26, a, b, c⟩ := by
  have e0 : sh 0 26 = 1 := rfl
  have e1 : sh 1 26 = 1 := rfl
  have e2 : sh 2 26 = 0 := rfl
  have ek : (((26 : Int)).toNat) = 26 := rfl
  unfold mayB
  simp only [ek, e0, e1, e2]
  rw [Bool.eq_iff_iff]
  simp [stB, belB, rgB, plB]
  try first | omega | grind
theorem is_27 (g : Pg) (p : Pr) (a b c : Int) : (plB p a && ((b == 0) && (c == 0))) = mayB g p ⟨27, a, b, c⟩ := by
  have e0 : sh 0 27 = 4 := rfl
  have e1 : sh 1 27 = 0 := rfl
  have e2 : sh 2 27 = 0 := rfl
  have ek : (((27 : Int)).toNat) = 27 := rfl
  unfold mayB
  simp only [ek, e0, e1, e2]
  rw [Bool.eq_iff_iff]
  simp [stB, belB, rgB, plB]
  try first | omega | grind
theorem is_28 (g : Pg) (p : Pr) (a b c : Int) : (rgB p a && (plB p b && (c == 0))) = mayB g p ⟨28, a, b, c⟩ := by
  have e0 : sh 0 28 = 1 := rfl
  have e1 : sh 1 28 = 4 := rfl
  have e2 : sh 2 28 = 0 := rfl
  have ek : (((28 : Int)).toNat) = 28 := rfl
  unfold mayB
  simp only [ek, e0, e1, e2]
  rw [Bool.eq_iff_iff]
  simp [stB, belB, rgB, plB]
  try first | omega | grind
theorem is_29 (g : Pg) (p : Pr) (a b c : Int) : (rgB p a && (plB p b && (c == 0))) = mayB g p ⟨29, a, b, c⟩ := by
  have e0 : sh 0 29 = 1 := rfl
  have e1 : sh 1 29 = 4 := rfl
  have e2 : sh 2 29 = 0 := rfl
  have ek : (((29 : Int)).toNat) = 29 := rfl
  unfold mayB
  simp only [ek, e0, e1, e2]
  rw [Bool.eq_iff_iff]
  simp [stB, belB, rgB, plB]
  try first | omega | grind
theorem is_30 (g : Pg) (p : Pr) (a b c : Int) : (rgB p a && (plB p b && (rgB p c && decide (a ≤ p.regs - 3)))) = mayB g p ⟨30, a, b, c⟩ := by
  have e0 : sh 0 30 = 3 := rfl
  have e1 : sh 1 30 = 4 := rfl
  have e2 : sh 2 30 = 1 := rfl
  have ek : (((30 : Int)).toNat) = 30 := rfl
  unfold mayB
  simp only [ek, e0, e1, e2]
  rw [Bool.eq_iff_iff]
  simp [stB, belB, rgB, plB]
  try first | omega | grind
theorem is_31 (g : Pg) (p : Pr) (a b c : Int) : (rgB p a && (plB p b && (rgB p c && decide (a ≤ p.regs - 3)))) = mayB g p ⟨31, a, b, c⟩ := by
  have e0 : sh 0 31 = 3 := rfl
  have e1 : sh 1 31 = 4 := rfl
  have e2 : sh 2 31 = 1 := rfl
  have ek : (((31 : Int)).toNat) = 31 := rfl
  unfold mayB
  simp only [ek, e0, e1, e2]
  rw [Bool.eq_iff_iff]
  simp [stB, belB, rgB, plB]
  try first | omega | grind
theorem is_32 (g : Pg) (p : Pr) (a b c : Int) : (rgB p a && (decide (0 ≤ b) && (decide (b < (g.ps.length : Int)) && ((c == 0) && decide ((g.ps.getD b.toNat ⟨0, 0, none, 0, []⟩).params ≤ p.regs - a))))) = mayB g p ⟨32, a, b, c⟩ := by
  have e0 : sh 0 32 = 1 := rfl
  have e1 : sh 1 32 = 8 := rfl
  have e2 : sh 2 32 = 0 := rfl
  have ek : (((32 : Int)).toNat) = 32 := rfl
  unfold mayB
  simp only [ek, e0, e1, e2]
  rw [Bool.eq_iff_iff]
  simp [stB, belB, rgB, plB]
  try first | omega | grind
theorem is_33 (g : Pg) (p : Pr) (a b c : Int) : (rgB p a && (decide (0 ≤ b) && (decide (b < (g.ts.length : Int)) && (keyB (g.ts.getD b.toNat ⟨#[]⟩) && (decide (0 ≤ c) && decide (c ≤ p.regs - a)))))) = mayB g p ⟨33, a, b, c⟩ := by
  have e0 : sh 0 33 = 1 := rfl
  have e1 : sh 1 33 = 7 := rfl
  have e2 : sh 2 33 = 9 := rfl
  have ek : (((33 : Int)).toNat) = 33 := rfl
  unfold mayB
  simp only [ek, e0, e1, e2]
  rw [Bool.eq_iff_iff]
  simp [stB, belB, rgB, plB]
  try first | omega | grind
theorem is_34 (g : Pg) (p : Pr) (a b c : Int) : (rgB p a && ((b == 0) && (c == 0))) = mayB g p ⟨34, a, b, c⟩ := by
  have e0 : sh 0 34 = 1 := rfl
  have e1 : sh 1 34 = 0 := rfl
  have e2 : sh 2 34 = 0 := rfl
  have ek : (((34 : Int)).toNat) = 34 := rfl
  unfold mayB
  simp only [ek, e0, e1, e2]
  rw [Bool.eq_iff_iff]
  simp [stB, belB, rgB, plB]
  try first | omega | grind
theorem is_35 (g : Pg) (p : Pr) (a b c : Int) : ((a == 0) && ((b == 0) && (c == 0))) = mayB g p ⟨35, a, b, c⟩ := by
  have e0 : sh 0 35 = 0 := rfl
  have e1 : sh 1 35 = 0 := rfl
  have e2 : sh 2 35 = 0 := rfl
  have ek : (((35 : Int)).toNat) = 35 := rfl
  unfold mayB
  simp only [ek, e0, e1, e2]
  rw [Bool.eq_iff_iff]
  simp [stB, belB, rgB, plB]
  try first | omega | grind
end Go.Proofs.YtccofgdcpmplmaaGreatDoor
