/- The reference checks a value as the program does. -/
import Derived.Test.YthbnhplkoomdhaaDoorCmp
namespace Go.Proofs.YthbnhplkoomdhaaDoor
open Go Go.RowKit
set_option maxHeartbeats 1000000 in
theorem refcheck_any (k n : Int) (t : Array UInt8) (w : World) (hs : t.size ≤ 500) :
    Calls Tryd.prog 15 #[valA k n t] w fun e w' => e = .returned (.bool (chk k n t)) ∧ Below w.heap.size w w' := by
  by_cases h3 : k = 3
  · subst h3
    have dl : decide (((ByteArray.mk t).size : Int) ≤ 1048576) = true := by simp [ByteArray.size]; omega
    have dl2 : decide ((t.size : Int) ≤ 1048576) = true := by simp; omega
    have dl3 : decide (t.size ≤ 1048576) = true := by simp; omega
    by_cases hn : n = 0
    · subst hn
      go_enter Tryd.func15, Tryd.ntmps15
      go_wp2
      go_ret
      exact ⟨ret_b (by simp [chk]), (Below.refl _ _).alloc (Nat.le_refl _) _⟩
    · have hn0 := beq_no n 0 hn
      go_enter Tryd.func15, Tryd.ntmps15
      go_wp2
      go_ret
      exact ⟨ret_b (by simp [chk, hn]), (Below.refl _ _).alloc (Nat.le_refl _) _⟩
  have b3 := beq_no k 3 h3
  by_cases ht : t = #[]
  · subst ht
    by_cases h0 : k = 0
    · subst h0
      by_cases hn : n = 0
      · subst hn
        go_enter Tryd.func15, Tryd.ntmps15
        go_wp2
        go_ret
        exact ⟨ret_b (by simp [chk]), (Below.refl _ _).alloc (Nat.le_refl _) _⟩
      · have hn0 := beq_no n 0 hn
        go_enter Tryd.func15, Tryd.ntmps15
        go_wp2
        go_ret
        exact ⟨ret_b (by simp [chk, hn]), (Below.refl _ _).alloc (Nat.le_refl _) _⟩
    by_cases h1 : k = 1
    · subst h1
      by_cases hn : n = 0
      · subst hn
        go_enter Tryd.func15, Tryd.ntmps15
        go_wp2
        go_ret
        exact ⟨ret_b (by simp [chk]), (Below.refl _ _).alloc (Nat.le_refl _) _⟩
      · have hn0 := beq_no n 0 hn
        go_enter Tryd.func15, Tryd.ntmps15
        go_wp2
        go_ret
        exact ⟨ret_b (by simp [chk, hn]), (Below.refl _ _).alloc (Nat.le_refl _) _⟩
    by_cases h2 : k = 2
    · subst h2
      go_enter Tryd.func15, Tryd.ntmps15
      go_wp2
      go_ret
      exact ⟨ret_b (by simp [chk]), (Below.refl _ _).alloc (Nat.le_refl _) _⟩
    by_cases h4 : k = 4
    · subst h4
      go_enter Tryd.func15, Tryd.ntmps15
      go_wp2
      go_ret
      exact ⟨ret_b (by simp [chk]), (Below.refl _ _).alloc (Nat.le_refl _) _⟩
    have b0 := beq_no k 0 h0
    have b1 := beq_no k 1 h1
    have b2 := beq_no k 2 h2
    have b4 := beq_no k 4 h4
    go_enter Tryd.func15, Tryd.ntmps15
    go_wp2
    go_ret
    exact ⟨ret_b (by simp [chk, h0, h1, h2, h3, h4]), (Below.refl _ _).alloc (Nat.le_refl _) _⟩
  · have hne := not_empty ht
    by_cases h0 : k = 0
    · subst h0
      by_cases hn : n = 0
      · subst hn
        go_enter Tryd.func15, Tryd.ntmps15
        go_wp2
        go_ret
        exact ⟨ret_b (by simp [chk, ht]), (Below.refl _ _).alloc (Nat.le_refl _) _⟩
      · have hn0 := beq_no n 0 hn
        go_enter Tryd.func15, Tryd.ntmps15
        go_wp2
        go_ret
        exact ⟨ret_b (by simp [chk, ht]), (Below.refl _ _).alloc (Nat.le_refl _) _⟩
    by_cases h1 : k = 1
    · subst h1
      go_enter Tryd.func15, Tryd.ntmps15
      go_wp2
      go_ret
      exact ⟨ret_b (by simp [chk, ht]), (Below.refl _ _).alloc (Nat.le_refl _) _⟩
    by_cases h2 : k = 2
    · subst h2
      go_enter Tryd.func15, Tryd.ntmps15
      go_wp2
      go_ret
      exact ⟨ret_b (by simp [chk, ht]), (Below.refl _ _).alloc (Nat.le_refl _) _⟩
    by_cases h4 : k = 4
    · subst h4
      go_enter Tryd.func15, Tryd.ntmps15
      go_wp2
      go_ret
      exact ⟨ret_b (by simp [chk, ht]), (Below.refl _ _).alloc (Nat.le_refl _) _⟩
    have b0 := beq_no k 0 h0
    have b1 := beq_no k 1 h1
    have b2 := beq_no k 2 h2
    have b4 := beq_no k 4 h4
    go_enter Tryd.func15, Tryd.ntmps15
    go_wp2
    go_ret
    exact ⟨ret_b (by simp [chk, h3, ht]), (Below.refl _ _).alloc (Nat.le_refl _) _⟩
end Go.Proofs.YthbnhplkoomdhaaDoor
