/- The two functions that ask whether a text is a digest compute one plain function of its bytes. -/
import Derived.Test.YtpomaabkgbaikaaDoorChecked
import Derived.WalkKit
import Derived.WalkSpells
import Derived.WalkLawsBesides
import Derived.Outline
import Derived.Lib.Hide
import Derived.BigQuiet
import Derived.Deep.QuietTactic
namespace Go.Proofs.YtpomaabkgbaikaaDoor.Dg
open Go Go.RowKit

set_option maxRecDepth 100000 in
theorem ret_bool {a b : Bool} (h : a = b) : Ending.returned (.bool a) = .returned (.bool b) := by rw [h]
def hexB (c : UInt8) : Bool := (decide (48 ≤ c.toNat) && decide (c.toNat ≤ 57)) || (decide (97 ≤ c.toNat) && decide (c.toNat ≤ 102))
def isDig (l : List UInt8) : Bool := decide (l.length = 40) && l.all hexB
set_option maxRecDepth 100000 in
theorem take_snoc (s : ByteArray) (k : Nat) (h : k < s.size) : s.data.toList.take (k + 1) = s.data.toList.take k ++ [s[k]] := by
  rw [List.take_succ_eq_append_getElem (by simpa using h)]; rfl
set_option maxRecDepth 100000 in
theorem isDig_no (s : ByteArray) (h : s.size ≠ 40) : isDig s.data.toList = false := by
  simp [isDig]; intro h'; exact absurd (by simpa using h') h
set_option maxRecDepth 100000 in
theorem isDig_end (s : ByteArray) (h : s.size = 40) (ha : (s.data.toList.take 40).all hexB = true) : isDig s.data.toList = true := by
  rw [List.take_of_length_le (by simp; omega)] at ha
  have hl : s.data.toList.length = 40 := by simpa using h
  simp [isDig, ha, h]
set_option maxRecDepth 100000 in
theorem isDig_bad (s : ByteArray) (k : Nat) (h : k < s.size) (hb : hexB s[k] = false) : isDig s.data.toList = false := by
  have hm : s[k] ∈ s.data.toList := by
    have : s.data.toList[k]'(by simpa using h) = s[k] := rfl
    rw [← this]; exact List.getElem_mem _
  have hn : s.data.toList.all hexB = false := by
    rw [List.all_eq_false]; exact ⟨_, hm, by simp [hb]⟩
  simp only [isDig, hn, Bool.and_false]

set_option maxRecDepth 100000 in
theorem dec_of (a b : Int) (h : a ≤ b) : decide (a ≤ b) = true := by simp [h]
set_option maxRecDepth 100000 in
theorem dec_not (a b : Int) (h : b < a) : decide (a ≤ b) = false := by simp; omega
set_option maxRecDepth 100000 in
theorem hexB_case (c : UInt8) : (hexB c = false ∧ c.toNat < 48) ∨ (hexB c = true ∧ 48 ≤ c.toNat ∧ c.toNat ≤ 57) ∨ (hexB c = false ∧ 58 ≤ c.toNat ∧ c.toNat < 97) ∨ (hexB c = true ∧ 97 ≤ c.toNat ∧ c.toNat ≤ 102) ∨ (hexB c = false ∧ 103 ≤ c.toNat) := by
  simp only [hexB, Bool.or_eq_false_iff, Bool.and_eq_false_iff, Bool.or_eq_true, Bool.and_eq_true, decide_eq_true_eq, decide_eq_false_iff_not]
  omega
set_option maxRecDepth 100000 in
theorem all_snoc (s : ByteArray) (k : Nat) (h : k < s.size) (hb : hexB s[k] = true) (ha : (s.data.toList.take k).all hexB = true) : (s.data.toList.take (k + 1)).all hexB = true := by
  rw [take_snoc s k h, List.all_append, ha]; simp [hb]

end Go.Proofs.YtpomaabkgbaikaaDoor.Dg
