/- The two functions that ask whether a text is a digest compute one plain function of its bytes. -/
import Derived.Test.YtecioakbgggdfaaDoorChecked
import Derived.WalkKit
import Derived.WalkSpells
import Derived.WalkLawsBesides
import Derived.Outline
import Derived.Lib.Hide
import Derived.BigQuiet
import Derived.Deep.QuietTactic
namespace Go.Proofs.YtecioakbgggdfaaDoor
open Go Go.RowKit

theorem ret_bool {a b : Bool} (h : a = b) : Ending.returned (.bool a) = .returned (.bool b) := by rw [h]
def hexB (c : UInt8) : Bool := (decide (48 ≤ c.toNat) && decide (c.toNat ≤ 57)) || (decide (97 ≤ c.toNat) && decide (c.toNat ≤ 102))
def isDig (l : List UInt8) : Bool := decide (l.length = 40) && l.all hexB
theorem take_snoc (s : ByteArray) (k : Nat) (h : k < s.size) : s.data.toList.take (k + 1) = s.data.toList.take k ++ [s[k]] := by
  rw [List.take_succ_eq_append_getElem (by simpa using h)]; rfl
theorem isDig_no (s : ByteArray) (h : s.size ≠ 40) : isDig s.data.toList = false := by
  simp [isDig]; intro h'; exact absurd (by simpa using h') h
theorem isDig_end (s : ByteArray) (h : s.size = 40) (ha : (s.data.toList.take 40).all hexB = true) : isDig s.data.toList = true := by
  rw [List.take_of_length_le (by simp; omega)] at ha
  have hl : s.data.toList.length = 40 := by simpa using h
  simp [isDig, ha, h]
theorem isDig_bad (s : ByteArray) (k : Nat) (h : k < s.size) (hb : hexB s[k] = false) : isDig s.data.toList = false := by
  have hm : s[k] ∈ s.data.toList := by
    have : s.data.toList[k]'(by simpa using h) = s[k] := rfl
    rw [← this]; exact List.getElem_mem _
  have hn : s.data.toList.all hexB = false := by
    rw [List.all_eq_false]; exact ⟨_, hm, by simp [hb]⟩
  simp only [isDig, hn, Bool.and_false]

theorem dec_of (a b : Int) (h : a ≤ b) : decide (a ≤ b) = true := by simp [h]
theorem dec_not (a b : Int) (h : b < a) : decide (a ≤ b) = false := by simp; omega
theorem hexB_case (c : UInt8) : (hexB c = false ∧ c.toNat < 48) ∨ (hexB c = true ∧ 48 ≤ c.toNat ∧ c.toNat ≤ 57) ∨ (hexB c = false ∧ 58 ≤ c.toNat ∧ c.toNat < 97) ∨ (hexB c = true ∧ 97 ≤ c.toNat ∧ c.toNat ≤ 102) ∨ (hexB c = false ∧ 103 ≤ c.toNat) := by
  simp only [hexB, Bool.or_eq_false_iff, Bool.and_eq_false_iff, Bool.or_eq_true, Bool.and_eq_true, decide_eq_true_eq, decide_eq_false_iff_not]
  omega
theorem all_snoc (s : ByteArray) (k : Nat) (h : k < s.size) (hb : hexB s[k] = true) (ha : (s.data.toList.take k).all hexB = true) : (s.data.toList.take (k + 1)).all hexB = true := by
  rw [take_snoc s k h, List.all_append, ha]; simp [hb]

set_option maxHeartbeats 400000 in
theorem is_40 (s : ByteArray) (w : World) (hs : s.size = 40) :
    Calls Tryd.prog 34 #[.string s] w fun e w' => e = .returned (.bool (isDig s.data.toList)) ∧ w = w' := by
  have HS := Lib.hid hs
  have hb : ((s.size : Int) != 40) = false := by simp [hs]
  have hs1 : 40 ≤ s.size := by omega
  have hs2 : s.size ≤ 40 := by omega
  clear hs
  go_enter Tryd.func34, Tryd.ntmps34
  go_wp2
  go_loop [9] (fun i => ∃ k : Nat, k ≤ 40 ∧ i = .int .i64 k ∧ Hid ((s.data.toList.take k).all hexB = true)) (fun i => 40 - (intOf i).toNat)
  case atStart => exact ⟨0, Nat.zero_le _, rfl, by simp [Hid]⟩
  case round =>
    obtain ⟨k, hk, rfl, HA⟩ := hrel
    by_cases hlt : k < s.size
    · rcases hexB_case s[k] with ⟨h0, h1⟩ | ⟨h0, h1, h2⟩ | ⟨h0, h1, h2⟩ | ⟨h0, h1, h2⟩ | ⟨h0, h1⟩
      · have H0 := Lib.hid h0
        clear h0
        go_wp2
        go_ret
        exact ⟨ret_bool (isDig_bad s k hlt H0.out).symm, rfl⟩
      · have H0 := Lib.hid h0
        clear h0
        go_wp2
        go_round
        case rel => exact ⟨k + 1, by omega, by go_num, all_snoc s k hlt H0.out HA.out⟩
        case measure => simp [intOf]; omega
      · have H0 := Lib.hid h0
        clear h0
        have d1 := dec_not (s[k].toNat : Int) 57 (by omega)
        go_wp2
        go_ret
        exact ⟨ret_bool (isDig_bad s k hlt H0.out).symm, rfl⟩
      · have H0 := Lib.hid h0
        clear h0
        have d1 := dec_not (s[k].toNat : Int) 57 (by omega)
        have d2 := dec_of (s[k].toNat : Int) 102 (by omega)
        go_wp2
        go_round
        case rel => exact ⟨k + 1, by omega, by go_num, all_snoc s k hlt H0.out HA.out⟩
        case measure => simp [intOf]; omega
      · have H0 := Lib.hid h0
        clear h0
        have d1 := dec_not (s[k].toNat : Int) 57 (by omega)
        have d2 := dec_not (s[k].toNat : Int) 102 (by omega)
        go_wp2
        go_ret
        exact ⟨ret_bool (isDig_bad s k hlt H0.out).symm, rfl⟩
    · go_wp2
      go_ret
      obtain rfl : k = 40 := by omega
      exact ⟨ret_bool (isDig_end s HS.out HA.out).symm, rfl⟩
theorem is_any (s : ByteArray) (w : World) (hm : s.size ≤ maxLen) :
    Calls Tryd.prog 34 #[.string s] w fun e w' => e = .returned (.bool (isDig s.data.toList)) ∧ w = w' := by
  by_cases hs : s.size = 40
  · exact is_40 s w hs
  · unfold maxLen at hm
    have hb : ((s.size : Int) != 40) = true := by simp; omega
    have HS := Lib.hid hs
    clear hs
    go_enter Tryd.func34, Tryd.ntmps34
    go_wp2
    go_ret
    exact ⟨ret_bool (isDig_no s HS.out).symm, rfl⟩

set_option maxHeartbeats 400000 in
theorem ris_any (s : ByteArray) (w : World) (hm : s.size ≤ maxLen) :
    Calls Tryd.prog 35 #[.string s] w fun e w' => e = .returned (.bool (isDig s.data.toList)) ∧ w = w' := by
  unfold maxLen at hm
  go_enter Tryd.func35, Tryd.ntmps35
  go_wp2
  go_loop [3] (fun i => ∃ k : Nat, k ≤ s.size ∧ k ≤ 40 ∧ i = .int .i64 k ∧ Hid ((s.data.toList.take k).all hexB = true)) (fun i => 40 - (intOf i).toNat)
  case atStart => exact ⟨0, Nat.zero_le _, Nat.zero_le _, rfl, by simp [Hid]⟩
  case round =>
    obtain ⟨k, hk, hk', rfl, HA⟩ := hrel
    by_cases hlt : k < s.size
    · by_cases hlt' : k < 40
      · rcases hexB_case s[k] with ⟨h0, h1⟩ | ⟨h0, h1, h2⟩ | ⟨h0, h1, h2⟩ | ⟨h0, h1, h2⟩ | ⟨h0, h1⟩
        · have H0 := Lib.hid h0
          clear h0
          go_wp2
          go_ret
          exact ⟨ret_bool (isDig_bad s k hlt H0.out).symm, rfl⟩
        · have H0 := Lib.hid h0
          clear h0
          go_wp2
          go_round
          case rel => exact ⟨k + 1, by omega, by omega, by go_num, all_snoc s k hlt H0.out HA.out⟩
          case measure => simp [intOf]; omega
        · have H0 := Lib.hid h0
          clear h0
          have d1 := dec_not (s[k].toNat : Int) 57 (by omega)
          go_wp2
          go_ret
          exact ⟨ret_bool (isDig_bad s k hlt H0.out).symm, rfl⟩
        · have H0 := Lib.hid h0
          clear h0
          have d1 := dec_not (s[k].toNat : Int) 57 (by omega)
          have d2 := dec_of (s[k].toNat : Int) 102 (by omega)
          go_wp2
          go_round
          case rel => exact ⟨k + 1, by omega, by omega, by go_num, all_snoc s k hlt H0.out HA.out⟩
          case measure => simp [intOf]; omega
        · have H0 := Lib.hid h0
          clear h0
          have d1 := dec_not (s[k].toNat : Int) 57 (by omega)
          have d2 := dec_not (s[k].toNat : Int) 102 (by omega)
          go_wp2
          go_ret
          exact ⟨ret_bool (isDig_bad s k hlt H0.out).symm, rfl⟩
      · go_wp2
        go_ret
        obtain rfl : k = 40 := by omega
        have hb : ((s.size : Int) == 40) = isDig s.data.toList := by
          by_cases h40 : s.size = 40
          · rw [isDig_end s h40 HA.out]; simp [h40]
          · rw [isDig_no s h40]; simp; omega
        exact ⟨ret_bool hb, rfl⟩
    · go_wp2
      go_ret
      obtain rfl : k = s.size := by omega
      have hb : ((s.size : Int) == 40) = isDig s.data.toList := by
        by_cases h40 : s.size = 40
        · have ha := HA.out
          rw [h40] at ha
          rw [isDig_end s h40 ha]; simp [h40]
        · rw [isDig_no s h40]; simp; omega
      exact ⟨ret_bool hb, rfl⟩
end Go.Proofs.YtecioakbgggdfaaDoor
