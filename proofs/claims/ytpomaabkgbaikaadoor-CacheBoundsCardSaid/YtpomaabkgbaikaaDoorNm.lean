/- Which texts are names: the program's and the document's. -/
import Derived.Test.YtpomaabkgbaikaaDoorBase
import Derived.Lib.Hide
namespace Go.Proofs.YtpomaabkgbaikaaDoor
open Go Go.RowKit
theorem bl_len (b : ByteArray) : (bl b).length = b.size := by rw [Array.length_toList]; rfl
theorem bl_at (s : ByteArray) (k : Nat) (h : k < s.size) : (bl s)[k]'(by rw [bl_len]; exact h) = s[k] := rfl
theorem bl_head {s : ByteArray} (h : 0 < s.size) : ∃ r, bl s = s[0] :: r := by
  have h1 := bl_at s 0 h
  cases hb : bl s with
  | nil => have := bl_len s; rw [hb] at this; simp at this; omega
  | cons c r => exact ⟨r, by rw [← h1]; simp [hb]⟩
theorem take_snoc (s : ByteArray) (k : Nat) (h : k < s.size) : (bl s).take (k + 1) = (bl s).take k ++ [s[k]] := by
  rw [List.take_succ_eq_append_getElem (by rw [bl_len]; exact h), bl_at s k h]
theorem all_snoc {p : UInt8 → Bool} (s : ByteArray) (k : Nat) (h : k < s.size) (hb : p s[k] = true) (ha : ((bl s).take k).all p = true) : ((bl s).take (k + 1)).all p = true := by
  rw [take_snoc s k h, List.all_append, ha]; simp [hb]
theorem all_no {p : UInt8 → Bool} (s : ByteArray) (k : Nat) (h : k < s.size) (hb : p s[k] = false) : (bl s).all p = false := by
  rw [Bool.eq_false_iff]
  intro ha
  have := List.all_eq_true.1 ha s[k] (by rw [← bl_at s k h]; exact List.getElem_mem _)
  rw [hb] at this; cases this
theorem empty_or (s : ByteArray) : s = ⟨#[]⟩ ∨ 0 < s.size := by
  rcases Nat.eq_zero_or_pos s.size with h | h
  · exact .inl (ByteArray.ext (Array.eq_empty_of_size_eq_zero h))
  · exact .inr h
theorem ne_empty {s : ByteArray} (h : 0 < s.size) : (s.toList == []) = false := by
  rw [Lib.toList_data]
  obtain ⟨r, hr⟩ := bl_head h
  rw [show s.data.toList = _ from hr]
  rfl
theorem byte_kinds (n : Nat) : n < 48 ∨ (48 ≤ n ∧ n ≤ 57) ∨ (58 ≤ n ∧ n ≤ 64) ∨ (65 ≤ n ∧ n ≤ 90) ∨ (91 ≤ n ∧ n ≤ 94) ∨ n = 95 ∨ n = 96 ∨ (97 ≤ n ∧ n ≤ 122) ∨ 123 ≤ n := by omega
def okN (c : UInt8) : Bool := decide (97 ≤ c.toNat ∧ c.toNat ≤ 122) || decide (65 ≤ c.toNat ∧ c.toNat ≤ 90) || decide (48 ≤ c.toNat ∧ c.toNat ≤ 57) || decide (c.toNat = 95)
/-- Is a text a name? -/
def nmB (s : ByteArray) : Bool := decide (0 < s.size) && decide (s.size ≤ 64) && (bl s).all okN
theorem nm_bad {s : ByteArray} (h : (bl s).all okN = false) : nmB s = false := by unfold nmB; rw [h]; simp
theorem nm_long {s : ByteArray} (h : 64 < s.size) : nmB s = false := by unfold nmB; rw [decide_eq_false (show ¬ s.size ≤ 64 by omega)]; simp
theorem nm_yes {s : ByteArray} (h0 : 0 < s.size) (h : s.size ≤ 64) (ha : ((bl s).take s.size).all okN = true) : nmB s = true := by
  rw [List.take_of_length_le (by rw [bl_len]; omega)] at ha
  unfold nmB
  rw [decide_eq_true h0, decide_eq_true h, ha]; rfl
set_option maxHeartbeats 4000000 in
set_option maxRecDepth 100000 in
theorem nm_any (s : ByteArray) (w : World) (hm : s.size ≤ 9223372036854775807) : Calls Tryd.prog 7 #[.string s] w fun e w' => e = .returned (.bool (nmB s)) ∧ w' = w := by
  rcases empty_or s with rfl | h0
  · go_enter Tryd.func7, Tryd.ntmps7
    go_wp2_with fail
    go_ret
    exact ⟨rfl, rfl⟩
  have he := ne_empty h0
  by_cases hl : 64 < s.size
  · have d1 : decide ((64 : Int) < (s.size : Int)) = true := decide_eq_true (by omega)
    have d2 : decide (64 < s.size) = true := decide_eq_true hl
    have HY := Lib.hid (nm_long hl)
    go_enter Tryd.func7, Tryd.ntmps7
    go_wp2_with fail
    go_ret
    exact ⟨ret_bool HY.out.symm, rfl⟩
  have d1 : decide ((64 : Int) < (s.size : Int)) = false := decide_eq_false (by omega)
  have d2 : decide (64 < s.size) = false := decide_eq_false hl
  have HE := Lib.hid (fun ha => nm_yes h0 (by omega) ha)
  go_enter Tryd.func7, Tryd.ntmps7
  go_wp2_with fail
  go_loop [14] (fun i => ∃ k : Nat, k ≤ s.size ∧ i = .int .i64 k ∧ Hid (((bl s).take k).all okN = true)) (fun i => s.size - (intOf i).toNat)
  case atStart => exact ⟨0, Nat.zero_le _, rfl, by simp [Hid]⟩
  case round =>
    obtain ⟨k, hk, rfl, HA⟩ := hrel
    by_cases hlt : k < s.size
    · obtain ⟨c, hc⟩ : ∃ c, s[k].toNat = c := ⟨_, rfl⟩
      have HC := Lib.hid hc
      have HAN := Lib.hid (fun hb => all_snoc (p := okN) s k hlt hb HA.out)
      have HBD := Lib.hid (fun hb => all_no (p := okN) s k hlt hb)
      have hk0 : (0 : Int) ≤ (k : Int) := by omega
      have hks : (k : Int) < (s.size : Int) := by omega

      rcases byte_kinds c with h | ⟨h, h'⟩ | ⟨h, h'⟩ | ⟨h, h'⟩ | ⟨h, h'⟩ | h | h | ⟨h, h'⟩ | h
      · have a0 : decide (97 ≤ c) = false := decide_eq_false (by omega)
        have b0 : decide ((97 : Int) ≤ (c : Int)) = false := decide_eq_false (by omega)
        have a1 : decide (c ≤ 122) = true := decide_eq_true (by omega)
        have b1 : decide ((c : Int) ≤ 122) = true := decide_eq_true (by omega)
        have a2 : decide (65 ≤ c) = false := decide_eq_false (by omega)
        have b2 : decide ((65 : Int) ≤ (c : Int)) = false := decide_eq_false (by omega)
        have a3 : decide (c ≤ 90) = true := decide_eq_true (by omega)
        have b3 : decide ((c : Int) ≤ 90) = true := decide_eq_true (by omega)
        have a4 : decide (48 ≤ c) = false := decide_eq_false (by omega)
        have b4 : decide ((48 : Int) ≤ (c : Int)) = false := decide_eq_false (by omega)
        have a5 : decide (c ≤ 57) = true := decide_eq_true (by omega)
        have b5 : decide ((c : Int) ≤ 57) = true := decide_eq_true (by omega)
        have a6 : (c == 95) = false := by simp; omega
        have b6 : ((c : Int) == 95) = false := by simp; omega
        have HY : Hid (nmB s = false) := Lib.hid (nm_bad (HBD.out (by simp only [okN, HC.out]; simp; omega)))
        clear h
        go_wp2_with fail
        go_ret
        exact ⟨ret_bool HY.out.symm, rfl⟩
      · have a0 : decide (97 ≤ c) = false := decide_eq_false (by omega)
        have b0 : decide ((97 : Int) ≤ (c : Int)) = false := decide_eq_false (by omega)
        have a1 : decide (c ≤ 122) = true := decide_eq_true (by omega)
        have b1 : decide ((c : Int) ≤ 122) = true := decide_eq_true (by omega)
        have a2 : decide (65 ≤ c) = false := decide_eq_false (by omega)
        have b2 : decide ((65 : Int) ≤ (c : Int)) = false := decide_eq_false (by omega)
        have a3 : decide (c ≤ 90) = true := decide_eq_true (by omega)
        have b3 : decide ((c : Int) ≤ 90) = true := decide_eq_true (by omega)
        have a4 : decide (48 ≤ c) = true := decide_eq_true (by omega)
        have b4 : decide ((48 : Int) ≤ (c : Int)) = true := decide_eq_true (by omega)
        have a5 : decide (c ≤ 57) = true := decide_eq_true (by omega)
        have b5 : decide ((c : Int) ≤ 57) = true := decide_eq_true (by omega)
        have a6 : (c == 95) = false := by simp; omega
        have b6 : ((c : Int) == 95) = false := by simp; omega
        have HA2 : Hid (((bl s).take (k + 1)).all okN = true) := Lib.hid (HAN.out (by simp only [okN, HC.out]; simp; omega))
        clear h h'
        go_wp2_with fail
        exact ⟨⟨k + 1, by omega, by go_num, HA2⟩, by simp [intOf]; omega⟩
      · have a0 : decide (97 ≤ c) = false := decide_eq_false (by omega)
        have b0 : decide ((97 : Int) ≤ (c : Int)) = false := decide_eq_false (by omega)
        have a1 : decide (c ≤ 122) = true := decide_eq_true (by omega)
        have b1 : decide ((c : Int) ≤ 122) = true := decide_eq_true (by omega)
        have a2 : decide (65 ≤ c) = false := decide_eq_false (by omega)
        have b2 : decide ((65 : Int) ≤ (c : Int)) = false := decide_eq_false (by omega)
        have a3 : decide (c ≤ 90) = true := decide_eq_true (by omega)
        have b3 : decide ((c : Int) ≤ 90) = true := decide_eq_true (by omega)
        have a4 : decide (48 ≤ c) = true := decide_eq_true (by omega)
        have b4 : decide ((48 : Int) ≤ (c : Int)) = true := decide_eq_true (by omega)
        have a5 : decide (c ≤ 57) = false := decide_eq_false (by omega)
        have b5 : decide ((c : Int) ≤ 57) = false := decide_eq_false (by omega)
        have a6 : (c == 95) = false := by simp; omega
        have b6 : ((c : Int) == 95) = false := by simp; omega
        have HY : Hid (nmB s = false) := Lib.hid (nm_bad (HBD.out (by simp only [okN, HC.out]; simp; omega)))
        clear h h'
        go_wp2_with fail
        go_ret
        exact ⟨ret_bool HY.out.symm, rfl⟩
      · have a0 : decide (97 ≤ c) = false := decide_eq_false (by omega)
        have b0 : decide ((97 : Int) ≤ (c : Int)) = false := decide_eq_false (by omega)
        have a1 : decide (c ≤ 122) = true := decide_eq_true (by omega)
        have b1 : decide ((c : Int) ≤ 122) = true := decide_eq_true (by omega)
        have a2 : decide (65 ≤ c) = true := decide_eq_true (by omega)
        have b2 : decide ((65 : Int) ≤ (c : Int)) = true := decide_eq_true (by omega)
        have a3 : decide (c ≤ 90) = true := decide_eq_true (by omega)
        have b3 : decide ((c : Int) ≤ 90) = true := decide_eq_true (by omega)
        have a4 : decide (48 ≤ c) = true := decide_eq_true (by omega)
        have b4 : decide ((48 : Int) ≤ (c : Int)) = true := decide_eq_true (by omega)
        have a5 : decide (c ≤ 57) = false := decide_eq_false (by omega)
        have b5 : decide ((c : Int) ≤ 57) = false := decide_eq_false (by omega)
        have a6 : (c == 95) = false := by simp; omega
        have b6 : ((c : Int) == 95) = false := by simp; omega
        have HA2 : Hid (((bl s).take (k + 1)).all okN = true) := Lib.hid (HAN.out (by simp only [okN, HC.out]; simp; omega))
        clear h h'
        go_wp2_with fail
        exact ⟨⟨k + 1, by omega, by go_num, HA2⟩, by simp [intOf]; omega⟩
      · have a0 : decide (97 ≤ c) = false := decide_eq_false (by omega)
        have b0 : decide ((97 : Int) ≤ (c : Int)) = false := decide_eq_false (by omega)
        have a1 : decide (c ≤ 122) = true := decide_eq_true (by omega)
        have b1 : decide ((c : Int) ≤ 122) = true := decide_eq_true (by omega)
        have a2 : decide (65 ≤ c) = true := decide_eq_true (by omega)
        have b2 : decide ((65 : Int) ≤ (c : Int)) = true := decide_eq_true (by omega)
        have a3 : decide (c ≤ 90) = false := decide_eq_false (by omega)
        have b3 : decide ((c : Int) ≤ 90) = false := decide_eq_false (by omega)
        have a4 : decide (48 ≤ c) = true := decide_eq_true (by omega)
        have b4 : decide ((48 : Int) ≤ (c : Int)) = true := decide_eq_true (by omega)
        have a5 : decide (c ≤ 57) = false := decide_eq_false (by omega)
        have b5 : decide ((c : Int) ≤ 57) = false := decide_eq_false (by omega)
        have a6 : (c == 95) = false := by simp; omega
        have b6 : ((c : Int) == 95) = false := by simp; omega
        have HY : Hid (nmB s = false) := Lib.hid (nm_bad (HBD.out (by simp only [okN, HC.out]; simp; omega)))
        clear h h'
        go_wp2_with fail
        go_ret
        exact ⟨ret_bool HY.out.symm, rfl⟩
      · have a0 : decide (97 ≤ c) = false := decide_eq_false (by omega)
        have b0 : decide ((97 : Int) ≤ (c : Int)) = false := decide_eq_false (by omega)
        have a1 : decide (c ≤ 122) = true := decide_eq_true (by omega)
        have b1 : decide ((c : Int) ≤ 122) = true := decide_eq_true (by omega)
        have a2 : decide (65 ≤ c) = true := decide_eq_true (by omega)
        have b2 : decide ((65 : Int) ≤ (c : Int)) = true := decide_eq_true (by omega)
        have a3 : decide (c ≤ 90) = false := decide_eq_false (by omega)
        have b3 : decide ((c : Int) ≤ 90) = false := decide_eq_false (by omega)
        have a4 : decide (48 ≤ c) = true := decide_eq_true (by omega)
        have b4 : decide ((48 : Int) ≤ (c : Int)) = true := decide_eq_true (by omega)
        have a5 : decide (c ≤ 57) = false := decide_eq_false (by omega)
        have b5 : decide ((c : Int) ≤ 57) = false := decide_eq_false (by omega)
        have a6 : (c == 95) = true := by simp; omega
        have b6 : ((c : Int) == 95) = true := by simp; omega
        have HA2 : Hid (((bl s).take (k + 1)).all okN = true) := Lib.hid (HAN.out (by simp only [okN, HC.out]; simp; omega))
        clear h
        go_wp2_with fail
        exact ⟨⟨k + 1, by omega, by go_num, HA2⟩, by simp [intOf]; omega⟩
      · have a0 : decide (97 ≤ c) = false := decide_eq_false (by omega)
        have b0 : decide ((97 : Int) ≤ (c : Int)) = false := decide_eq_false (by omega)
        have a1 : decide (c ≤ 122) = true := decide_eq_true (by omega)
        have b1 : decide ((c : Int) ≤ 122) = true := decide_eq_true (by omega)
        have a2 : decide (65 ≤ c) = true := decide_eq_true (by omega)
        have b2 : decide ((65 : Int) ≤ (c : Int)) = true := decide_eq_true (by omega)
        have a3 : decide (c ≤ 90) = false := decide_eq_false (by omega)
        have b3 : decide ((c : Int) ≤ 90) = false := decide_eq_false (by omega)
        have a4 : decide (48 ≤ c) = true := decide_eq_true (by omega)
        have b4 : decide ((48 : Int) ≤ (c : Int)) = true := decide_eq_true (by omega)
        have a5 : decide (c ≤ 57) = false := decide_eq_false (by omega)
        have b5 : decide ((c : Int) ≤ 57) = false := decide_eq_false (by omega)
        have a6 : (c == 95) = false := by simp; omega
        have b6 : ((c : Int) == 95) = false := by simp; omega
        have HY : Hid (nmB s = false) := Lib.hid (nm_bad (HBD.out (by simp only [okN, HC.out]; simp; omega)))
        clear h
        go_wp2_with fail
        go_ret
        exact ⟨ret_bool HY.out.symm, rfl⟩
      · have a0 : decide (97 ≤ c) = true := decide_eq_true (by omega)
        have b0 : decide ((97 : Int) ≤ (c : Int)) = true := decide_eq_true (by omega)
        have a1 : decide (c ≤ 122) = true := decide_eq_true (by omega)
        have b1 : decide ((c : Int) ≤ 122) = true := decide_eq_true (by omega)
        have a2 : decide (65 ≤ c) = true := decide_eq_true (by omega)
        have b2 : decide ((65 : Int) ≤ (c : Int)) = true := decide_eq_true (by omega)
        have a3 : decide (c ≤ 90) = false := decide_eq_false (by omega)
        have b3 : decide ((c : Int) ≤ 90) = false := decide_eq_false (by omega)
        have a4 : decide (48 ≤ c) = true := decide_eq_true (by omega)
        have b4 : decide ((48 : Int) ≤ (c : Int)) = true := decide_eq_true (by omega)
        have a5 : decide (c ≤ 57) = false := decide_eq_false (by omega)
        have b5 : decide ((c : Int) ≤ 57) = false := decide_eq_false (by omega)
        have a6 : (c == 95) = false := by simp; omega
        have b6 : ((c : Int) == 95) = false := by simp; omega
        have HA2 : Hid (((bl s).take (k + 1)).all okN = true) := Lib.hid (HAN.out (by simp only [okN, HC.out]; simp; omega))
        clear h h'
        go_wp2_with fail
        exact ⟨⟨k + 1, by omega, by go_num, HA2⟩, by simp [intOf]; omega⟩
      · have a0 : decide (97 ≤ c) = true := decide_eq_true (by omega)
        have b0 : decide ((97 : Int) ≤ (c : Int)) = true := decide_eq_true (by omega)
        have a1 : decide (c ≤ 122) = false := decide_eq_false (by omega)
        have b1 : decide ((c : Int) ≤ 122) = false := decide_eq_false (by omega)
        have a2 : decide (65 ≤ c) = true := decide_eq_true (by omega)
        have b2 : decide ((65 : Int) ≤ (c : Int)) = true := decide_eq_true (by omega)
        have a3 : decide (c ≤ 90) = false := decide_eq_false (by omega)
        have b3 : decide ((c : Int) ≤ 90) = false := decide_eq_false (by omega)
        have a4 : decide (48 ≤ c) = true := decide_eq_true (by omega)
        have b4 : decide ((48 : Int) ≤ (c : Int)) = true := decide_eq_true (by omega)
        have a5 : decide (c ≤ 57) = false := decide_eq_false (by omega)
        have b5 : decide ((c : Int) ≤ 57) = false := decide_eq_false (by omega)
        have a6 : (c == 95) = false := by simp; omega
        have b6 : ((c : Int) == 95) = false := by simp; omega
        have HY : Hid (nmB s = false) := Lib.hid (nm_bad (HBD.out (by simp only [okN, HC.out]; simp; omega)))
        clear h
        go_wp2_with fail
        go_ret
        exact ⟨ret_bool HY.out.symm, rfl⟩

    · obtain rfl : k = s.size := by omega
      have HY := Lib.hid (HE.out HA.out)
      have hdl : decide (s.size < s.size) = false := by simp
      go_wp2_with fail
      go_ret
      exact ⟨ret_bool HY.out.symm, rfl⟩
set_option maxHeartbeats 4000000 in
set_option maxRecDepth 100000 in
theorem rnm_any (s : ByteArray) (w : World) (hm : s.size ≤ 9223372036854775807) : Calls Tryd.prog 8 #[.string s] w fun e w' => e = .returned (.bool (nmB s)) ∧ w' = w := by
  go_enter Tryd.func8, Tryd.ntmps8
  go_wp2_with fail
  go_loop [3] (fun i => ∃ k : Nat, k ≤ s.size ∧ k ≤ 65 ∧ i = .int .i64 k ∧ Hid (((bl s).take k).all okN = true)) (fun i => s.size - (intOf i).toNat)
  case atStart => exact ⟨0, Nat.zero_le _, by omega, rfl, by simp [Hid]⟩
  case round =>
    obtain ⟨k, hk, hk65, rfl, HA⟩ := hrel
    by_cases hlt : k < s.size
    · have hdl : decide (k < s.size) = true := decide_eq_true hlt
      by_cases h65 : k = 65
      · subst h65
        have HY := Lib.hid (nm_long (s := s) (by omega))
        have e1 : decide (1 ≤ s.size) = true := decide_eq_true (by omega)
        have e2 : decide ((1 : Int) ≤ (s.size : Int)) = true := decide_eq_true (by omega)
        have e3 : decide (s.size ≤ 64) = false := decide_eq_false (by omega)
        have e4 : decide ((s.size : Int) ≤ 64) = false := decide_eq_false (by omega)
        go_wp2_with fail
        go_ret
        exact ⟨ret_bool HY.out.symm, rfl⟩
      have d5 : decide (k ≤ 64) = true := decide_eq_true (by omega)
      have d6 : decide ((k : Int) ≤ 64) = true := decide_eq_true (by omega)
      obtain ⟨c, hc⟩ : ∃ c, s[k].toNat = c := ⟨_, rfl⟩
      have HC := Lib.hid hc
      have HAN := Lib.hid (fun hb => all_snoc (p := okN) s k hlt hb HA.out)
      have HBD := Lib.hid (fun hb => all_no (p := okN) s k hlt hb)
      have hk0 : (0 : Int) ≤ (k : Int) := by omega
      have hks : (k : Int) < (s.size : Int) := by omega

      rcases byte_kinds c with h | ⟨h, h'⟩ | ⟨h, h'⟩ | ⟨h, h'⟩ | ⟨h, h'⟩ | h | h | ⟨h, h'⟩ | h
      · have a0 : decide (97 ≤ c) = false := decide_eq_false (by omega)
        have b0 : decide ((97 : Int) ≤ (c : Int)) = false := decide_eq_false (by omega)
        have a1 : decide (c ≤ 122) = true := decide_eq_true (by omega)
        have b1 : decide ((c : Int) ≤ 122) = true := decide_eq_true (by omega)
        have a2 : decide (65 ≤ c) = false := decide_eq_false (by omega)
        have b2 : decide ((65 : Int) ≤ (c : Int)) = false := decide_eq_false (by omega)
        have a3 : decide (c ≤ 90) = true := decide_eq_true (by omega)
        have b3 : decide ((c : Int) ≤ 90) = true := decide_eq_true (by omega)
        have a4 : decide (48 ≤ c) = false := decide_eq_false (by omega)
        have b4 : decide ((48 : Int) ≤ (c : Int)) = false := decide_eq_false (by omega)
        have a5 : decide (c ≤ 57) = true := decide_eq_true (by omega)
        have b5 : decide ((c : Int) ≤ 57) = true := decide_eq_true (by omega)
        have a6 : (c == 95) = false := by simp; omega
        have b6 : ((c : Int) == 95) = false := by simp; omega
        have HY : Hid (nmB s = false) := Lib.hid (nm_bad (HBD.out (by simp only [okN, HC.out]; simp; omega)))
        clear h
        go_wp2_with fail
        go_ret
        exact ⟨ret_bool HY.out.symm, rfl⟩
      · have a0 : decide (97 ≤ c) = false := decide_eq_false (by omega)
        have b0 : decide ((97 : Int) ≤ (c : Int)) = false := decide_eq_false (by omega)
        have a1 : decide (c ≤ 122) = true := decide_eq_true (by omega)
        have b1 : decide ((c : Int) ≤ 122) = true := decide_eq_true (by omega)
        have a2 : decide (65 ≤ c) = false := decide_eq_false (by omega)
        have b2 : decide ((65 : Int) ≤ (c : Int)) = false := decide_eq_false (by omega)
        have a3 : decide (c ≤ 90) = true := decide_eq_true (by omega)
        have b3 : decide ((c : Int) ≤ 90) = true := decide_eq_true (by omega)
        have a4 : decide (48 ≤ c) = true := decide_eq_true (by omega)
        have b4 : decide ((48 : Int) ≤ (c : Int)) = true := decide_eq_true (by omega)
        have a5 : decide (c ≤ 57) = true := decide_eq_true (by omega)
        have b5 : decide ((c : Int) ≤ 57) = true := decide_eq_true (by omega)
        have a6 : (c == 95) = false := by simp; omega
        have b6 : ((c : Int) == 95) = false := by simp; omega
        have HA2 : Hid (((bl s).take (k + 1)).all okN = true) := Lib.hid (HAN.out (by simp only [okN, HC.out]; simp; omega))
        clear h h'
        go_wp2_with fail
        go_round
        case rel => exact ⟨k + 1, by omega, by omega, by go_num, HA2⟩
        case measure => simp [intOf]; omega
      · have a0 : decide (97 ≤ c) = false := decide_eq_false (by omega)
        have b0 : decide ((97 : Int) ≤ (c : Int)) = false := decide_eq_false (by omega)
        have a1 : decide (c ≤ 122) = true := decide_eq_true (by omega)
        have b1 : decide ((c : Int) ≤ 122) = true := decide_eq_true (by omega)
        have a2 : decide (65 ≤ c) = false := decide_eq_false (by omega)
        have b2 : decide ((65 : Int) ≤ (c : Int)) = false := decide_eq_false (by omega)
        have a3 : decide (c ≤ 90) = true := decide_eq_true (by omega)
        have b3 : decide ((c : Int) ≤ 90) = true := decide_eq_true (by omega)
        have a4 : decide (48 ≤ c) = true := decide_eq_true (by omega)
        have b4 : decide ((48 : Int) ≤ (c : Int)) = true := decide_eq_true (by omega)
        have a5 : decide (c ≤ 57) = false := decide_eq_false (by omega)
        have b5 : decide ((c : Int) ≤ 57) = false := decide_eq_false (by omega)
        have a6 : (c == 95) = false := by simp; omega
        have b6 : ((c : Int) == 95) = false := by simp; omega
        have HY : Hid (nmB s = false) := Lib.hid (nm_bad (HBD.out (by simp only [okN, HC.out]; simp; omega)))
        clear h h'
        go_wp2_with fail
        go_ret
        exact ⟨ret_bool HY.out.symm, rfl⟩
      · have a0 : decide (97 ≤ c) = false := decide_eq_false (by omega)
        have b0 : decide ((97 : Int) ≤ (c : Int)) = false := decide_eq_false (by omega)
        have a1 : decide (c ≤ 122) = true := decide_eq_true (by omega)
        have b1 : decide ((c : Int) ≤ 122) = true := decide_eq_true (by omega)
        have a2 : decide (65 ≤ c) = true := decide_eq_true (by omega)
        have b2 : decide ((65 : Int) ≤ (c : Int)) = true := decide_eq_true (by omega)
        have a3 : decide (c ≤ 90) = true := decide_eq_true (by omega)
        have b3 : decide ((c : Int) ≤ 90) = true := decide_eq_true (by omega)
        have a4 : decide (48 ≤ c) = true := decide_eq_true (by omega)
        have b4 : decide ((48 : Int) ≤ (c : Int)) = true := decide_eq_true (by omega)
        have a5 : decide (c ≤ 57) = false := decide_eq_false (by omega)
        have b5 : decide ((c : Int) ≤ 57) = false := decide_eq_false (by omega)
        have a6 : (c == 95) = false := by simp; omega
        have b6 : ((c : Int) == 95) = false := by simp; omega
        have HA2 : Hid (((bl s).take (k + 1)).all okN = true) := Lib.hid (HAN.out (by simp only [okN, HC.out]; simp; omega))
        clear h h'
        go_wp2_with fail
        go_round
        case rel => exact ⟨k + 1, by omega, by omega, by go_num, HA2⟩
        case measure => simp [intOf]; omega
      · have a0 : decide (97 ≤ c) = false := decide_eq_false (by omega)
        have b0 : decide ((97 : Int) ≤ (c : Int)) = false := decide_eq_false (by omega)
        have a1 : decide (c ≤ 122) = true := decide_eq_true (by omega)
        have b1 : decide ((c : Int) ≤ 122) = true := decide_eq_true (by omega)
        have a2 : decide (65 ≤ c) = true := decide_eq_true (by omega)
        have b2 : decide ((65 : Int) ≤ (c : Int)) = true := decide_eq_true (by omega)
        have a3 : decide (c ≤ 90) = false := decide_eq_false (by omega)
        have b3 : decide ((c : Int) ≤ 90) = false := decide_eq_false (by omega)
        have a4 : decide (48 ≤ c) = true := decide_eq_true (by omega)
        have b4 : decide ((48 : Int) ≤ (c : Int)) = true := decide_eq_true (by omega)
        have a5 : decide (c ≤ 57) = false := decide_eq_false (by omega)
        have b5 : decide ((c : Int) ≤ 57) = false := decide_eq_false (by omega)
        have a6 : (c == 95) = false := by simp; omega
        have b6 : ((c : Int) == 95) = false := by simp; omega
        have HY : Hid (nmB s = false) := Lib.hid (nm_bad (HBD.out (by simp only [okN, HC.out]; simp; omega)))
        clear h h'
        go_wp2_with fail
        go_ret
        exact ⟨ret_bool HY.out.symm, rfl⟩
      · have a0 : decide (97 ≤ c) = false := decide_eq_false (by omega)
        have b0 : decide ((97 : Int) ≤ (c : Int)) = false := decide_eq_false (by omega)
        have a1 : decide (c ≤ 122) = true := decide_eq_true (by omega)
        have b1 : decide ((c : Int) ≤ 122) = true := decide_eq_true (by omega)
        have a2 : decide (65 ≤ c) = true := decide_eq_true (by omega)
        have b2 : decide ((65 : Int) ≤ (c : Int)) = true := decide_eq_true (by omega)
        have a3 : decide (c ≤ 90) = false := decide_eq_false (by omega)
        have b3 : decide ((c : Int) ≤ 90) = false := decide_eq_false (by omega)
        have a4 : decide (48 ≤ c) = true := decide_eq_true (by omega)
        have b4 : decide ((48 : Int) ≤ (c : Int)) = true := decide_eq_true (by omega)
        have a5 : decide (c ≤ 57) = false := decide_eq_false (by omega)
        have b5 : decide ((c : Int) ≤ 57) = false := decide_eq_false (by omega)
        have a6 : (c == 95) = true := by simp; omega
        have b6 : ((c : Int) == 95) = true := by simp; omega
        have HA2 : Hid (((bl s).take (k + 1)).all okN = true) := Lib.hid (HAN.out (by simp only [okN, HC.out]; simp; omega))
        clear h
        go_wp2_with fail
        go_round
        case rel => exact ⟨k + 1, by omega, by omega, by go_num, HA2⟩
        case measure => simp [intOf]; omega
      · have a0 : decide (97 ≤ c) = false := decide_eq_false (by omega)
        have b0 : decide ((97 : Int) ≤ (c : Int)) = false := decide_eq_false (by omega)
        have a1 : decide (c ≤ 122) = true := decide_eq_true (by omega)
        have b1 : decide ((c : Int) ≤ 122) = true := decide_eq_true (by omega)
        have a2 : decide (65 ≤ c) = true := decide_eq_true (by omega)
        have b2 : decide ((65 : Int) ≤ (c : Int)) = true := decide_eq_true (by omega)
        have a3 : decide (c ≤ 90) = false := decide_eq_false (by omega)
        have b3 : decide ((c : Int) ≤ 90) = false := decide_eq_false (by omega)
        have a4 : decide (48 ≤ c) = true := decide_eq_true (by omega)
        have b4 : decide ((48 : Int) ≤ (c : Int)) = true := decide_eq_true (by omega)
        have a5 : decide (c ≤ 57) = false := decide_eq_false (by omega)
        have b5 : decide ((c : Int) ≤ 57) = false := decide_eq_false (by omega)
        have a6 : (c == 95) = false := by simp; omega
        have b6 : ((c : Int) == 95) = false := by simp; omega
        have HY : Hid (nmB s = false) := Lib.hid (nm_bad (HBD.out (by simp only [okN, HC.out]; simp; omega)))
        clear h
        go_wp2_with fail
        go_ret
        exact ⟨ret_bool HY.out.symm, rfl⟩
      · have a0 : decide (97 ≤ c) = true := decide_eq_true (by omega)
        have b0 : decide ((97 : Int) ≤ (c : Int)) = true := decide_eq_true (by omega)
        have a1 : decide (c ≤ 122) = true := decide_eq_true (by omega)
        have b1 : decide ((c : Int) ≤ 122) = true := decide_eq_true (by omega)
        have a2 : decide (65 ≤ c) = true := decide_eq_true (by omega)
        have b2 : decide ((65 : Int) ≤ (c : Int)) = true := decide_eq_true (by omega)
        have a3 : decide (c ≤ 90) = false := decide_eq_false (by omega)
        have b3 : decide ((c : Int) ≤ 90) = false := decide_eq_false (by omega)
        have a4 : decide (48 ≤ c) = true := decide_eq_true (by omega)
        have b4 : decide ((48 : Int) ≤ (c : Int)) = true := decide_eq_true (by omega)
        have a5 : decide (c ≤ 57) = false := decide_eq_false (by omega)
        have b5 : decide ((c : Int) ≤ 57) = false := decide_eq_false (by omega)
        have a6 : (c == 95) = false := by simp; omega
        have b6 : ((c : Int) == 95) = false := by simp; omega
        have HA2 : Hid (((bl s).take (k + 1)).all okN = true) := Lib.hid (HAN.out (by simp only [okN, HC.out]; simp; omega))
        clear h h'
        go_wp2_with fail
        go_round
        case rel => exact ⟨k + 1, by omega, by omega, by go_num, HA2⟩
        case measure => simp [intOf]; omega
      · have a0 : decide (97 ≤ c) = true := decide_eq_true (by omega)
        have b0 : decide ((97 : Int) ≤ (c : Int)) = true := decide_eq_true (by omega)
        have a1 : decide (c ≤ 122) = false := decide_eq_false (by omega)
        have b1 : decide ((c : Int) ≤ 122) = false := decide_eq_false (by omega)
        have a2 : decide (65 ≤ c) = true := decide_eq_true (by omega)
        have b2 : decide ((65 : Int) ≤ (c : Int)) = true := decide_eq_true (by omega)
        have a3 : decide (c ≤ 90) = false := decide_eq_false (by omega)
        have b3 : decide ((c : Int) ≤ 90) = false := decide_eq_false (by omega)
        have a4 : decide (48 ≤ c) = true := decide_eq_true (by omega)
        have b4 : decide ((48 : Int) ≤ (c : Int)) = true := decide_eq_true (by omega)
        have a5 : decide (c ≤ 57) = false := decide_eq_false (by omega)
        have b5 : decide ((c : Int) ≤ 57) = false := decide_eq_false (by omega)
        have a6 : (c == 95) = false := by simp; omega
        have b6 : ((c : Int) == 95) = false := by simp; omega
        have HY : Hid (nmB s = false) := Lib.hid (nm_bad (HBD.out (by simp only [okN, HC.out]; simp; omega)))
        clear h
        go_wp2_with fail
        go_ret
        exact ⟨ret_bool HY.out.symm, rfl⟩

    · obtain rfl : k = s.size := by omega
      have hdl : decide (s.size < s.size) = false := by simp
      rcases empty_or s with rfl | h0
      · go_wp2_with fail
        go_ret
        exact ⟨ret_bool rfl, rfl⟩
      have e1 : decide (1 ≤ s.size) = true := decide_eq_true (by omega)
      have e2 : decide ((1 : Int) ≤ (s.size : Int)) = true := decide_eq_true (by omega)
      by_cases hl : 64 < s.size
      · have HY := Lib.hid (nm_long hl)
        have e3 : decide (s.size ≤ 64) = false := decide_eq_false (by omega)
        have e4 : decide ((s.size : Int) ≤ 64) = false := decide_eq_false (by omega)
        go_wp2_with fail
        go_ret
        exact ⟨ret_bool HY.out.symm, rfl⟩
      · have HY := Lib.hid (nm_yes h0 (by omega) HA.out)
        have e3 : decide (s.size ≤ 64) = true := decide_eq_true (by omega)
        have e4 : decide ((s.size : Int) ≤ 64) = true := decide_eq_true (by omega)
        go_wp2_with fail
        go_ret
        exact ⟨ret_bool HY.out.symm, rfl⟩
end Go.Proofs.YtpomaabkgbaikaaDoor
