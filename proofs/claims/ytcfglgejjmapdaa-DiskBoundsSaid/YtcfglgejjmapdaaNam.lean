/- Which texts are names: both functions compute one plain function. -/
import Derived.Test.YtcfglgejjmapdaaBase
namespace Go.Proofs.Ytcfglgejjmapdaa
open Go Go.RowKit
def nameC (c : UInt8) : Bool := decide (c.toNat = 45) || decide (c.toNat = 46) || (decide (48 ≤ c.toNat) && decide (c.toNat ≤ 57)) || (decide (97 ≤ c.toNat) && decide (c.toNat ≤ 122))
/-- Is a text a file's name? -/
def nameB (s : ByteArray) : Bool := decide (1 ≤ s.size) && decide (s.size ≤ 64) && (bl s).all nameC
theorem dec_of (a b : Int) (h : a ≤ b) : decide (a ≤ b) = true := by simp [h]
theorem dec_not (a b : Int) (h : b < a) : decide (a ≤ b) = false := by simp; omega
theorem nameC_case (c : UInt8) : (nameC c = false ∧ c.toNat < 45) ∨ (nameC c = true ∧ c.toNat = 45) ∨ (nameC c = true ∧ c.toNat = 46) ∨ (nameC c = false ∧ c.toNat = 47) ∨ (nameC c = true ∧ 48 ≤ c.toNat ∧ c.toNat ≤ 57) ∨ (nameC c = false ∧ 58 ≤ c.toNat ∧ c.toNat < 97) ∨ (nameC c = true ∧ 97 ≤ c.toNat ∧ c.toNat ≤ 122) ∨ (nameC c = false ∧ 123 ≤ c.toNat) := by
  simp only [nameC, Bool.or_eq_false_iff, Bool.and_eq_false_iff, Bool.or_eq_true, Bool.and_eq_true, decide_eq_true_eq, decide_eq_false_iff_not]
  omega
theorem take_snoc (s : ByteArray) (k : Nat) (h : k < s.size) : s.data.toList.take (k + 1) = s.data.toList.take k ++ [s[k]] := by
  rw [List.take_succ_eq_append_getElem (by simpa using h)]; rfl
theorem all_snoc (s : ByteArray) (k : Nat) (h : k < s.size) (hb : nameC s[k] = true) (ha : ((bl s).take k).all nameC = true) : ((bl s).take (k + 1)).all nameC = true := by
  rw [take_snoc s k h, List.all_append, ha]; simp [hb]
theorem nameB_bad (s : ByteArray) (k : Nat) (h : k < s.size) (hb : nameC s[k] = false) : nameB s = false := by
  have hm : s[k] ∈ bl s := by
    have : s.data.toList[k]'(by simpa using h) = s[k] := rfl
    rw [← this]; exact List.getElem_mem _
  have hn : (bl s).all nameC = false := by
    rw [List.all_eq_false]; exact ⟨_, hm, by simp [hb]⟩
  simp only [nameB, hn, Bool.and_false]
theorem nameB_size (s : ByteArray) (h : s.size < 1 ∨ 64 < s.size) : nameB s = false := by
  rcases h with h | h
  · have h2 : decide (1 ≤ s.size) = false := decide_eq_false (by omega)
    simp only [nameB, h2, Bool.false_and]
  · have h2 : decide (s.size ≤ 64) = false := decide_eq_false (by omega)
    simp only [nameB, h2, Bool.and_false, Bool.false_and]
theorem nameB_end (s : ByteArray) (h1 : 1 ≤ s.size) (h2 : s.size ≤ 64) (ha : ((bl s).take s.size).all nameC = true) : nameB s = true := by
  rw [List.take_of_length_le (by simp)] at ha
  simp [nameB, ha, h1, h2]
theorem nameB_le {s : ByteArray} (h : nameB s = true) : 1 ≤ s.size ∧ s.size ≤ 64 := by
  simp only [nameB, Bool.and_eq_true, decide_eq_true_eq] at h
  exact h.1

set_option maxHeartbeats 2000000 in
theorem name_any (s : ByteArray) (w : World) (hs : s.size ≤ 9223372036854775807) :
    Calls Try.prog 10 #[.string s] w fun e w' => e = .returned (.bool (nameB s)) ∧ w = w' := by
  by_cases h0 : s.size < 1
  · have he : s.toList = [] := by
      rw [Lib.toList_data]
      exact List.eq_nil_of_length_eq_zero (by rw [Array.length_toList]; exact Nat.lt_one_iff.1 h0)
    have h2 := nameB_size s (.inl h0)
    have hb : s.toList.isEmpty = true := by rw [he]; rfl
    have HE := Lib.hid h2
    clear h2 h0
    go_enter Try.func10, Try.ntmps10
    go_wp2
    go_ret
    exact ⟨ret_bool HE.out.symm, rfl⟩
  have hb : s.toList.isEmpty = false := by
    rw [Lib.toList_data]
    cases hq : s.data.toList with
    | nil => exact absurd (show s.size = 0 by show s.data.size = 0; rw [← Array.length_toList, hq]; rfl) (by omega)
    | cons => rfl
  have hb2 : (!s.toList.isEmpty) = true := by rw [hb]; rfl
  by_cases h1 : 64 < s.size
  · have h2 := nameB_size s (.inr h1)
    have HE := Lib.hid h2
    clear h2 h0
    go_enter Try.func10, Try.ntmps10
    go_wp2
    go_ret
    exact ⟨ret_bool HE.out.symm, rfl⟩
  have h64 : s.size ≤ 64 := by omega
  have h1s : 1 ≤ s.size := by omega
  clear h0 h1
  go_enter Try.func10, Try.ntmps10
  go_wp2
  go_loop [14] (fun i => ∃ k : Nat, k ≤ s.size ∧ i = .int .i64 k ∧ Hid (((bl s).take k).all nameC = true)) (fun i => 64 - (intOf i).toNat)
  case atStart => exact ⟨0, Nat.zero_le _, rfl, by simp [Hid]⟩
  case round =>
    obtain ⟨k, hk, rfl, HA⟩ := hrel
    by_cases hlt : k < s.size
    · rcases nameC_case s[k] with ⟨h0, hc⟩ | ⟨h0, hc⟩ | ⟨h0, hc⟩ | ⟨h0, hc⟩ | ⟨h0, hc, hd⟩ | ⟨h0, hc, hd⟩ | ⟨h0, hc, hd⟩ | ⟨h0, hc⟩
      · have H0 := Lib.hid h0
        clear h0
        have q46 : ((s[k].toNat : Int) == 46) = false := by simp; omega
        have q45 : ((s[k].toNat : Int) == 45) = false := by simp; omega
        have q48 := dec_not 48 (s[k].toNat : Int) (by omega)
        have q97 := dec_not 97 (s[k].toNat : Int) (by omega)
        go_wp2
        go_ret
        exact ⟨ret_bool (nameB_bad s k hlt H0.out).symm, rfl⟩
      · have H0 := Lib.hid h0
        clear h0
        have q46 : ((s[k].toNat : Int) == 46) = false := by simp; omega
        have q45 : ((s[k].toNat : Int) == 45) = true := by simp; omega
        have q48 := dec_not 48 (s[k].toNat : Int) (by omega)
        have q97 := dec_not 97 (s[k].toNat : Int) (by omega)
        go_wp2
        go_round
        case rel => exact ⟨k + 1, by omega, by go_num, all_snoc s k hlt H0.out HA.out⟩
        case measure => simp [intOf]; omega
      · have H0 := Lib.hid h0
        clear h0
        have q46 : ((s[k].toNat : Int) == 46) = true := by simp; omega
        have q48 := dec_not 48 (s[k].toNat : Int) (by omega)
        have q97 := dec_not 97 (s[k].toNat : Int) (by omega)
        go_wp2
        go_round
        case rel => exact ⟨k + 1, by omega, by go_num, all_snoc s k hlt H0.out HA.out⟩
        case measure => simp [intOf]; omega
      · have H0 := Lib.hid h0
        clear h0
        have q46 : ((s[k].toNat : Int) == 46) = false := by simp; omega
        have q45 : ((s[k].toNat : Int) == 45) = false := by simp; omega
        have q48 := dec_not 48 (s[k].toNat : Int) (by omega)
        have q97 := dec_not 97 (s[k].toNat : Int) (by omega)
        go_wp2
        go_ret
        exact ⟨ret_bool (nameB_bad s k hlt H0.out).symm, rfl⟩
      · have H0 := Lib.hid h0
        clear h0
        have q97 := dec_not 97 (s[k].toNat : Int) (by omega)
        have q48 := dec_of 48 (s[k].toNat : Int) (by omega)
        have q57 := dec_of (s[k].toNat : Int) 57 (by omega)
        go_wp2
        go_round
        case rel => exact ⟨k + 1, by omega, by go_num, all_snoc s k hlt H0.out HA.out⟩
        case measure => simp [intOf]; omega
      · have H0 := Lib.hid h0
        clear h0
        have q97 := dec_not 97 (s[k].toNat : Int) (by omega)
        have q48 := dec_of 48 (s[k].toNat : Int) (by omega)
        have q57 := dec_not (s[k].toNat : Int) 57 (by omega)
        have q46 : ((s[k].toNat : Int) == 46) = false := by simp; omega
        have q45 : ((s[k].toNat : Int) == 45) = false := by simp; omega
        go_wp2
        go_ret
        exact ⟨ret_bool (nameB_bad s k hlt H0.out).symm, rfl⟩
      · have H0 := Lib.hid h0
        clear h0
        have q97 := dec_of 97 (s[k].toNat : Int) (by omega)
        have q122 := dec_of (s[k].toNat : Int) 122 (by omega)
        go_wp2
        go_round
        case rel => exact ⟨k + 1, by omega, by go_num, all_snoc s k hlt H0.out HA.out⟩
        case measure => simp [intOf]; omega
      · have H0 := Lib.hid h0
        clear h0
        have q97 := dec_of 97 (s[k].toNat : Int) (by omega)
        have q122 := dec_not (s[k].toNat : Int) 122 (by omega)
        have q48 := dec_of 48 (s[k].toNat : Int) (by omega)
        have q57 := dec_not (s[k].toNat : Int) 57 (by omega)
        have q46 : ((s[k].toNat : Int) == 46) = false := by simp; omega
        have q45 : ((s[k].toNat : Int) == 45) = false := by simp; omega
        go_wp2
        go_ret
        exact ⟨ret_bool (nameB_bad s k hlt H0.out).symm, rfl⟩
    · go_wp2
      go_ret
      obtain rfl : k = s.size := by omega
      exact ⟨ret_bool (nameB_end s h1s h64 HA.out).symm, rfl⟩

set_option maxHeartbeats 2000000 in
theorem rname_any (s : ByteArray) (w : World) (hs : s.size ≤ 9223372036854775806) :
    Calls Try.prog 11 #[.string s] w fun e w' => e = .returned (.bool (nameB s)) ∧ w = w' := by
  go_enter Try.func11, Try.ntmps11
  go_wp2
  go_loop [3] (fun i => ∃ k : Nat, k ≤ s.size ∧ i = .int .i64 k ∧ Hid (((bl s).take k).all nameC = true)) (fun i => s.size - (intOf i).toNat)
  case atStart => exact ⟨0, Nat.zero_le _, rfl, by simp [Hid]⟩
  case round =>
    obtain ⟨k, hk, rfl, HA⟩ := hrel
    by_cases hlt : k < s.size
    · rcases nameC_case s[k] with ⟨h0, hc⟩ | ⟨h0, hc⟩ | ⟨h0, hc⟩ | ⟨h0, hc⟩ | ⟨h0, hc, hd⟩ | ⟨h0, hc, hd⟩ | ⟨h0, hc, hd⟩ | ⟨h0, hc⟩
      · have H0 := Lib.hid h0
        clear h0
        have q46 : ((s[k].toNat : Int) == 46) = false := by simp; omega
        have q45 : ((s[k].toNat : Int) == 45) = false := by simp; omega
        have q48 := dec_not 48 (s[k].toNat : Int) (by omega)
        have q97 := dec_not 97 (s[k].toNat : Int) (by omega)
        go_wp2
        go_ret
        exact ⟨ret_bool (nameB_bad s k hlt H0.out).symm, rfl⟩
      · have H0 := Lib.hid h0
        clear h0
        have q46 : ((s[k].toNat : Int) == 46) = false := by simp; omega
        have q45 : ((s[k].toNat : Int) == 45) = true := by simp; omega
        have q48 := dec_not 48 (s[k].toNat : Int) (by omega)
        have q97 := dec_not 97 (s[k].toNat : Int) (by omega)
        go_wp2
        go_round
        case rel => exact ⟨k + 1, by omega, by go_num, all_snoc s k hlt H0.out HA.out⟩
        case measure => simp [intOf]; omega
      · have H0 := Lib.hid h0
        clear h0
        have q46 : ((s[k].toNat : Int) == 46) = true := by simp; omega
        have q48 := dec_not 48 (s[k].toNat : Int) (by omega)
        have q97 := dec_not 97 (s[k].toNat : Int) (by omega)
        go_wp2
        go_round
        case rel => exact ⟨k + 1, by omega, by go_num, all_snoc s k hlt H0.out HA.out⟩
        case measure => simp [intOf]; omega
      · have H0 := Lib.hid h0
        clear h0
        have q46 : ((s[k].toNat : Int) == 46) = false := by simp; omega
        have q45 : ((s[k].toNat : Int) == 45) = false := by simp; omega
        have q48 := dec_not 48 (s[k].toNat : Int) (by omega)
        have q97 := dec_not 97 (s[k].toNat : Int) (by omega)
        go_wp2
        go_ret
        exact ⟨ret_bool (nameB_bad s k hlt H0.out).symm, rfl⟩
      · have H0 := Lib.hid h0
        clear h0
        have q97 := dec_not 97 (s[k].toNat : Int) (by omega)
        have q48 := dec_of 48 (s[k].toNat : Int) (by omega)
        have q57 := dec_of (s[k].toNat : Int) 57 (by omega)
        go_wp2
        go_round
        case rel => exact ⟨k + 1, by omega, by go_num, all_snoc s k hlt H0.out HA.out⟩
        case measure => simp [intOf]; omega
      · have H0 := Lib.hid h0
        clear h0
        have q97 := dec_not 97 (s[k].toNat : Int) (by omega)
        have q48 := dec_of 48 (s[k].toNat : Int) (by omega)
        have q57 := dec_not (s[k].toNat : Int) 57 (by omega)
        have q46 : ((s[k].toNat : Int) == 46) = false := by simp; omega
        have q45 : ((s[k].toNat : Int) == 45) = false := by simp; omega
        go_wp2
        go_ret
        exact ⟨ret_bool (nameB_bad s k hlt H0.out).symm, rfl⟩
      · have H0 := Lib.hid h0
        clear h0
        have q97 := dec_of 97 (s[k].toNat : Int) (by omega)
        have q122 := dec_of (s[k].toNat : Int) 122 (by omega)
        go_wp2
        go_round
        case rel => exact ⟨k + 1, by omega, by go_num, all_snoc s k hlt H0.out HA.out⟩
        case measure => simp [intOf]; omega
      · have H0 := Lib.hid h0
        clear h0
        have q97 := dec_of 97 (s[k].toNat : Int) (by omega)
        have q122 := dec_not (s[k].toNat : Int) 122 (by omega)
        have q48 := dec_of 48 (s[k].toNat : Int) (by omega)
        have q57 := dec_not (s[k].toNat : Int) 57 (by omega)
        have q46 : ((s[k].toNat : Int) == 46) = false := by simp; omega
        have q45 : ((s[k].toNat : Int) == 45) = false := by simp; omega
        go_wp2
        go_ret
        exact ⟨ret_bool (nameB_bad s k hlt H0.out).symm, rfl⟩
    · by_cases h1 : s.size < 1
      · have d1 : ¬ (1 : Int) ≤ (s.size : Int) := by omega
        have d2 : decide ((1 : Int) ≤ (s.size : Int)) = false := by simp; omega
        go_wp2
        go_ret
        exact ⟨ret_bool (nameB_size s (.inl h1)).symm, rfl⟩
      · by_cases h64 : 64 < s.size
        · have d1 : decide ((1 : Int) ≤ (s.size : Int)) = true := by simp; omega
          have d2 : decide ((s.size : Int) ≤ 64) = false := by simp; omega
          go_wp2
          go_ret
          exact ⟨ret_bool (nameB_size s (.inr h64)).symm, rfl⟩
        · have d1 : decide ((1 : Int) ≤ (s.size : Int)) = true := by simp; omega
          have d2 : decide ((s.size : Int) ≤ 64) = true := by simp; omega
          go_wp2
          go_ret
          obtain rfl : k = s.size := by omega
          exact ⟨ret_bool (nameB_end s (by omega) (by omega) HA.out).symm, rfl⟩
theorem num_any (n : Int) (w : World) : Calls Try.prog 16 #[.int .i64 n] w fun e w' => e = .returned (.int .i64 n) ∧ w = w' := by
  go_enter Try.func16, Try.ntmps16
  go_wp2
  go_ret
  exact ⟨rfl, rfl⟩
end Go.Proofs.Ytcfglgejjmapdaa
