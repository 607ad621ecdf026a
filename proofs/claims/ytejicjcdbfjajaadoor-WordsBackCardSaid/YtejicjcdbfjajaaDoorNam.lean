/- Whether a text has a name's form, is a word of the language, is a name: the program's and the reference's. -/
import Derived.Test.YtejicjcdbfjajaaDoorCls
namespace Go.Proofs.YtejicjcdbfjajaaDoor
open Go Go.RowKit
set_option maxHeartbeats 2000000 in
theorem digit_any (n : Nat) (w : World) : Calls Tryd.prog 38 #[.int .u8 n] w fun e w' => e = .returned (.bool (isD n)) ∧ w' = w := by
  rcases byte_kinds n with h | ⟨h, k⟩ | ⟨h, k⟩ | ⟨h, k⟩ | ⟨h, k⟩ | h | h | ⟨h, k⟩ | h
  all_goals
    have a6 : decide ((48 : Int) ≤ (n : Int)) = decide (48 ≤ n) := by simp; omega
    have a7 : decide ((n : Int) ≤ 57) = decide (n ≤ 57) := by simp; omega
  all_goals
    go_enter Tryd.func38, Tryd.ntmps38
    go_wp2
    go_ret
    exact ⟨ret_bool (by simp only [isD]; simp; omega), rfl⟩
set_option maxHeartbeats 2000000 in
theorem letter_any (n : Nat) (w : World) : Calls Tryd.prog 40 #[.int .u8 n] w fun e w' => e = .returned (.bool (isL n)) ∧ w' = w := by
  rcases byte_kinds n with h | ⟨h, k⟩ | ⟨h, k⟩ | ⟨h, k⟩ | ⟨h, k⟩ | h | h | ⟨h, k⟩ | h
  all_goals
    have a1 : decide ((97 : Int) ≤ (n : Int)) = decide (97 ≤ n) := by simp; omega
    have a2 : decide ((n : Int) ≤ 122) = decide (n ≤ 122) := by simp; omega
    have a3 : decide ((65 : Int) ≤ (n : Int)) = decide (65 ≤ n) := by simp; omega
    have a4 : decide ((n : Int) ≤ 90) = decide (n ≤ 90) := by simp; omega
    have a5 : ((n : Int) == 95) = decide (n = 95) := by rw [Bool.eq_iff_iff]; simp; omega
  all_goals
    go_enter Tryd.func40, Tryd.ntmps40
    go_wp2
    go_ret
    exact ⟨ret_bool (by simp only [isL]; rw [Bool.eq_iff_iff]; simp; omega), rfl⟩
/-- Is a byte none of a name's? -/
def okB (c : UInt8) : Bool := isL c.toNat || isD c.toNat
theorem cls_zero (c : UInt8) : clsN c.toNat = if okB c then clsN c.toNat else 0 := by
  unfold clsN okB
  cases isL c.toNat <;> cases isD c.toNat <;> rfl
theorem cls_ok {c : UInt8} (h : okB c = true) : (clsN c.toNat == 0) = false := by
  unfold clsN okB at *
  cases h1 : isL c.toNat <;> cases h2 : isD c.toNat <;> simp_all
theorem cls_no {c : UInt8} (h : okB c = false) : (clsN c.toNat == 0) = true := by
  unfold clsN okB at *
  cases h1 : isL c.toNat <;> cases h2 : isD c.toNat <;> simp_all
theorem cls_l {n : Nat} (h : isL n = true) : (clsN n != 1) = false := by unfold clsN; rw [h]; rfl
theorem cls_nl {n : Nat} (h : isL n = false) : (clsN n != 1) = true := by
  unfold clsN; rw [h]
  cases isD n <;> rfl
/-- The form of a name. -/
def formB (s : ByteArray) : Bool := decide (0 < s.size) && decide (s.size ≤ 64) && (match bl s with | [] => false | c :: _ => isL c.toNat) && (bl s).all okB
theorem form_empty : formB ⟨#[]⟩ = false := rfl
theorem form_long {s : ByteArray} (h : 64 < s.size) : formB s = false := by
  unfold formB
  rw [show decide (s.size ≤ 64) = false from decide_eq_false (by omega)]
  simp
theorem bl_len (b : ByteArray) : (bl b).length = b.size := by rw [Array.length_toList]; rfl
theorem bl_at (s : ByteArray) (k : Nat) (h : k < s.size) : (bl s)[k]'(by rw [bl_len]; exact h) = s[k] := rfl
theorem bl_head {s : ByteArray} (h : 0 < s.size) : ∃ r, bl s = s[0] :: r := by
  have h1 := bl_at s 0 h
  cases hb : bl s with
  | nil => have := bl_len s; rw [hb] at this; simp at this; omega
  | cons c r => exact ⟨r, by rw [← h1]; simp [hb]⟩
theorem take_snoc (s : ByteArray) (k : Nat) (h : k < s.size) : (bl s).take (k + 1) = (bl s).take k ++ [s[k]] := by
  rw [List.take_succ_eq_append_getElem (by simpa using h)]; rfl
theorem all_snoc {p : UInt8 → Bool} (s : ByteArray) (k : Nat) (h : k < s.size) (hb : p s[k] = true) (ha : ((bl s).take k).all p = true) : ((bl s).take (k + 1)).all p = true := by
  rw [take_snoc s k h, List.all_append, ha]; simp [hb]
theorem all_no {p : UInt8 → Bool} (s : ByteArray) (k : Nat) (h : k < s.size) (hb : p s[k] = false) : (bl s).all p = false := by
  have hm : s[k] ∈ bl s := by
    rw [← bl_at s k h]; exact List.getElem_mem _
  rw [List.all_eq_false]; exact ⟨_, hm, by simp [hb]⟩
theorem form_head {s : ByteArray} (h : 0 < s.size) (hl : isL s[0].toNat = false) : formB s = false := by
  obtain ⟨r, hr⟩ := bl_head h
  unfold formB
  rw [hr]
  simp [hl]
theorem form_bad {s : ByteArray} (k : Nat) (h : k < s.size) (hb : okB s[k] = false) : formB s = false := by
  unfold formB
  rw [all_no s k h hb, Bool.and_false]
theorem form_yes {s : ByteArray} (h : 0 < s.size) (h2 : s.size ≤ 64) (hl : isL s[0].toNat = true) (ha : ((bl s).take s.size).all okB = true) : formB s = true := by
  obtain ⟨r, hr⟩ := bl_head h
  rw [List.take_of_length_le (by rw [bl_len]; exact Nat.le_refl _)] at ha
  unfold formB
  rw [ha]
  simp only [hr, hl]
  simp [h, h2]
theorem empty_or (s : ByteArray) : s = ⟨#[]⟩ ∨ 0 < s.size := by
  rcases Nat.eq_zero_or_pos s.size with h | h
  · exact .inl (ByteArray.ext (Array.eq_empty_of_size_eq_zero h))
  · exact .inr h
theorem ne_empty {s : ByteArray} (h : 0 < s.size) : (s.toList == []) = false := by
  rw [Lib.toList_data]
  obtain ⟨r, hr⟩ := bl_head h
  rw [show s.data.toList = _ from hr]
  rfl
set_option maxHeartbeats 2000000 in
theorem formed_any (s : ByteArray) (w : World) (hm : s.size ≤ 9223372036854775807) : Calls Tryd.prog 37 #[.string s] w fun e w' => e = .returned (.bool (formB s)) ∧ w' = w := by
  rcases empty_or s with rfl | h0
  · go_enter Tryd.func37, Tryd.ntmps37
    go_wp2_with fail
    go_ret
    exact ⟨rfl, rfl⟩
  have he := ne_empty h0
  by_cases hl : 64 < s.size
  · have d1 : decide ((64 : Int) < (s.size : Int)) = true := decide_eq_true (by omega)
    go_enter Tryd.func37, Tryd.ntmps37
    go_wp2_with fail
    go_ret
    exact ⟨ret_bool (form_long hl).symm, rfl⟩
  have d1 : decide ((64 : Int) < (s.size : Int)) = false := decide_eq_false (by omega)
  have HC := Lib.hid (fun k (h : k < s.size) (W : World) => class_any s[k].toNat W)
  cases h1 : isL s[0].toNat with
  | false =>
    have c1 := cls_nl h1
    have HB := Lib.hid (form_head h0 h1)
    clear h1
    go_enter Tryd.func37, Tryd.ntmps37
    go_wp2_with fail
    refine (HC.out 0 h0 _).mono ?_
    rintro e w' ⟨rfl, rfl⟩
    go_wp2_with fail
    go_ret
    exact ⟨ret_bool HB.out.symm, rfl⟩
  | true =>
    have c1 := cls_l h1
    have HY := Lib.hid (fun ha => form_yes h0 (by omega) h1 ha)
    clear h1
    go_enter Tryd.func37, Tryd.ntmps37
    go_wp2_with fail
    refine (HC.out 0 h0 _).mono ?_
    rintro e w' ⟨rfl, rfl⟩
    go_wp2_with fail
    go_loop [19] (fun i => ∃ k : Nat, k ≤ s.size ∧ i = .int .i64 k ∧ Hid (((bl s).take k).all okB = true)) (fun i => s.size - (intOf i).toNat)
    case atStart => exact ⟨0, Nat.zero_le _, rfl, by simp [Hid]⟩
    case round =>
      obtain ⟨k, hk, rfl, HA⟩ := hrel
      by_cases hlt : k < s.size
      · cases h2 : okB s[k] with
        | false =>
          have c2 := cls_no h2
          have HB := Lib.hid (form_bad k hlt h2)
          clear h2
          go_wp2_with fail
          refine (HC.out k hlt _).mono ?_
          rintro e w' ⟨rfl, rfl⟩
          go_wp2_with fail
          go_ret
          exact ⟨ret_bool HB.out.symm, rfl⟩
        | true =>
          have c2 := cls_ok h2
          have HB := Lib.hid (all_snoc s k hlt h2 HA.out)
          clear h2
          go_wp2_with fail
          refine (HC.out k hlt _).mono ?_
          rintro e w' ⟨rfl, rfl⟩
          go_wp2_with fail
          go_round
          case rel => exact ⟨k + 1, by omega, by go_num, HB⟩
          case measure => simp [intOf]; omega
      · have e : k = s.size := by omega
        have HB := Lib.hid (HY.out (by rw [← e]; exact HA.out))
        clear e
        go_wp2_with fail
        go_ret
        exact ⟨ret_bool HB.out.symm, rfl⟩
end Go.Proofs.YtejicjcdbfjajaaDoor
