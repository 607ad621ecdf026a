/- What stands between words: the document's way behind it. -/
import Derived.Test.YtejicjcdbfjajaaDoorEch
namespace Go.Proofs.YtejicjcdbfjajaaDoor
open Go Go.RowKit
theorem blk_line {c : UInt8} {r : List UInt8} (h : c.toNat = 10) : blk true (c :: r) = blk false (c :: r) := by
  rw [blk_white (by simp [isW, h])]
  rw [blk, if_pos h]
theorem blk_more {c : UInt8} {r : List UInt8} (h : c.toNat ≠ 10) : blk true (c :: r) = 1 + blk true r := by rw [blk, if_neg h]
theorem blk_two {c d : UInt8} {r : List UInt8} (h : c.toNat = 45) (h2 : d.toNat = 45) : blk false (c :: d :: r) = blk true (c :: d :: r) := by
  rw [blk_more (by omega), blk, if_neg (by simp [isW, h]), if_pos ⟨h, by simp [h2]⟩]
theorem blk_stop {c : UInt8} {r : List UInt8} (h : isW c.toNat = false) (h2 : c.toNat = 45 → (r.head?.map UInt8.toNat) ≠ some 45) : blk false (c :: r) = 0 := by
  rw [blk, if_neg (by simp [h]), if_neg (fun k => h2 k.1 k.2)]
set_option maxRecDepth 100000 in
set_option maxHeartbeats 8000000 in
theorem rblank_any (s : ByteArray) (a : Nat) (w : World) (ha : a ≤ s.size) (hs : s.size ≤ 1000000000) : Calls Tryd.prog 22 #[.string s, .int .i64 a] w fun e w' => e = .returned (.int .i64 ((bkL (bl s) a : Nat) : Int)) ∧ w' = w := by
  obtain ⟨E, hE⟩ : ∃ E, bkL (bl s) a = E := ⟨_, rfl⟩
  rw [hE]
  have HE : Hid (a + blk false ((bl s).drop a) = E) := Lib.hid hE
  clear hE
  go_enter Tryd.func22, Tryd.ntmps22
  go_wp2_with fail
  go_loopw [1] (fun i wr => ∃ k : Nat, k ≤ s.size ∧ i = .int .i64 k ∧ Hid (k + blk false ((bl s).drop k) = E) ∧ wr = w) (fun i _ => s.size - (intOf i).toNat)
  case atStart => exact ⟨a, ha, rfl, HE, by trivial⟩
  case round =>
    clear HE
    obtain ⟨k, hk, rfl, HK, rfl⟩ := hrel
    by_cases hlt : k < s.size
    · have HD := Lib.hid (drop_at s k hlt)
      obtain ⟨c, hc⟩ : ∃ c, s[k].toNat = c := ⟨_, rfl⟩
      have HC := Lib.hid hc
      have hk0 : (0 : Int) ≤ (k : Int) := by omega
      have hks : (k : Int) < (s.size : Int) := by omega
      have hdl : decide (k < s.size) = true := decide_eq_true hlt
      by_cases hw : c = 32 ∨ c = 9 ∨ c = 10 ∨ c = 13
      · have HK2 : Hid (k + 1 + blk false ((bl s).drop (k + 1)) = E) := Lib.hid (by
          have h1 := HK.out
          rw [HD.out, blk_white (by simp only [isW, HC.out]; simpa using hw)] at h1
          omega)
        clear HD HC
        rcases hw with rfl | rfl | rfl | rfl <;>
        · go_wp2_with fail
          go_roundw
          case rel => exact ⟨k + 1, by omega, by go_num, HK2, by trivial⟩
          case measure => simp [intOf]; omega
      have hW : isW s[k].toNat = false := by simp only [isW, HC.out]; simpa using hw
      have n32 : ((c : Int) == 32) = false := by simp; omega
      have n9 : ((c : Int) == 9) = false := by simp; omega
      have n10 : ((c : Int) == 10) = false := by simp; omega
      have n13 : ((c : Int) == 13) = false := by simp; omega
      have m32 : (c == 32) = false := by simp; omega
      have m9 : (c == 9) = false := by simp; omega
      have m10 : (c == 10) = false := by simp; omega
      have m13 : (c == 13) = false := by simp; omega
      have HW := Lib.hid hW
      have HNW := Lib.hid hw
      clear hW hw
      by_cases h45 : c = 45
      rotate_left
      · have HY : Hid (k = E) := Lib.hid (by
          have h1 := HK.out
          rw [HD.out, blk_stop HW.out (fun h => absurd (HC.out.symm.trans h) h45)] at h1
          omega)
        have n45 : ((c : Int) != 45) = true := by simp; omega
        have m45 : (c != 45) = true := by simpa using h45
        clear HD HC HW h45
        go_wp2_with fail
        go_ret
        exact ⟨ret_int (by have := HY.out; omega), by trivial⟩
      subst h45
      by_cases hlt2 : k + 1 < s.size
      rotate_left
      · have HY : Hid (k = E) := Lib.hid (by
          have h1 := HK.out
          rw [HD.out, List.drop_of_length_le (by rw [bl_len]; omega), blk_stop HW.out (by simp)] at h1
          omega)
        have g1 : decide (s.size ≤ k + 1) = true := decide_eq_true (by omega)
        have g2 : decide ((s.size : Int) ≤ (k : Int) + 1) = true := decide_eq_true (by omega)
        clear HD HC HW
        go_wp2_with fail
        go_ret
        exact ⟨ret_int (by have := HY.out; omega), by trivial⟩
      have g1 : decide (s.size ≤ k + 1) = false := decide_eq_false (by omega)
      have g2 : decide ((s.size : Int) ≤ (k : Int) + 1) = false := decide_eq_false (by omega)
      have hk1 : (0 : Int) ≤ (k : Int) + 1 := by omega
      have hks1 : (k : Int) + 1 < (s.size : Int) := by omega
      have HD2 := Lib.hid (drop_at s (k + 1) hlt2)
      obtain ⟨d, hd⟩ : ∃ d, s[k + 1].toNat = d := ⟨_, rfl⟩
      have HDD := Lib.hid hd
      by_cases hd45 : d = 45
      rotate_left
      · have HY : Hid (k = E) := Lib.hid (by
          have h1 := HK.out
          rw [HD.out, HD2.out, blk_stop HW.out (by simp only [List.head?_cons, Option.map_some, HDD.out]; intro _ h; exact hd45 (Option.some.inj h))] at h1
          omega)
        have n45 : ((d : Int) != 45) = true := by simp; omega
        have m45 : (d != 45) = true := by simpa using hd45
        clear HD HC HW HD2 HDD hd45
        go_wp2_with fail
        go_ret
        exact ⟨ret_int (by have := HY.out; omega), by trivial⟩
      subst hd45
      have HT : Hid (k + blk true ((bl s).drop k) = E) := Lib.hid (by
        have h1 := HK.out
        rw [HD.out, HD2.out, blk_two HC.out HDD.out] at h1
        rw [HD.out, HD2.out]
        exact h1)
      clear HW HNW HD HD2 HDD HK
      go_wp2_with fail
      clear g1 g2 hdl hk0 hks hk1 hks1 n32 n9 n10 n13 m32 m9 m10 m13
      go_loopw [1] (fun i wi => ∃ k' : Nat, k' ≤ s.size ∧ k ≤ k' ∧ i = .int .i64 k' ∧ Hid (k' + blk true ((bl s).drop k') = E) ∧ wi = wr) (fun i _ => s.size - (intOf i).toNat)
      case atStart => exact ⟨k, by omega, Nat.le_refl _, rfl, HT, by trivial⟩
      case round =>
        clear HT
        rename_i hrel
        obtain ⟨k', hk', hkk, rfl, HT, rfl⟩ := hrel
        by_cases hlt' : k' < s.size
        · have HD := Lib.hid (drop_at s k' hlt')
          obtain ⟨e, he⟩ : ∃ e, s[k'].toNat = e := ⟨_, rfl⟩
          have hk0 : (0 : Int) ≤ (k' : Int) := by omega
          have hks : (k' : Int) < (s.size : Int) := by omega
          have hdl : decide (k' < s.size) = true := decide_eq_true hlt'
          by_cases h10 : e = 10
          · have hne : k' ≠ k := by
              intro q
              subst q
              rw [HC.out] at he
              omega
            have HF : Hid (k' + blk false ((bl s).drop k') = E) := Lib.hid (by
              have h1 := HT.out
              rw [HD.out, blk_line (by rw [he]; exact h10), ← HD.out] at h1
              exact h1)
            subst h10
            clear HT HD
            go_wp2_with fail
            go_roundw
            case rel => exact ⟨k', by omega, by go_num, HF, by trivial⟩
            case measure => simp [intOf]; omega
          · have HT2 : Hid (k' + 1 + blk true ((bl s).drop (k' + 1)) = E) := Lib.hid (by
              have h1 := HT.out
              rw [HD.out, blk_more (by rw [he]; exact h10)] at h1
              omega)
            have n10 : ((e : Int) != 10) = true := by simp; omega
            have m10 : (e != 10) = true := by simpa using h10
            clear HT HD
            go_wp2_with fail
            go_roundw
            case rel => exact ⟨k' + 1, by omega, by omega, by go_num, HT2, by trivial⟩
            case measure => simp [intOf]; omega
        · obtain rfl : k' = s.size := by omega
          have hdl : decide (s.size < s.size) = false := by simp
          have HF : Hid (s.size + blk false ((bl s).drop s.size) = E) := Lib.hid (by
            have h1 := HT.out
            rw [List.drop_of_length_le (by rw [bl_len]; omega)] at h1 ⊢
            exact h1)
          go_wp2_with fail
          go_roundw
          case rel => exact ⟨s.size, by omega, by go_num, HF, by trivial⟩
          case measure => simp [intOf]; omega
    · obtain rfl : k = s.size := by omega
      have HY : Hid (s.size = E) := Lib.hid (by
        have h1 := HK.out
        rw [List.drop_of_length_le (by rw [bl_len]; omega)] at h1
        exact h1)
      have hdl : decide (s.size < s.size) = false := by simp
      go_wp2_with fail
      go_ret
      exact ⟨ret_int (by have := HY.out; omega), by trivial⟩
end Go.Proofs.YtejicjcdbfjajaaDoor
