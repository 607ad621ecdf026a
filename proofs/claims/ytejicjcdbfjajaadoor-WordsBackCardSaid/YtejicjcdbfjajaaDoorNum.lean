/- Numbers of decimal digits, and bytes that are meant behind a backslash. -/
import Derived.Test.YtejicjcdbfjajaaDoorNam
namespace Go.Proofs.YtejicjcdbfjajaaDoor
open Go Go.RowKit
/-- The number of decimal digits, as far as 64 bits bear it. -/
def numF : Nat → List UInt8 → Option Nat
  | n, [] => some n
  | n, c :: r => if isD c.toNat = true ∧ n ≤ (9223372036854775807 - (c.toNat - 48)) / 10 then numF (n * 10 + (c.toNat - 48)) r else none
theorem numF_snoc (l : List UInt8) (c : UInt8) : ∀ n, numF n (l ++ [c]) = (numF n l).bind (fun m => numF m [c]) := by
  induction l with
  | nil => intro n; rfl
  | cons x l ih =>
    intro n
    rw [List.cons_append, numF, numF]
    split
    · exact ih _
    · rfl
theorem numF_app (a b : List UInt8) : ∀ n, numF n (a ++ b) = (numF n a).bind (fun m => numF m b) := by
  induction a with
  | nil => intro n; rfl
  | cons x l ih =>
    intro n
    rw [List.cons_append, numF, numF]
    split
    · exact ih _
    · rfl
theorem isD_rng {n : Nat} (h : isD n = true) : 48 ≤ n ∧ n ≤ 57 := by simpa [isD] using h
theorem numF_le : ∀ (l : List UInt8) (n m : Nat), n ≤ 9223372036854775807 → numF n l = some m → m ≤ 9223372036854775807
  | [], n, m, hn, h => by cases h; exact hn
  | c :: r, n, m, hn, h => by
    rw [numF] at h
    split at h
    · rename_i h1
      have := isD_rng h1.1
      exact numF_le r _ m (by omega) h
    · cases h
/-- What is told: the number, and whether it is one. -/
def numT (o : Option Nat) : Value := .tuple #[.int .i64 ((o.getD 0 : Nat)), .bool o.isSome]
theorem split_at (s : ByteArray) (k : Nat) (h : k < s.size) : bl s = (bl s).take k ++ (s[k] :: (bl s).drop (k + 1)) := by
  have h1 : (bl s).drop k = s[k] :: (bl s).drop (k + 1) := by
    rw [List.drop_eq_getElem_cons (by rw [bl_len]; exact h), bl_at s k h]
  rw [← h1, List.take_append_drop]
theorem cls_d {n : Nat} (h : isD n = true) : (clsN n != 2) = false := by
  have := isD_rng h
  have h2 : isL n = false := by simp [isL]; omega
  unfold clsN; rw [h, h2]; rfl
theorem cls_nd {n : Nat} (h : isD n = false) : (clsN n != 2) = true := by
  unfold clsN; rw [h]
  cases isL n <;> rfl
set_option maxHeartbeats 4000000 in
theorem number_any (s : ByteArray) (w : World) (hm : s.size ≤ 9223372036854775807) : Calls Tryd.prog 58 #[.string s] w fun e w' => e = .returned (numT (numF 0 (bl s))) ∧ w' = w := by
  have HC := Lib.hid (fun k (h : k < s.size) (W : World) => class_any s[k].toNat W)
  obtain ⟨o, ho⟩ : ∃ o, numF 0 (bl s) = o := ⟨_, rfl⟩
  rw [ho]
  have HO := Lib.hid ho
  clear ho
  go_enter Tryd.func58, Tryd.ntmps58
  go_wp2_with fail
  go_loop [4, 9] (fun x i => ∃ k n : Nat, k ≤ s.size ∧ i = .int .i64 k ∧ x = .int .i64 n ∧ n ≤ 9223372036854775807 ∧ Hid (numF 0 ((bl s).take k) = some n)) (fun _ i => s.size - (intOf i).toNat)
  case atStart => exact ⟨0, 0, Nat.zero_le _, rfl, rfl, by omega, by simp [Hid, numF]⟩
  case round =>
    obtain ⟨k, n, hk, rfl, rfl, hn, HN⟩ := hrel
    by_cases hlt : k < s.size
    · have HS : Hid (o = numF n (s[k] :: (bl s).drop (k + 1))) := Lib.hid (by
        have h1 := HO.out
        rw [split_at s k hlt, numF_app, HN.out] at h1
        exact h1.symm)
      have HT := Lib.hid (take_snoc s k hlt)
      have HCK := Lib.hid (fun W => class_any s[k].toNat W)
      obtain ⟨c, hc⟩ : ∃ c, s[k].toNat = c := ⟨_, rfl⟩
      rw [hc] at HCK
      have HCC := Lib.hid hc
      cases hd : isD c with
      | false =>
        have c1 := cls_nd hd
        have HY : Hid (o = none) := Lib.hid (by rw [HS.out, numF, if_neg (by rw [HCC.out, hd]; simp)])
        clear hd
        go_wp2_with fail
        refine (HCK.out _).mono ?_
        rintro e w' ⟨rfl, rfl⟩
        go_wp2_with fail
        go_ret2
        exact ⟨by rw [HY.out]; rfl, rfl⟩
      | true =>
        have c1 := cls_d hd
        have hr := isD_rng hd
        obtain ⟨d, rfl⟩ : ∃ d, c = d + 48 := ⟨c - 48, by omega⟩
        have hd9 : d ≤ 9 := by omega
        have hw : wrap64 (wrap64 ((d + 48 : Nat) : Int) - 48) = (d : Int) := by unfold wrap64; omega
        by_cases hov : n ≤ (9223372036854775807 - d) / 10
        · have HY : Hid (numF 0 ((bl s).take (k + 1)) = some (n * 10 + d)) := Lib.hid (by
            rw [HT.out, numF_app, HN.out]
            show numF n [s[k]] = _
            rw [numF, if_pos ⟨by rw [HCC.out]; exact hd, by rw [HCC.out, Nat.add_sub_cancel]; exact hov⟩, HCC.out, Nat.add_sub_cancel]
            rfl)
          have hmx : n * 10 + d ≤ 9223372036854775807 := by omega
          clear hd hr
          go_wp2_with fail
          refine (HCK.out _).mono ?_
          rintro e w' ⟨rfl, rfl⟩
          go_wp2_with fail
          go_round
          case rel => exact ⟨k + 1, n * 10 + d, by omega, by go_num, by go_num, hmx, HY⟩
          case measure => simp [intOf]; omega
        · have HY : Hid (o = none) := Lib.hid (by rw [HS.out, numF, if_neg (by rw [HCC.out, Nat.add_sub_cancel]; exact fun h => hov h.2)])
          clear hd hr
          go_wp2_with fail
          refine (HCK.out _).mono ?_
          rintro e w' ⟨rfl, rfl⟩
          go_wp2_with fail
          go_ret2
          exact ⟨by rw [HY.out]; rfl, rfl⟩
    · obtain rfl : k = s.size := by omega
      have HY : Hid (o = some n) := Lib.hid (by
        have h1 := HN.out
        rw [List.take_of_length_le (by rw [bl_len]; exact Nat.le_refl _), HO.out] at h1
        exact h1)
      go_wp2_with fail
      go_ret2
      exact ⟨by rw [HY.out]; rfl, rfl⟩
end Go.Proofs.YtejicjcdbfjajaaDoor
