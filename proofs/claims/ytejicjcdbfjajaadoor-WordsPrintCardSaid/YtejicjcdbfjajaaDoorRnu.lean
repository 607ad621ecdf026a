/- The number of decimal digits: the document's. -/
import Derived.Test.YtejicjcdbfjajaaDoorNum
namespace Go.Proofs.YtejicjcdbfjajaaDoor
open Go Go.RowKit
set_option maxRecDepth 100000 in
set_option maxHeartbeats 8000000 in
theorem rnumber_any (s : ByteArray) (w : World) (hs : s.size ≤ 1000000000) (hd : ∀ c ∈ bl s, isD c.toNat = true) : Calls Tryd.prog 45 #[.string s] w fun e w' => e = .returned (numT (numF 0 (bl s))) ∧ w' = w := by
  obtain ⟨R, hR⟩ : ∃ R, numF 0 (bl s) = R := ⟨_, rfl⟩
  rw [hR]
  have HR : Hid (R = numF 0 ((bl s).drop 0)) := Lib.hid (by rw [List.drop_zero, hR])
  have HD := Lib.hid hd
  clear hR hd
  go_enter Tryd.func45, Tryd.ntmps45
  go_wp2_with fail
  go_loopw [4, 5] (fun v i wr => ∃ k n : Nat, k ≤ s.size ∧ i = .int .i64 k ∧ v = .int .i64 n ∧ n ≤ 9223372036854775807 ∧ Hid (R = numF n ((bl s).drop k)) ∧ wr = w) (fun _ i _ => s.size - (intOf i).toNat)
  case atStart => exact ⟨0, 0, by omega, rfl, rfl, by omega, HR, by trivial⟩
  case round =>
    clear HR
    obtain ⟨k, n, hk, rfl, rfl, hn, HR, rfl⟩ := hrel
    by_cases hlt : k < s.size
    · have hdr : (bl s).drop k = s[k] :: (bl s).drop (k + 1) := by
        rw [List.drop_eq_getElem_cons (by rw [bl_len]; exact hlt)]
        rfl
      have hdig := HD.out s[k] (List.mem_of_mem_drop (by rw [hdr]; exact List.mem_cons_self : s[k] ∈ (bl s).drop k))
      obtain ⟨c, hc⟩ : ∃ c, s[k].toNat = c := ⟨_, rfl⟩
      rw [hc] at hdig
      have hrg := isD_rng hdig
      have HRS : Hid (R = if n ≤ (9223372036854775807 - (c - 48)) / 10 then numF (n * 10 + (c - 48)) ((bl s).drop (k + 1)) else none) := Lib.hid (by
        rw [HR.out, hdr, numF, hc]
        simp only [hdig, true_and])
      have hk0 : (0 : Int) ≤ (k : Int) := by omega
      have hks : (k : Int) < (s.size : Int) := by omega
      obtain ⟨d, hd⟩ : ∃ d, c = d + 48 := ⟨c - 48, by omega⟩
      subst hd
      have hd9 : d ≤ 9 := by omega
      have e48 : d + 48 - 48 = d := by omega
      rw [e48] at HRS
      clear hdr hdig hrg HR
      by_cases hfit : n ≤ (9223372036854775807 - d) / 10
      · have HY : Hid (R = numF (n * 10 + d) ((bl s).drop (k + 1))) := Lib.hid (by rw [HRS.out, if_pos hfit])
        have hfi : ¬ ((9223372036854775807 - (d : Int)) / 10 < (n : Int)) := by omega
        have hft : ¬ (Int.tdiv (9223372036854775807 - (d : Int)) 10 < (n : Int)) := by rw [Int.tdiv_eq_ediv_of_nonneg (by omega)]; exact hfi
        clear HRS
        go_wp2_with fail
        go_roundw
        case rel => exact ⟨k + 1, n * 10 + d, by omega, by go_num, by rw [show ((n * 10 + d : Nat) : Int) = 10 * (n : Int) + (d : Int) by omega], by omega, HY, by trivial⟩
        case measure => simp [intOf]; omega
      · have HY : Hid (R = none) := Lib.hid (by rw [HRS.out, if_neg hfit])
        have hfi : (9223372036854775807 - (d : Int)) / 10 < (n : Int) := by omega
        clear HRS
        go_wp2_with fail
        go_ret2
        exact ⟨by rw [HY.out]; rfl, by trivial⟩
    · obtain rfl : k = s.size := by omega
      have HY : Hid (R = some n) := Lib.hid (by
        rw [HR.out, List.drop_of_length_le (by rw [bl_len]; omega)]
        rfl)
      go_wp2_with fail
      go_ret2
      exact ⟨by rw [HY.out]; rfl, by trivial⟩
end Go.Proofs.YtejicjcdbfjajaaDoor
