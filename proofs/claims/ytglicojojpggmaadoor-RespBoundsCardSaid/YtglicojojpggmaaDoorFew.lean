/- Whether texts are few. -/
import Derived.Test.YtglicojojpggmaaDoorStrs
namespace Go.Proofs.YtglicojojpggmaaDoor
open Go Go.RowKit
set_option maxHeartbeats 1000000 in
theorem few_any (A : Option Addr) (n c : Nat) (ls : List ByteArray) (w : World) (hn : ls.length = n) (bn : n ≤ 9223372036854775807) (hs : ∀ s ∈ ls, s.size ≤ 140737488351232) (ha : RdV w A (cellsS ls)) :
    Calls Tryd.prog 12 #[.slice A n c] w fun e w' => e = .returned (.bool (decide (szS ls ≤ 3000))) ∧ w' = w := by
  have HN := Lib.hid hn
  have HS := Lib.hid hs
  clear hn hs
  go_enter Tryd.func12, Tryd.ntmps12
  go_wp2
  go_loop [3, 4] (fun x i => ∃ k m : Nat, k ≤ n ∧ i = .int .i64 k ∧ x = .int .i64 m ∧ Hid (m = szS (ls.take k)) ∧ m ≤ 140737488370000) (fun _ i => n - (intOf i).toNat)
  case atStart => exact ⟨0, 0, Nat.zero_le _, rfl, rfl, by simp [Hid, szS], by omega⟩
  case round =>
    obtain ⟨k, m, hk, rfl, rfl, HT, hm⟩ := hrel
    by_cases hlt : k < n
    · by_cases hm3 : m ≤ 3000
      · obtain ⟨b, off, rfl, hbb, hca⟩ := rdS_at ha (k := k) (by have := HN.out; omega)
        obtain ⟨x, hx, hxt⟩ := list_at (ls := ls) (k := k) (by have := HN.out; omega)
        have hxs : x.size ≤ 140737488351232 := HS.out x (by rw [← hx]; exact List.getElem_mem _)
        rw [hx] at hca
        have HX := Lib.hid (szS_next hxt HT.out)
        clear hx hxt ha
        go_wp2
        go_round
        case rel => exact ⟨k + 1, m + 5 + x.size, by omega, by go_num, by go_num, HX.out, by omega⟩
        case measure => simp [intOf]; omega
      · have d3 : decide ((m : Int) ≤ 3000) = false := by simp; omega
        go_wp2
        go_ret
        refine ⟨ret_bool ?_, rfl⟩
        have h1 := HT.out
        have h2 := szS_take ls k
        have h3 : ¬ szS ls ≤ 3000 := by omega
        simp [h3]
    · obtain rfl : k = n := by omega
      have h1 := HT.out
      rw [List.take_of_length_le (by have := HN.out; omega)] at h1
      have H1 := Lib.hid h1
      clear h1
      by_cases hm3 : m ≤ 3000
      · go_wp2
        go_ret
        exact ⟨ret_bool (by rw [← H1.out]; simp [hm3]; omega), rfl⟩
      · go_wp2
        go_ret
        exact ⟨ret_bool (by rw [← H1.out]; simp [hm3]; omega), rfl⟩
end Go.Proofs.YtglicojojpggmaaDoor
