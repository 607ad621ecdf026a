/- How many bytes a list's frame has, by the reference. -/
import Derived.Test.YthbhbjfmlmgeeaaDoorStrs
namespace Go.Proofs.YthbhbjfmlmgeeaaDoor
open Go Go.RowKit
theorem ret_i64 {a b : Int} (h : a = b) : Ending.returned (.int .i64 a) = .returned (.int .i64 b) := by rw [h]
/-- How many bytes a list's frame has; none, if it may not be framed. -/
def fsz (ls : List ByteArray) : Nat := if mayL (bl ls) then 12 + szS ls else 0
theorem fsz_no {ls : List ByteArray} (h : 65536 < ls.length ∨ 1048576 < 4 + szS ls) : fsz ls = 0 := by
  unfold fsz
  rw [may_iff, if_neg]
  simp
  omega
theorem fsz_yes {ls : List ByteArray} (h : ls.length ≤ 65536) (h2 : 4 + szS ls ≤ 1048576) : fsz ls = 12 + szS ls := by
  unfold fsz
  rw [may_iff, if_pos]
  simp
  omega
set_option maxHeartbeats 1000000 in
theorem rsize_any (A : Option Addr) (n c : Nat) (ls : List ByteArray) (w : World) (hn : ls.length = n) (bn : n ≤ 9223372036854775807) (hs : ∀ s ∈ ls, s.size ≤ 140737488351232) (ha : RdV w A (cellsS ls)) :
    Calls Tryd.prog 27 #[.slice A n c] w fun e w' => e = .returned (.int .i64 (fsz ls)) ∧ w' = w := by
  have HN := Lib.hid hn
  have HS := Lib.hid hs
  clear hn hs
  by_cases h6 : n ≤ 65536
  · go_enter Tryd.func27, Tryd.ntmps27
    go_wp2
    go_loop [3, 4] (fun x i => ∃ k m : Nat, k ≤ n ∧ i = .int .i64 k ∧ x = .int .i64 m ∧ Hid (m = 4 + szS (ls.take k)) ∧ m ≤ 1048576) (fun _ i => n - (intOf i).toNat)
    case atStart => exact ⟨0, 4, Nat.zero_le _, rfl, rfl, by simp [Hid, szS], by omega⟩
    case round =>
      obtain ⟨k, m, hk, rfl, rfl, HT, hm⟩ := hrel
      by_cases hlt : k < n
      · obtain ⟨b, off, rfl, hbb, hca⟩ := rdS_at ha (k := k) (by have := HN.out; omega)
        obtain ⟨x, hx, hxt⟩ := list_at (ls := ls) (k := k) (by have := HN.out; omega)
        have hxs : x.size ≤ 140737488351232 := HS.out x (by rw [← hx]; exact List.getElem_mem _)
        rw [hx] at hca
        have h1 := HT.out
        have h2 : m + 4 + x.size = 4 + szS (ls.take (k + 1)) := by rw [hxt, szS_snoc, h1]; omega
        have h3 := szS_take ls (k + 1)
        have HX := Lib.hid h2
        have H3 := Lib.hid h3
        clear hx hxt ha h1 h2 h3
        by_cases hx1 : x.size ≤ 1048576
        · by_cases hx2 : m + 4 + x.size ≤ 1048576
          · go_wp2
            go_round
            case rel => exact ⟨k + 1, m + 4 + x.size, by omega, by go_num, by go_num, HX.out, by omega⟩
            case measure => simp [intOf]; omega
          · go_wp2
            go_ret
            exact ⟨ret_i64 (by rw [fsz_no (.inr (by have := HX.out; have := H3.out; omega))]; rfl), rfl⟩
        · go_wp2
          go_ret
          exact ⟨ret_i64 (by rw [fsz_no (.inr (by have := HX.out; have := H3.out; omega))]; rfl), rfl⟩
      · obtain rfl : k = n := by omega
        have h1 := HT.out
        rw [List.take_of_length_le (by have := HN.out; omega)] at h1
        have H1 := Lib.hid h1
        clear h1
        go_wp2
        go_ret
        refine ⟨ret_i64 ?_, rfl⟩
        rw [fsz_yes (by have := HN.out; omega) (by have := H1.out; omega)]
        have := H1.out
        omega
  · go_enter Tryd.func27, Tryd.ntmps27
    go_wp2
    go_ret
    exact ⟨ret_i64 (by rw [fsz_no (.inl (by have := HN.out; omega))]; rfl), rfl⟩
end Go.Proofs.YthbhbjfmlmgeeaaDoor
