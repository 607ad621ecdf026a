/- Whether one of the texts is too long. -/
import Derived.Test.YtnnlfhdjakabmaaDq
import Derived.Shelf.Abstract
namespace Go.Proofs.Ytnnlfhdjakabmaa
open Go Go.RowKit
open Go.Shelf
def longB (ls : List ByteArray) : Bool := ls.any fun s => decide (1048576 < s.size)
theorem longB_no {ls : List ByteArray} : longB ls = false ↔ ∀ s ∈ ls, s.size ≤ 1048576 := by simp [longB]
theorem long1_any (s : ByteArray) (w : World) (hs : s.size ≤ 9223372036854775807) : Calls Try.prog 58 #[.string s] w fun e w' => e = .returned (.bool (decide (1048576 < s.size))) ∧ w' = w := by
  go_enter Try.func58, Try.ntmps58
  go_wp2
  go_ret
  exact ⟨ret_bool (by simp; omega), rfl⟩
def IdxQ (ls : List ByteArray) (w : World) (e : Ending) (w' : World) : Prop := w' = w ∧ ∃ k : Int, e = .returned (.int .i64 k) ∧ (decide (0 ≤ k)) = longB ls ∧ -1 ≤ k ∧ k ≤ 9223372036854775807
theorem take_all_snoc {ls : List ByteArray} {k : Nat} {x : ByteArray} (h : ls.take (k + 1) = ls.take k ++ [x]) (h1 : longB (ls.take k) = false) (h2 : ¬ 1048576 < x.size) : longB (ls.take (k + 1)) = false := by
  rw [h]
  simp only [longB, List.any_append, Bool.or_eq_false_iff]
  exact ⟨h1, by simp; omega⟩
theorem longB_at {ls : List ByteArray} {x : ByteArray} (hx : x ∈ ls) (h : 1048576 < x.size) : longB ls = true := by
  simp only [longB, List.any_eq_true]
  exact ⟨x, hx, by simpa using h⟩
set_option maxHeartbeats 1000000 in
theorem index_any (A : Option Addr) (n c : Nat) (ls : List ByteArray) (w : World) (hn : ls.length = n) (bn : n ≤ 9223372036854775807) (hs : ∀ s ∈ ls, s.size ≤ 9223372036854775807) (ha : RdV w A (cellsS ls)) :
    Calls Try.prog 60 #[.slice A n c, .func (.func 58) #[] #[]] w (IdxQ ls w) := by
  have HN := Lib.hid hn
  have HS := Lib.hid hs
  have en : ∀ args w, (callFunc 58 args).run Try.prog w = .ok (.enter 58 args) w := enters_of Try.func58 (by kernel_rfl) rfl
  clear hn hs
  go_enter Try.func60, Try.ntmps60
  go_wp2
  go_loop [8] (fun i => ∃ k : Nat, k ≤ n ∧ i = .int .i64 k ∧ Hid (longB (ls.take k) = false)) (fun i => n - (intOf i).toNat)
  case atStart => exact ⟨0, Nat.zero_le _, rfl, by simp [Hid, longB]⟩
  case round =>
    obtain ⟨k, hk, rfl, HT⟩ := hrel
    by_cases hlt : k < n
    · obtain ⟨b, off, rfl, hbb, hca⟩ := rdS_at ha (k := k) (by have := HN.out; omega)
      obtain ⟨x, hx, hxt⟩ := list_at (ls := ls) (k := k) (by have := HN.out; omega)
      have hxm : x ∈ ls := by rw [← hx]; exact List.getElem_mem _
      have hxs := HS.out x hxm
      rw [hx] at hca
      have HX := Lib.hid hxt
      have HM := Lib.hid hxm
      have hk0 : (0 : Int) ≤ (k : Int) := by omega
      have hk1 : (k : Int) < (n : Int) := by omega
      clear hx hxt hxm ha
      by_cases hl : 1048576 < x.size
      · have hcall := long1_any x w hxs
        rw [decide_eq_true hl] at hcall
        have HL := Lib.hid (longB_at HM.out hl)
        go_wp2_with fail
        refine hcall.mono ?_
        rintro e w' ⟨rfl, rfl⟩
        go_wp2
        go_ret
        exact ⟨rfl, k, rfl, by rw [HL.out]; simp, by omega, by omega⟩
      · have hcall := long1_any x w hxs
        rw [decide_eq_false hl] at hcall
        have HL := Lib.hid (take_all_snoc HX.out HT.out hl)
        clear hl
        go_wp2_with fail
        refine hcall.mono ?_
        rintro e w' ⟨rfl, rfl⟩
        clear hcall
        go_wp2
        go_round
        case rel => exact ⟨k + 1, by omega, by go_num, HL⟩
        case measure => simp [intOf]; omega
    · obtain rfl : k = n := by omega
      have h1 := HT.out
      rw [List.take_of_length_le (by have := HN.out; omega)] at h1
      have H1 := Lib.hid h1
      clear h1
      go_wp2
      go_ret
      exact ⟨rfl, -1, rfl, by rw [H1.out]; simp, by omega, by omega⟩
theorem contains_any (A : Option Addr) (n c : Nat) (ls : List ByteArray) (w : World) (hn : ls.length = n) (bn : n ≤ 9223372036854775807) (hs : ∀ s ∈ ls, s.size ≤ 9223372036854775807) (ha : RdV w A (cellsS ls)) :
    Calls Try.prog 57 #[.slice A n c, .func (.func 58) #[] #[]] w fun e w' => e = .returned (.bool (longB ls)) ∧ w' = w := by
  have H := Lib.hid (index_any A n c ls w hn bn hs ha)
  clear hn hs ha
  go_enter Try.func57, Try.ntmps57
  go_wp2_with fail
  refine H.out.mono ?_
  rintro e w' ⟨rfl, k, rfl, hk, h1, h2⟩
  have HK := Lib.hid hk
  clear hk
  go_wp2
  go_ret
  exact ⟨ret_bool HK.out, rfl⟩
theorem long_any (A : Option Addr) (n c : Nat) (ls : List ByteArray) (w : World) (hn : ls.length = n) (bn : n ≤ 9223372036854775807) (hs : ∀ s ∈ ls, s.size ≤ 9223372036854775807) (ha : RdV w A (cellsS ls)) :
    Calls Try.prog 50 #[.slice A n c] w fun e w' => e = .returned (.bool (longB ls)) ∧ w' = w := by
  have H := Lib.hid (contains_any A n c ls w hn bn hs ha)
  clear hn hs ha
  go_enter Try.func50, Try.ntmps50
  go_wp2_with fail
  refine H.out.mono ?_
  rintro e w' ⟨rfl, rfl⟩
  go_wp2
  go_ret
  exact ⟨rfl, rfl⟩
end Go.Proofs.Ytnnlfhdjakabmaa
