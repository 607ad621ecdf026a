/- Whether two lists of texts are the same. -/
import Derived.Test.YtnnlfhdjakabmaaBase
namespace Go.Proofs.Ytnnlfhdjakabmaa
open Go Go.RowKit
set_option maxHeartbeats 1000000 in
theorem one_any (A B : Option Addr) (n m c d : Nat) (ls ms : List ByteArray) (w : World) (hn : ls.length = n) (hm : ms.length = m) (bn : n ≤ 9223372036854775807) (bm : m ≤ 9223372036854775807) (ha : RdV w A (cellsS ls)) (hb : RdV w B (cellsS ms)) :
    Calls Try.prog 25 #[.slice A n c, .slice B m d] w fun e w' => e = .returned (.bool (eqS ls ms)) ∧ ∃ q, w' = w.drewN q := by
  have HN := Lib.hid hn
  have HM := Lib.hid hm
  clear hn hm
  by_cases hnm : n = m
  · subst hnm
    go_enter Try.func25, Try.ntmps25
    go_wp2
    go_loopw [5] (fun i wr => ∃ k q : Nat, k ≤ n ∧ i = .int .i64 k ∧ wr = w.drewN q ∧ Hid (ls.take k = ms.take k)) (fun i _ => n - (intOf i).toNat)
    case atStart => exact ⟨0, 0, Nat.zero_le _, rfl, rfl, by simp [Hid]⟩
    case round =>
      obtain ⟨k, q, hk, rfl, rfl, HT⟩ := hrel
      by_cases hlt : k < n
      · obtain ⟨b, off, rfl, hbb, hca⟩ := rdS_at ha (k := k) (by have := HN.out; omega)
        obtain ⟨b', off', rfl, hbb', hcb⟩ := rdS_at hb (k := k) (by have := HM.out; omega)
        obtain ⟨x, hx, hxt⟩ := list_at (ls := ls) (k := k) (by have := HN.out; omega)
        obtain ⟨y, hy, hyt⟩ := list_at (ls := ms) (k := k) (by have := HM.out; omega)
        rw [hx] at hca
        rw [hy] at hcb
        have HX := Lib.hid hxt
        have HY := Lib.hid hyt
        have hk0 : (0 : Int) ≤ (k : Int) := by omega
        have hk1 : (k : Int) < (n : Int) := by omega
        clear hx hy hxt hyt ha hb
        by_cases hxy : x = y
        · subst hxy
          go_wp2
          go_quiet (fail)
          go_wp2
          go_roundw
          case rel => exact ⟨k + 1, _, by omega, by go_num, rfl, by show _ = _; rw [HX.out, HY.out, HT.out]⟩
          case measure => simp [intOf]; omega
        · have e1 := bytes_ne hxy
          have e2 : (x.toList != y.toList) = true := by simp only [bne, e1, Bool.not_false]
          have HXY := Lib.hid hxy
          clear hxy
          go_wp2
          go_quiet (fail)
          go_wp2
          go_ret
          exact ⟨ret_bool (eqS_no (by have := HN.out; omega) (by have := HM.out; omega) HX.out HY.out HXY.out).symm, _, drew_two _ _ _⟩
      · go_wp2
        go_ret
        obtain rfl : k = n := by omega
        exact ⟨ret_bool (eqS_yes HN.out HM.out HT.out).symm, _, rfl⟩
  · have e1 : ((n : Int) != (m : Int)) = true := by simp; omega
    have e2 : (n != m) = true := by simp; omega
    have HNM := Lib.hid hnm
    clear hnm
    go_enter Try.func25, Try.ntmps25
    go_wp2
    go_ret
    exact ⟨ret_bool (eqS_len (by have := HN.out; have := HM.out; have := HNM.out; omega)).symm, 0, rfl⟩
end Go.Proofs.Ytnnlfhdjakabmaa
