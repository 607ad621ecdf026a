/- Whether two lists of texts are the same: the library's and the reference's. -/
import Derived.Test.YtglicojojpggmaaDoorStrs
namespace Go.Proofs.YtglicojojpggmaaDoor
open Go Go.RowKit
theorem drew_two (w : World) (q r : Nat) : (w.drewN q).drewN r = w.drewN (q + r) := by unfold World.drewN; simp [Nat.add_assoc]
/-- Are two lists the same? -/
def eqS (a b : List ByteArray) : Bool := decide (a = b)
theorem eqS_len {a b : List ByteArray} (h : a.length ≠ b.length) : eqS a b = false := by
  simp only [eqS, decide_eq_false_iff_not]
  rintro rfl
  exact h rfl
theorem eqS_yes {a b : List ByteArray} {n : Nat} (ha : a.length = n) (hb : b.length = n) (h : a.take n = b.take n) : eqS a b = true := by
  rw [List.take_of_length_le (by omega), List.take_of_length_le (by omega)] at h
  simp [eqS, h]
theorem eqS_no {a b : List ByteArray} {k : Nat} {x y : ByteArray} (ha : k < a.length) (hb : k < b.length) (hx : a.take (k + 1) = a.take k ++ [x]) (hy : b.take (k + 1) = b.take k ++ [y]) (h : x ≠ y) : eqS a b = false := by
  simp only [eqS, decide_eq_false_iff_not]
  rintro rfl
  rw [hx] at hy
  exact h (by simpa using hy)
set_option maxHeartbeats 1000000 in
theorem one_any (A B : Option Addr) (n m c d : Nat) (ls ms : List ByteArray) (w : World) (hn : ls.length = n) (hm : ms.length = m) (bn : n ≤ 9223372036854775807) (bm : m ≤ 9223372036854775807) (ha : RdV w A (cellsS ls)) (hb : RdV w B (cellsS ms)) :
    Calls Tryd.prog 17 #[.slice A n c, .slice B m d] w fun e w' => e = .returned (.bool (eqS ls ms)) ∧ ∃ q, w' = w.drewN q := by
  have HN := Lib.hid hn
  have HM := Lib.hid hm
  clear hn hm
  by_cases hnm : n = m
  · subst hnm
    go_enter Tryd.func17, Tryd.ntmps17
    go_wp2
    go_loopw [5] (fun i wr => ∃ k q : Nat, k ≤ n ∧ i = .int .i64 k ∧ wr = w.drewN q ∧ Hid (ls.take k = ms.take k)) (fun i _ => n - (intOf i).toNat)
    case atStart => exact ⟨0, 0, Nat.zero_le _, rfl, rfl, by simp [Hid]⟩
    case round =>
      obtain ⟨k, q, hk, rfl, rfl, HT⟩ := hrel
      by_cases hlt : k < n
      · obtain ⟨b, off, rfl, hbb, hca⟩ := rdS_at ha (k := k) (by have := HN.out; omega)
        obtain ⟨b', off', rfl, hbb', hcb⟩ := rdS_at hb (k := k) (by have := HM.out; omega)
        obtain ⟨x, hx, hxt⟩ := list_at (ls := ls) (k := k) (by have := HN.out; omega)
        obtain ⟨y, hy, hyt⟩ := list_at (ls := ms) (k := k) (by have := HM.out; omega)
        rw [hx] at hca
        rw [hy] at hcb
        have HX := Lib.hid hxt
        have HY := Lib.hid hyt
        have hk0 : (0 : Int) ≤ (k : Int) := by omega
        have hk1 : (k : Int) < (n : Int) := by omega
        clear hx hy hxt hyt ha hb
        by_cases hxy : x = y
        · subst hxy
          go_wp2
          go_quiet (fail)
          go_wp2
          go_roundw
          case rel => exact ⟨k + 1, _, by omega, by go_num, rfl, by show _ = _; rw [HX.out, HY.out, HT.out]⟩
          case measure => simp [intOf]; omega
        · have e1 := bytes_ne hxy
          have e2 : (x.toList != y.toList) = true := by simp only [bne, e1, Bool.not_false]
          have HXY := Lib.hid hxy
          clear hxy
          go_wp2
          go_quiet (fail)
          go_wp2
          go_ret
          exact ⟨ret_bool (eqS_no (by have := HN.out; omega) (by have := HM.out; omega) HX.out HY.out HXY.out).symm, _, drew_two _ _ _⟩
      · go_wp2
        go_ret
        obtain rfl : k = n := by omega
        exact ⟨ret_bool (eqS_yes HN.out HM.out HT.out).symm, _, rfl⟩
  · have e1 : ((n : Int) != (m : Int)) = true := by simp; omega
    have e2 : (n != m) = true := by simp; omega
    have HNM := Lib.hid hnm
    clear hnm
    go_enter Tryd.func17, Tryd.ntmps17
    go_wp2
    go_ret
    exact ⟨ret_bool (eqS_len (by have := HN.out; have := HM.out; have := HNM.out; omega)).symm, 0, rfl⟩

end Go.Proofs.YtglicojojpggmaaDoor
