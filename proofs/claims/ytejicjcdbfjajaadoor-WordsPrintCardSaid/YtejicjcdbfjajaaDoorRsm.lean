/- Which words are the same: the document's; which lists are heavy. -/
import Derived.Test.YtejicjcdbfjajaaDoorSam
namespace Go.Proofs.YtejicjcdbfjajaaDoor
open Go Go.RowKit
set_option maxRecDepth 100000 in
set_option maxHeartbeats 8000000 in
theorem rsame_any (A B : Option Addr) (c d : Nat) (a b : List Wr) (w : World) (ha : RdA w A a) (hb : RdA w B b) (la : a.length ≤ 9223372036854775807) (lb : b.length ≤ 9223372036854775807) :
    Calls Tryd.prog 15 #[.slice A a.length c, .slice B b.length d] w fun e w' => e = .returned (.bool (sameL a b)) ∧ Below w.heap.size w w' := by
  have HKA := Lib.hid ha
  have HKB := Lib.hid hb
  clear ha hb
  by_cases hl : a.length = b.length
  rotate_left
  · have e7 : ((a.length : Int) != (b.length : Int)) = true := by simp; omega
    have e8 : (a.length != b.length) = true := by simpa using hl
    have HR := Lib.hid (sameL_len _ _ hl)
    clear hl
    go_enter Tryd.func15, Tryd.ntmps15
    go_wp2_with fail
    go_ret
    exact ⟨by rw [HR.out]; rfl, Below.refl _ _⟩
  have e7 : ((a.length : Int) != (b.length : Int)) = false := by simp; omega
  have e8 : (a.length != b.length) = false := by simpa using hl
  have HL := Lib.hid hl
  clear hl
  go_enter Tryd.func15, Tryd.ntmps15
  go_wp2_with fail
  clear e7 e8
  go_loopw [5] (fun i wr => ∃ k : Nat, k ≤ a.length ∧ i = .int .i64 k ∧ Hid (Below w.heap.size w wr) ∧ Hid (sameL (a.take k) (b.take k) = true)) (fun i _ => a.length - (intOf i).toNat)
  case atStart => exact ⟨0, Nat.zero_le _, rfl, Lib.hid (Below.refl _ _), Lib.hid (by simp [sameL])⟩
  case round =>
    obtain ⟨k, hk, rfl, HB, HS⟩ := hrel
    by_cases hlt : k < a.length
    · have hlt2 : k < b.length := by have := HL.out; omega
      obtain ⟨bA, oA, hA, hbA, x0, x1, x2, x3⟩ := (HKA.out.below HB.out).at hlt
      obtain ⟨bB, oB, hB, hbB, y0, y1, y2, y3⟩ := (HKB.out.below HB.out).at hlt2
      have HNX := Lib.hid (sameL_next a b k hlt hlt2)
      have HCU := Lib.hid (sameL_cut a b k hlt hlt2)
      subst hA
      subst hB
      have hk0 : (0 : Int) ≤ (k : Int) := by omega
      have hka : (k : Int) < (a.length : Int) := by omega
      have hkb : (k : Int) < (b.length : Int) := by omega
      generalize a[k] = p at *
      generalize b[k] = q at *
      clear hbA hbB
      by_cases hkd : p.kind = q.kind
      rotate_left
      · have e1 : (p.kind != q.kind) = true := by simpa using hkd
        have HR := Lib.hid (HCU.out (by simp [sameW, hkd]))
        clear hkd HNX HCU
        go_wp2_with fail
        go_quiet (fail)
        generalize nq = nq at *
        have HB1 := Lib.hid (below_any nq HB.out)
        go_wp2_with fail
        go_ret
        exact ⟨by rw [HR.out]; rfl, HB1.out⟩
      have e1 : (p.kind != q.kind) = false := by simpa using hkd
      by_cases ht : p.text = q.text
      rotate_left
      · have e5 := bytes_ne ht
        have e6 : (p.text.toList != q.text.toList) = true := by simp only [bne, e5, Bool.not_false]
        have HR := Lib.hid (HCU.out (by simp [sameW, ht]))
        clear ht hkd HNX HCU
        go_wp2_with fail
        go_quiet (fail)
        generalize nq = nq at *
        have HB1 := Lib.hid (below_any nq HB.out)
        go_wp2_with fail
        go_ret
        exact ⟨by rw [HR.out]; rfl, HB1.out⟩
      have e5 : (p.text.toList == q.text.toList) = true := by rw [ht]; exact bytes_eq _
      have e6 : (p.text.toList != q.text.toList) = false := by simp only [bne, e5, Bool.not_true]
      by_cases hn : p.num = q.num
      rotate_left
      · have e3 : (p.num != q.num) = true := by simpa using hn
        have HR := Lib.hid (HCU.out (by simp [sameW, hn]))
        clear ht hkd hn HNX HCU
        go_wp2_with fail
        go_quiet (fail)
        generalize nq = nq at *
        have HB1 := Lib.hid (below_any nq HB.out)
        go_wp2_with fail
        go_ret
        exact ⟨by rw [HR.out]; rfl, HB1.out⟩
      have e3 : (p.num != q.num) = false := by simpa using hn
      have HS2 : Hid (sameL (a.take (k + 1)) (b.take (k + 1)) = true) := Lib.hid (by rw [HNX.out, HS.out]; simp [sameW, hkd, ht, hn])
      clear ht hkd hn HNX HCU
      go_wp2_with fail
      go_quiet (fail)
      generalize nq = nq at *
      have HB1 := Lib.hid (below_any nq HB.out)
      go_wp2_with fail
      go_roundw
      case rel => exact ⟨k + 1, by omega, by go_num, HB1, HS2⟩
      case measure => simp [intOf]; omega
    · obtain rfl : k = a.length := by omega
      have HR : Hid (sameL a b = true) := Lib.hid (by
        have h1 := HS.out
        rw [List.take_length, HL.out, List.take_length] at h1
        exact h1)
      go_wp2_with fail
      go_ret
      exact ⟨by rw [HR.out]; rfl, HB.out⟩
set_option maxRecDepth 100000 in
set_option maxHeartbeats 8000000 in
theorem heavy_any (A : Option Addr) (c : Nat) (a : List Wr) (w : World) (ha : RdA w A a) (la : a.length ≤ 9223372036854775807) (hs : ∀ x ∈ a, x.ok) :
    Calls Tryd.prog 12 #[.slice A a.length c] w fun e w' => (∃ b, e = .returned (.bool b)) ∧ w' = w := by
  have HKA := Lib.hid ha
  have HS := Lib.hid hs
  clear ha hs
  go_enter Tryd.func12, Tryd.ntmps12
  go_wp2_with fail
  go_loopw [3, 4] (fun n i wr => ∃ k z : Nat, k ≤ a.length ∧ i = .int .i64 k ∧ n = .int .i64 z ∧ z ≤ 2000 ∧ wr = w) (fun _ i _ => a.length - (intOf i).toNat)
  case atStart => exact ⟨0, 0, Nat.zero_le _, rfl, rfl, by omega, by trivial⟩
  case round =>
    obtain ⟨k, z, hk, rfl, rfl, hz, rfl⟩ := hrel
    by_cases hlt : k < a.length
    · obtain ⟨bA, oA, hA, hbA, x0, x1, x2, x3⟩ := HKA.out.at hlt
      have hsz : a[k].text.size ≤ 140737488351232 := (HS.out _ (List.getElem_mem hlt)).2.1
      subst hA
      have hk0 : (0 : Int) ≤ (k : Int) := by omega
      have hka : (k : Int) < (a.length : Int) := by omega
      have d1 : decide (k < a.length) = true := decide_eq_true hlt
      generalize a[k] = p at *
      by_cases h2 : k < 200
      · have d2 : decide (k < 200) = true := decide_eq_true h2
        by_cases h3 : 2000 < z + p.text.size
        · have d3 : decide (2000 < z + p.text.size) = true := decide_eq_true h3
          have d4 : decide ((2000 : Int) < (z : Int) + (p.text.size : Int)) = true := decide_eq_true (by omega)
          go_wp2_with fail
          go_ret
          exact ⟨⟨_, rfl⟩, by trivial⟩
        · have d3 : decide (2000 < z + p.text.size) = false := decide_eq_false h3
          have d4 : decide ((2000 : Int) < (z : Int) + (p.text.size : Int)) = false := decide_eq_false (by omega)
          go_wp2_with fail
          go_roundw
          case rel => exact ⟨k + 1, z + p.text.size, by omega, by go_num, by go_num, by omega, by trivial⟩
          case measure => simp [intOf]; omega
      · have d2 : decide (k < 200) = false := decide_eq_false h2
        go_wp2_with fail
        go_ret
        exact ⟨⟨_, rfl⟩, by trivial⟩
    · have d1 : decide (k < a.length) = false := decide_eq_false hlt
      go_wp2_with fail
      go_ret
      exact ⟨⟨_, rfl⟩, by trivial⟩
end Go.Proofs.YtejicjcdbfjajaaDoor
