/- Whether rows of lists of texts are few. -/
import Derived.Test.YthbhbjfmlmgeeaaDoorMany
namespace Go.Proofs.YthbhbjfmlmgeeaaDoor
open Go Go.RowKit
/-- How many bytes rows of texts have, each list with twelve ahead. -/
def szR : List (List ByteArray) → Nat
  | [] => 0
  | l :: r => 12 + szS l + szR r
theorem szR_snoc (r : List (List ByteArray)) (l : List ByteArray) : szR (r ++ [l]) = szR r + (12 + szS l) := by
  induction r with
  | nil => simp [szR]
  | cons x r ih => simp [szR, ih]; omega
theorem szR_mem {r : List (List ByteArray)} {l : List ByteArray} (h : l ∈ r) : 12 + szS l ≤ szR r := by
  induction r with
  | nil => cases h
  | cons x r ih =>
    rcases List.mem_cons.1 h with rfl | h
    · simp [szR]
    · have := ih h; simp [szR]; omega
theorem szR_len (r : List (List ByteArray)) : 12 * r.length ≤ szR r := by
  induction r with
  | nil => simp [szR]
  | cons x r ih => simp [szR]; omega
theorem szR_next {rs : List (List ByteArray)} {k m : Nat} {x : List ByteArray} (ht : rs.take (k + 1) = rs.take k ++ [x]) (hm : m = szR (rs.take k)) : m + 12 + szS x = szR (rs.take (k + 1)) := by rw [ht, szR_snoc, ← hm]; omega
def AllEnd (rs : List Row) (e : Ending) : Prop := ∃ b, e = .returned (.bool b) ∧ (b = true → szR (lsOf rs) ≤ 3000)
theorem all_no (rs : List Row) : AllEnd rs (.returned (.bool false)) := ⟨false, rfl, by simp⟩
theorem all_end (rs : List Row) (m : Nat) (h : m = szR (lsOf rs)) : AllEnd rs (.returned (.bool (decide ((m : Int) ≤ 3000)))) := ⟨_, rfl, by simp; omega⟩
theorem szS_step {ls : List ByteArray} {j i m : Nat} {x : ByteArray} (ht : ls.take (j + 1) = ls.take j ++ [x]) (hm : m = i + szS (ls.take j)) : m + 4 + x.size = i + szS (ls.take (j + 1)) := by rw [ht, szS_snoc, hm]; omega
set_option maxHeartbeats 1000000 in
theorem all_any (A : Option Addr) (n c : Nat) (rs : List Row) (w : World) (hn : rs.length = n) (bn : n ≤ 9223372036854775807) (hs : ∀ r ∈ rs, ∀ s ∈ r.ls, s.size ≤ 140737488351232) (ha : RdR w A rs) :
    Calls Tryd.prog 22 #[.slice A n c] w fun e w' => AllEnd rs e ∧ w' = w := by
  have HN := Lib.hid hn
  have HN' := Lib.hid (hn ▸ lsOf_len rs : (lsOf rs).length = n)
  have hs' : ∀ l ∈ lsOf rs, ∀ s ∈ l, s.size ≤ 140737488351232 := by
    intro l hl s h
    obtain ⟨r, hr, rfl⟩ := List.mem_map.1 hl
    exact hs r hr s h
  have HS := Lib.hid hs'
  have HA := Lib.hid ha
  clear hn hs hs' ha
  go_enter Tryd.func22, Tryd.ntmps22
  go_wp2
  go_loop [3, 4] (fun x i => ∃ k m : Nat, k ≤ n ∧ i = .int .i64 k ∧ x = .int .i64 m ∧ Hid (m = szR ((lsOf rs).take k)) ∧ m ≤ 6012) (fun _ i => n - (intOf i).toNat)
  case atStart => exact ⟨0, 0, Nat.zero_le _, rfl, rfl, by simp [Hid, szR], by omega⟩
  case round =>
    obtain ⟨k, m, hk, rfl, rfl, HT, hm⟩ := hrel
    by_cases hlt : k < n
    · by_cases hm3 : m ≤ 3000
      · obtain ⟨b, off, Ar, cr, x, nx, rfl, hbb, hca, hxl, hra, hxb, hxt, hxm⟩ := HA.out.at (k := k) (by have := HN.out; omega)
        have HX := Lib.hid (szR_next hxt HT.out)
        have HXM := Lib.hid (HS.out x hxm)
        have hcall := few_any Ar nx cr x w hxl hxb HXM.out hra
        have HXL := Lib.hid hxl
        have HRA := Lib.hid hra
        clear hxt hxm hxl hra
        by_cases hf : szS x ≤ 3000
        · rw [decide_eq_true hf] at hcall
          go_wp2_with fail
          refine hcall.mono ?_
          rintro e w' ⟨rfl, rfl⟩
          clear hcall
          go_wp2
          have hz : ∀ j, szS (x.take j) ≤ 3000 := fun j => Nat.le_trans (szS_take x j) hf
          have HZ := Lib.hid hz
          clear hz
          go_loop [3, 5] (fun y j => ∃ i m' : Nat, i ≤ nx ∧ j = .int .i64 i ∧ y = .int .i64 m' ∧ Hid (m' = m + 12 + szS (x.take i)) ∧ m' ≤ 6012) (fun _ j => nx - (intOf j).toNat)
          case atStart => exact ⟨0, m + 12, Nat.zero_le _, rfl, by go_num, by simp [Hid, szS], by omega⟩
          case round =>
            obtain ⟨i, m', hi, rfl, rfl, HT', hm'⟩ := hrel
            by_cases hil : i < nx
            · obtain ⟨b2, off2, rfl, hbb2, hcb⟩ := rdS_at HRA.out (k := i) (by have := HXL.out; omega)
              obtain ⟨y, hy, hyt⟩ := list_at (ls := x) (k := i) (by have := HXL.out; omega)
              have hys : y.size ≤ 140737488351232 := HXM.out y (by rw [← hy]; exact List.getElem_mem _)
              rw [hy] at hcb
              have HY := Lib.hid (szS_step hyt HT'.out)
              have hb' : m' + 4 + y.size ≤ 6012 := by have := HY.out; have := HZ.out (i + 1); omega
              clear hy hyt
              go_wp2
              go_round
              case rel => exact ⟨i + 1, m' + 4 + y.size, by omega, by go_num, by go_num, HY.out, hb'⟩
              case measure => simp [intOf]; omega
            · obtain rfl : i = nx := by omega
              have h2 := HT'.out
              rw [List.take_of_length_le (by have := HXL.out; omega), HX.out] at h2
              have H2 := Lib.hid h2
              clear h2
              go_wp2
              go_round
              case rel => exact ⟨k + 1, m', by omega, by go_num, rfl, H2.out, hm'⟩
              case measure => simp [intOf]; omega
        · rw [decide_eq_false hf] at hcall
          go_wp2_with fail
          refine hcall.mono ?_
          rintro e w' ⟨rfl, rfl⟩
          go_wp2
          go_ret
          exact ⟨all_no _, rfl⟩
      · have d3 : decide ((m : Int) ≤ 3000) = false := by simp; omega
        go_wp2
        go_ret
        exact ⟨all_no _, rfl⟩
    · obtain rfl : k = n := by omega
      have h1 := HT.out
      rw [List.take_of_length_le (by have := HN'.out; omega)] at h1
      have H1 := Lib.hid h1
      clear h1
      go_wp2
      go_ret
      exact ⟨all_end _ m H1.out, rfl⟩
end Go.Proofs.YthbhbjfmlmgeeaaDoor
