/- A number to the base 16, as the library writes it. -/
import Derived.Test.YtpomaabkgbaikaaDoorD1Kept
import Derived.Laws.Tables
namespace Go.Proofs.YtpomaabkgbaikaaDoor.Dg
open Go Go.RowKit
set_option maxRecDepth 100000 in
theorem pow16_any (w : World) : Calls Tryd.prog 99 #[.int .i64 16] w fun e w' => e = .returned (.bool true) ∧ w = w' := by
  have e1 : bits .and .i64 16 15 = 0 := by decide
  go_enter Tryd.func99, Tryd.ntmps99
  go_wp2
  go_ret
  exact ⟨rfl, rfl⟩
set_option maxRecDepth 100000 in
theorem tz64_any (w : World) (h : w.cell? ⟨2, 15, none⟩ = some (.int .u8 4)) : Calls Tryd.prog 102 #[.int .u64 16] w fun e w' => e = .returned (.int .i64 4) ∧ w = w' := by
  have e1 : bits .and .u64 16 (IntKind.u64.wrap (-16)) = 16 := by decide
  have e2 : IntKind.u64.wrap 4573923408821661840 = 4573923408821661840 := by decide
  go_enter Tryd.func102, Tryd.ntmps102
  go_wp2
  go_ret
  exact ⟨rfl, rfl⟩
set_option maxRecDepth 100000 in
theorem tz_any (w : World) (h : w.cell? ⟨2, 15, none⟩ = some (.int .u8 4)) : Calls Tryd.prog 100 #[.int .u64 16] w fun e w' => e = .returned (.int .i64 4) ∧ w = w' := by
  go_enter Tryd.func100, Tryd.ntmps100
  go_wp2_with (go_at_call 102; refine (tz64_any _ h).mono ?_; rintro e w' ⟨rfl, rfl⟩)
  go_ret
  exact ⟨rfl, rfl⟩
def hx (d : Nat) : UInt8 := [48, 49, 50, 51, 52, 53, 54, 55, 56, 57, 97, 98, 99, 100, 101, 102].getD d 0
/-- The lowest j digits to the base 16, the highest ahead. -/
def low (n : Nat) : Nat → List UInt8
  | 0 => []
  | j + 1 => hx (n / 16 ^ j % 16) :: low n j
set_option maxRecDepth 100000 in
theorem low_len (n j : Nat) : (low n j).length = j := by
  induction j with
  | zero => rfl
  | succ j ih => simp [low, ih]
set_option maxRecDepth 100000 in
theorem zero74 : Tryd.zeroCells146.size = 65 := by kernel_rfl
/-- The array's last cells are these bytes. -/
def Ends (w : World) (g : Nat) (l : List UInt8) : Prop := ∃ cs, w.heap[g]? = some (.cells cs 146 (0, 0)) ∧ cs.size = 65 ∧ ∀ t (h : t < l.length), cs[65 - l.length + t]? = some (cellB l[t])
set_option maxRecDepth 100000 in
theorem Ends.push {w : World} {g : Nat} {l : List UInt8} (h : Ends w g l) (hl : l.length < 65) (b : UInt8) (k : Nat) (hk : k = 64 - l.length) : Ends (w.setCell ⟨g, k, none⟩ (.int .u8 b.toNat)) g (b :: l) := by
  subst hk
  obtain ⟨cs, hg, hs, hc⟩ := h
  refine ⟨_, heap_setCell_same w g _ cs 146 _ hg, by simpa using hs, fun t ht => ?_⟩
  rw [List.length_cons] at ht ⊢
  match t with
  | 0 =>
    rw [show 65 - (l.length + 1) + 0 = 64 - l.length from by omega, Array.getElem?_setIfInBounds_self_of_lt (by omega)]; rfl
  | t + 1 =>
    rw [show 65 - (l.length + 1) + (t + 1) = 65 - l.length + t from by omega, Array.getElem?_setIfInBounds_ne (by omega), hc t (by omega)]; rfl

def digs : ByteArray := { data := #[48, 49, 50, 51, 52, 53, 54, 55, 56, 57, 97, 98, 99, 100, 101, 102, 103, 104, 105, 106, 107, 108, 109, 110, 111, 112, 113, 114, 115, 116, 117, 118, 119, 120, 121, 122] }
set_option maxRecDepth 100000 in
theorem digit0 : ∀ k, k < 16 → digs.data.toList.getD k 0 = hx k := by decide
set_option maxRecDepth 100000 in
theorem digit_of (B : ByteArray) (e : B = digs) (k : Nat) (hk : k < 16) (h : k < B.size) : B[k]'h = hx k := by
  subst e
  rw [← digit0 k hk]
  have h' : k < digs.data.size := h
  show digs.data[k]'h' = _
  rw [List.getD_eq_getElem?_getD, Array.getElem?_toList, Array.getElem?_eq_getElem h']; rfl
set_option maxRecDepth 100000 in
theorem digit (k : Nat) (hk : k < 16) (h : k < ({ data := #[48, 49, 50, 51, 52, 53, 54, 55, 56, 57, 97, 98, 99, 100, 101, 102, 103, 104, 105, 106, 107, 108, 109, 110, 111, 112, 113, 114, 115, 116, 117, 118, 119, 120, 121, 122] } : ByteArray).size) :
    ({ data := #[48, 49, 50, 51, 52, 53, 54, 55, 56, 57, 97, 98, 99, 100, 101, 102, 103, 104, 105, 106, 107, 108, 109, 110, 111, 112, 113, 114, 115, 116, 117, 118, 119, 120, 121, 122] } : ByteArray)[k]'h = hx k :=
  digit_of _ rfl k hk h
set_option maxRecDepth 100000 in
theorem low_end (n j v : Nat) (h : v = n / 16 ^ j) (hv : v < 16) : n < 16 ^ (j + 1) := by
  rw [Nat.pow_succ, Nat.mul_comm]
  rw [h] at hv
  exact (Nat.div_lt_iff_lt_mul (Nat.pow_pos (by omega))).1 hv
set_option maxRecDepth 100000 in
theorem low_next (j v : Nat) (hj : j ≤ 7) (hv : 16 ≤ v) (h : v < 16 ^ (8 - j)) : j + 1 ≤ 7 := by
  rcases Nat.lt_or_ge j 7 with h7 | h7
  · omega
  · obtain rfl : j = 7 := by omega
    simp at h
    omega

set_option maxRecDepth 100000 in
theorem arr74 : Tryd.prog.arrayLen 146 = 65 := by kernel_rfl
set_option maxRecDepth 100000 in
theorem elem74 : Tryd.prog.elem 146 = 5 := by kernel_rfl
set_option maxRecDepth 100000 in
theorem slice74 (g q : Nat) (hq : q ≤ 64) (W : World) : (Instr.sliceAt 146 (.pointer (some ⟨g, 0, none⟩)) (some (.int .i64 (q : Int))) none none).run Tryd.prog W = .ok (.slice (some ⟨g, q, none⟩) (65 - q) (65 - q)) W := by
  obtain ⟨i0, hi, hz0, hz1, hz2⟩ := info_parts u8_info
  rw [run_sliceAt_array_l (P := Tryd.prog) W 146 ⟨g, 0, none⟩ (by rw [arr74, elem74]; exact Tryd.underlying146) .i64 q (by omega) (by rw [arr74]; omega), elem74]
  simp only [sizeOf, typeInfo, hi, Sem.run_bind, Sem.run_pure, Result.andThen_ok, hz1, slicedAt, arr74, Int.toNat_natCast, Nat.mul_one, add0]
  simp [typeInfo, hi, hz1, show ¬ 65 = q from by omega, add0]

set_option maxRecDepth 100000 in
theorem ends_conv {W : World} {g : Nat} {l : List UInt8} (h : Ends W g l) (q : Nat) (hq : q + l.length = 65) :
    (convert 52 9 (.slice (some ⟨g, q, none⟩) (65 - q) (65 - q))).run Tryd.prog W = .ok (.string ⟨l.toArray⟩) W := by
  obtain ⟨cs, hg, hs, hc⟩ := h
  have := conv_some W g q (65 - q) l (fun j hj => by
    rw [cell_of_row W g _ cs 146 (0, 0) hg, show q + j = 65 - l.length + j from by omega]; exact hc j hj)
  rwa [show l.length = 65 - q from by omega] at this

set_option maxHeartbeats 1000000 in
set_option maxRecDepth 100000 in
theorem fb_any (n : Nat) (w : World) (hn : n < 4294967296) (h : w.cell? ⟨2, 15, none⟩ = some (.int .u8 4)) :
    Calls Tryd.prog 95 #[.slice none 0 0, .int .u64 n, .int .i64 16, .bool false, .bool false] w fun e w' => (∃ j, j ≤ 7 ∧ n < 16 ^ (j + 1) ∧ e = .returned (.tuple #[.slice none 0 0, .string ⟨(low n (j + 1)).toArray⟩])) ∧ Below w.heap.size w w' := by
  have h2 : ∀ o, (w.alloc o).cell? ⟨2, 15, none⟩ = some (.int .u8 4) := fun o => (World.cell?_alloc_lt w o ⟨2, 15, none⟩ (block_lt_of_cell h)).trans h
  go_enter Tryd.func95, Tryd.ntmps95
  go_wp2_with (first
    | (go_at_call 99; refine (pow16_any _).mono ?_; rintro e w' ⟨rfl, rfl⟩)
    | (go_at_call 100; refine (tz_any _ (h2 _)).mono ?_; rintro e w' ⟨rfl, rfl⟩))
  clear h2
  go_loopw [1, 13] (fun u i wr => ∃ j q v : Nat, q + j = 64 ∧ j ≤ 7 ∧ u = .int .u64 v ∧ i = .int .i64 ((q : Int) + 1) ∧ Hid (v = n / 16 ^ j) ∧ Hid (v < 16 ^ (8 - j)) ∧ v < 4294967296 ∧ Ends wr w.heap.size (low n j) ∧ Below w.heap.size w wr) (fun u _ _ => (intOf u).toNat)
  case atStart => exact ⟨0, 64, n, by omega, by omega, rfl, rfl, by simp [Hid], hn, hn, ⟨_, heap_alloc_new w _, zero74, fun t ht => absurd ht (by simp [low])⟩, (Below.refl _ _).alloc (Nat.le_refl _) _⟩
  case round =>
    obtain ⟨j, q, v, hq, hj, rfl, rfl, HV, HV2, hv32, hends, hbel⟩ := hrel
    have hcell : ∃ x, wr.cell? ⟨w.heap.size, q, none⟩ = some x := by
      obtain ⟨cs, hg, hs, _⟩ := hends
      exact ⟨cs[q]'(by omega), by rw [cell_of_row wr _ _ cs 146 (0, 0) hg]; exact Array.getElem?_eq_getElem (by omega)⟩
    obtain ⟨x, hcell⟩ := hcell
    have hfz : wr.frozen? ⟨w.heap.size, q, none⟩ = false := by
      obtain ⟨cs, hg, _⟩ := hends
      exact frozen_of_row wr _ _ cs 146 hg
    have HE := Lib.hid hends
    clear hends
    have hq57 : 57 ≤ q := by omega
    have hq64 : q ≤ 64 := by omega
    have hjq := Lib.hid hq
    clear hq
    by_cases hge : 16 ≤ v
    · have ea : bits .and .u64 (v : Int) 15 = ((v % 16 : Nat) : Int) := by
        have := u64_and_nat v 15 (by omega) (by omega)
        rw [show ((15 : Nat) : Int) = 15 from rfl] at this
        rw [this]; congr 1; exact Nat.and_two_pow_sub_one_eq_mod v 4
      have hm16 : v % 16 < 16 := Nat.mod_lt _ (by omega)
      go_wp2
      go_roundw
      case rel =>
        rw [digit _ hm16]
        have hj7 : j + 1 ≤ 7 := low_next j v hj hge HV2.out
        have hlow : low n (j + 1) = hx (v % 16) :: low n j := by rw [low, ← HV.out]
        refine ⟨j + 1, q - 1, v / 16, by have := hjq.out; omega, hj7, by go_num, by go_num, ?_, ?_, by omega, ?_, hbel.setCell (Nat.le_refl _) _⟩
        · show v / 16 = n / 16 ^ (j + 1)
          rw [HV.out, Nat.div_div_eq_div_mul, Nat.pow_succ]
        · show v / 16 < 16 ^ (8 - (j + 1))
          have h8 := HV2.out
          rw [show 8 - j = (8 - (j + 1)) + 1 from by omega, Nat.pow_succ] at h8
          exact Nat.div_lt_of_lt_mul (by rw [Nat.mul_comm]; exact h8)
        · rw [hlow]
          exact HE.out.push (by rw [low_len]; omega) _ q (by rw [low_len]; have := hjq.out; omega)
      case measure => simp [intOf]; omega
    · have hm16 : v < 16 := by omega
      have hsl := slice74 w.heap.size q hq64
      have hdg := digit v hm16
      have hlow : low n (j + 1) = hx v :: low n j := by rw [low, ← HV.out, Nat.mod_eq_of_lt hm16]
      have hpush := HE.out.push (by rw [low_len]; omega) (hx v) q (by rw [low_len]; have := hjq.out; omega)
      rw [← hlow] at hpush
      have hcv := ends_conv hpush q (by rw [low_len]; have := hjq.out; omega)
      have HP : Hid (n < 16 ^ (j + 1)) := low_end n j v HV.out hm16
      clear hpush hlow
      go_wp2
      go_ret2
      exact ⟨⟨j, hj, HP.out, rfl⟩, hbel.setCell (Nat.le_refl _) _⟩
set_option maxRecDepth 100000 in
theorem ifu_any (n : Nat) (w : World) (hn : n < 4294967296) (h : w.cell? ⟨2, 15, none⟩ = some (.int .u8 4)) :
    Calls Tryd.prog 85 #[.int .u64 n, .int .i64 16] w fun e w' => (∃ j, j ≤ 7 ∧ n < 16 ^ (j + 1) ∧ e = .returned (.string ⟨(low n (j + 1)).toArray⟩)) ∧ Below w.heap.size w w' := by
  go_enter Tryd.func85, Tryd.ntmps85
  go_wp2_with fail
  refine (fb_any n w hn h).mono ?_
  rintro e w' ⟨⟨j, hj, hlt, rfl⟩, hb⟩
  have HL := Lib.hid hlt
  clear hlt
  go_wp2
  go_ret
  exact ⟨⟨j, hj, HL.out, rfl⟩, hb⟩
set_option maxRecDepth 100000 in
theorem fu_any (n : Nat) (w : World) (hn : n < 4294967296) (h : w.cell? ⟨2, 15, none⟩ = some (.int .u8 4)) :
    Calls Tryd.prog 70 #[.int .u64 n, .int .i64 16] w fun e w' => (∃ j, j ≤ 7 ∧ n < 16 ^ (j + 1) ∧ e = .returned (.string ⟨(low n (j + 1)).toArray⟩)) ∧ Below w.heap.size w w' := by
  go_enter Tryd.func70, Tryd.ntmps70
  go_wp2_with fail
  refine (ifu_any n w hn h).mono ?_
  rintro e w' ⟨⟨j, hj, hlt, rfl⟩, hb⟩
  have HL := Lib.hid hlt
  clear hlt
  go_wp2
  go_ret
  exact ⟨⟨j, hj, HL.out, rfl⟩, hb⟩
end Go.Proofs.YtpomaabkgbaikaaDoor.Dg
