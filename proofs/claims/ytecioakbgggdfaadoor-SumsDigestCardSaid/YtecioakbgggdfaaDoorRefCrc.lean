/- The reference's sum, bit by bit, is the same plain function. -/
import Derived.Test.YtecioakbgggdfaaDoorCrc
namespace Go.Proofs.YtecioakbgggdfaaDoor
open Go Go.RowKit
def bitS (n : Nat) : Nat := if n % 2 = 1 then (n / 2) ^^^ 3988292384 else n / 2
def bitN : Nat → Nat → Nat
  | 0, n => n
  | k + 1, n => bitS (bitN k n)
theorem bitS_lt (n : Nat) (h : n < 4294967296) : bitS n < 4294967296 := by
  unfold bitS
  split
  · exact Nat.xor_lt_two_pow (n := 32) (by omega) (by omega)
  · omega
theorem bitN_lt (k n : Nat) (h : n < 4294967296) : bitN k n < 4294967296 := by
  induction k with
  | zero => exact h
  | succ k ih => exact bitS_lt _ ih
theorem half_two (a b : Nat) : (a ^^^ b) / 2 = a / 2 ^^^ b / 2 := by
  have := Nat.shiftRight_xor_distrib (a := a) (b := b) (i := 1)
  simpa [Nat.shiftRight_eq_div_pow] using this
theorem mod_two (a b : Nat) : (a ^^^ b) % 2 = (a % 2 + b % 2) % 2 := by
  have := Nat.xor_mod_two_pow (a := a) (b := b) (n := 1)
  rw [Nat.pow_one] at this
  rw [this]
  have h1 := Nat.mod_two_eq_zero_or_one a
  have h2 := Nat.mod_two_eq_zero_or_one b
  rcases h1 with h1 | h1 <;> rcases h2 with h2 | h2 <;> rw [h1, h2] <;> rfl
theorem bitS_xor (a b : Nat) : bitS (a ^^^ b) = bitS a ^^^ bitS b := by
  unfold bitS
  rw [half_two, mod_two]
  rcases Nat.mod_two_eq_zero_or_one a with h1 | h1 <;> rcases Nat.mod_two_eq_zero_or_one b with h2 | h2 <;> rw [h1, h2] <;> simp
  · rw [Nat.xor_assoc]
  · rw [Nat.xor_assoc, Nat.xor_assoc]; congr 1; rw [Nat.xor_comm]
  · rw [Nat.xor_assoc, Nat.xor_comm 3988292384, Nat.xor_assoc, Nat.xor_self, Nat.xor_zero]
theorem bitN_xor (k a b : Nat) : bitN k (a ^^^ b) = bitN k a ^^^ bitN k b := by
  induction k with
  | zero => rfl
  | succ k ih => rw [bitN, ih, bitS_xor]; rfl
theorem bitS_even (m : Nat) : bitS (2 * m) = m := by unfold bitS; rw [if_neg (by omega)]; omega
theorem bitN_16 (m : Nat) : bitN 4 (16 * m) = m := by
  rw [show 16 * m = 2 * (2 * (2 * (2 * m))) from by omega]
  simp only [bitN, bitS_even]
theorem bitN_tab : ∀ k, k < 16 → bitN 4 k = htab k := by decide
theorem split16 (n : Nat) : n = (16 * (n / 16)) ^^^ (n % 16) := by
  apply Nat.eq_of_testBit_eq
  intro i
  rw [Nat.testBit_xor, show 16 * (n / 16) = 2 ^ 4 * (n / 2 ^ 4) from rfl, show n % 16 = n % 2 ^ 4 from rfl, Nat.testBit_two_pow_mul, Nat.testBit_mod_two_pow, Nat.testBit_div_two_pow]
  by_cases h : i < 4
  · simp [h, show ¬ 4 ≤ i from by omega]
  · have h' : 4 ≤ i := by omega
    simp [h, h', Nat.add_sub_cancel' h']
theorem half_bitN (n : Nat) : half n = bitN 4 n := by
  have e := split16 n
  have e2 : bitN 4 n = bitN 4 ((16 * (n / 16)) ^^^ (n % 16)) := by rw [← e]
  rw [e2, bitN_xor, bitN_16, bitN_tab _ (Nat.mod_lt _ (by omega))]; rfl
theorem bitN_add (j k n : Nat) : bitN j (bitN k n) = bitN (j + k) n := by
  induction j with
  | zero => rw [Nat.zero_add]; rfl
  | succ j ih => rw [bitN, ih, show j + 1 + k = (j + k) + 1 from by omega]; rfl
theorem crcB_bits (n : Nat) (b : UInt8) : crcB n b = bitN 8 (n ^^^ b.toNat) := by
  rw [crcB, half_bitN, half_bitN, bitN_add]
theorem crcB_lt (n : Nat) (b : UInt8) (h : n < 4294967296) : crcB n b < 4294967296 := by
  rw [crcB]; exact half_lt _ (half_lt _ (Nat.xor_lt_two_pow (n := 32) h (by have := b.toNat_lt; omega)))
theorem crcL_lt (l : List UInt8) : ∀ n, n < 4294967296 → crcL n l < 4294967296 := by
  induction l with
  | nil => intro n h; exact h
  | cons b l ih => intro n h; exact ih _ (crcB_lt n b h)

theorem crcL_snoc (m : Nat) (l : List UInt8) (k : Nat) (hk : k < l.length) : crcL m (l.take (k + 1)) = crcB (crcL m (l.take k)) l[k] := by
  rw [List.take_succ_eq_append_getElem hk, crcL, List.foldl_append]; rfl
theorem xor_even (n : Nat) (h : n < 4294967296) (hn : n % 2 = 0) : bitS n = n / 2 := by unfold bitS; rw [if_neg (by omega)]
theorem xor64 (n m : Nat) (h : n < 4294967296) (h' : m < 4294967296) : bits .xor .u64 (n : Int) (m : Int) = ((n ^^^ m : Nat) : Int) := u64_xor_nat n m (by omega) (by omega)
theorem xor64_odd (n : Nat) (h : n < 4294967296) (hn : n % 2 = 1) : bits .xor .u64 ((n : Int) / 2) 3988292384 = (bitS n : Int) := by
  rw [show ((n : Int) / 2) = ((n / 2 : Nat) : Int) from by omega, show (3988292384 : Int) = ((3988292384 : Nat) : Int) from rfl, xor64 _ _ (by omega) (by omega)]
  unfold bitS; rw [if_pos hn]
theorem xor64_inv (n : Nat) (h : n < 4294967296) : bits .xor .u64 (n : Int) 4294967295 = (inv n : Int) := by
  rw [show (4294967295 : Int) = ((4294967295 : Nat) : Int) from rfl, xor64 _ _ h (by omega)]; unfold inv; rw [Nat.xor_comm]

set_option maxHeartbeats 400000 in
theorem rupd_any (s : Nat) (A : Option Addr) (c : Nat) (l : List UInt8) (w : World) (hs : s < 4294967296) (hl : l.length ≤ 1000000) (hr : Rd w A l) :
    Calls Tryd.prog 18 #[.int .u32 s, .slice A l.length c] w fun e w' => e = .returned (.int .u32 (inv (crcL (inv s) l) : Nat)) ∧ w = w' := by
  have e1 := xor64_inv s hs
  have hi := inv_lt s hs
  go_enter Tryd.func18, Tryd.ntmps18
  go_wp2
  clear e1
  go_loop [5, 6] (fun x i => ∃ k n : Nat, k ≤ l.length ∧ i = .int .i64 k ∧ x = .int .u64 n ∧ Hid (n = crcL (inv s) (l.take k)) ∧ n < 4294967296) (fun _ i => l.length - (intOf i).toNat)
  case atStart => exact ⟨0, inv s, Nat.zero_le _, rfl, rfl, by simp [Hid, crcL], hi⟩
  case round =>
    obtain ⟨k, n, hk, rfl, rfl, HN, hn⟩ := hrel
    by_cases hlt : k < l.length
    · obtain ⟨b, off, rfl, hbb, hcell⟩ := hr (by omega)
      have hx' := hcell k hlt
      have hx256 : l[k].toNat < 256 := l[k].toNat_lt
      generalize hX : l[k].toNat = x at *
      have HX := Lib.hid hX
      clear hX hcell
      have e2 := xor64 n x hn (by omega)
      have hn1 : n ^^^ x < 4294967296 := Nat.xor_lt_two_pow (n := 32) hn (by omega)
      go_wp2
      generalize hM : n ^^^ x = m at *
      have HM := Lib.hid hM
      clear hM
      go_loop [5, 7] (fun y j => ∃ i v : Nat, i ≤ 8 ∧ j = .int .i64 i ∧ y = .int .u64 v ∧ Hid (v = bitN i m) ∧ v < 4294967296) (fun _ j => 8 - (intOf j).toNat)
      case atStart => exact ⟨0, m, Nat.zero_le _, rfl, rfl, by simp [Hid, bitN], hn1⟩
      case round =>
        obtain ⟨i, v, hi8, rfl, rfl, HV, hv⟩ := hrel
        by_cases hlt8 : i < 8
        · rcases Nat.mod_two_eq_zero_or_one v with hp | hp
          · have hq := xor_even v hv hp
            have HQ := Lib.hid hq
            have hp' : ((v : Int) % 2 == 1) = false := by simp; omega
            have hv2 := bitS_lt v hv
            clear hq hp
            go_wp2
            go_round
            case rel => exact ⟨i + 1, v / 2, by omega, by go_num, by go_num, by rw [← HQ.out, HV.out]; rfl, by omega⟩
            case measure => simp [intOf]; omega
          · have e3 := xor64_odd v hv hp
            have hp' : ((v : Int) % 2 == 1) = true := by simp; omega
            have hv2 := bitS_lt v hv
            clear hp
            go_wp2
            go_round
            case rel => exact ⟨i + 1, bitS v, by omega, by go_num, by go_num, by rw [HV.out]; rfl, hv2⟩
            case measure => simp [intOf]; omega
        · go_wp2
          go_round
          case rel =>
            obtain rfl : i = 8 := by omega
            exact ⟨k + 1, v, by omega, by go_num, rfl, by rw [HV.out, ← HM.out, ← HX.out, ← crcB_bits, HN.out, ← crcL_snoc _ _ _ hlt]; rfl, hv⟩
          case measure => simp [intOf]; omega
    · have e2 := xor64_inv n hn
      have hj := inv_lt n hn
      go_wp2
      go_ret
      obtain rfl : k = l.length := by omega
      have e3 := HN.out
      rw [List.take_length] at e3
      exact ⟨ret_u32 (by rw [← e3]), rfl⟩
theorem rcrc_any (A : Option Addr) (c : Nat) (l : List UInt8) (w : World) (hl : l.length ≤ 1000000) (hr : Rd w A l) :
    Calls Tryd.prog 15 #[.slice A l.length c] w fun e w' => e = .returned (.int .u32 (inv (crcL (inv 0) l) : Nat)) ∧ w = w' := by
  go_enter Tryd.func15, Tryd.ntmps15
  go_wp2_with fail
  refine (rupd_any 0 A c l w (by omega) hl hr).mono ?_
  rintro e w' ⟨rfl, rfl⟩
  go_wp2
  go_ret
  exact ⟨rfl, rfl⟩
theorem num_any (n : Int) (w : World) : Calls Tryd.prog 20 #[.int .i64 n] w fun e w' => e = .returned (.int .i64 n) ∧ w = w' := by
  go_enter Tryd.func20, Tryd.ntmps20
  go_wp2
  go_ret
  exact ⟨rfl, rfl⟩
/-- A number's four bytes, the lowest ahead. -/
def le4 (n : Nat) : List Nat := [n % 256, n / 256 % 256, n / 65536 % 256, n / 16777216]
def row4 (n : Nat) : Array Value := #[.int .u8 (n % 256 : Nat), .int .u8 (n / 256 % 256 : Nat), .int .u8 (n / 65536 % 256 : Nat), .int .u8 (n / 16777216 : Nat)]
theorem bytes_any (n : Nat) (w : World) (h1 : n < 4294967296) :
    Calls Tryd.prog 21 #[.int .u32 n] w fun e w' => e = .returned (.slice (some ⟨w.heap.size, 0, none⟩) 4 4) ∧ w' = w.alloc (.cells (row4 n) 5) := by
  go_enter Tryd.func21, Tryd.ntmps21
  go_wp2
  go_ret
  exact ⟨rfl, rfl⟩
theorem rbytes_any (n : Nat) (w : World) (h1 : n < 4294967296) :
    Calls Tryd.prog 22 #[.int .u32 n] w fun e w' => e = .returned (.slice (some ⟨w.heap.size, 0, none⟩) 4 4) ∧ w' = w.alloc (.cells (row4 n) 5) := by
  go_enter Tryd.func22, Tryd.ntmps22
  go_wp2
  go_ret
  exact ⟨rfl, rfl⟩
theorem ret_tup2 {a b : Int} {v : Value} (h : a = b) : Ending.returned (.tuple #[.int .u32 a, v]) = .returned (.tuple #[.int .u32 b, v]) := by rw [h]
def of4 (l : List UInt8) : Nat := match l with
  | [a, b, c, d] => ((a.toNat ||| b.toNat * 256) ||| c.toNat * 65536) ||| d.toNat * 16777216
  | _ => 0
theorem of4_eq (a b c d : UInt8) : of4 [a, b, c, d] = ((a.toNat ||| b.toNat * 256) ||| c.toNat * 65536) ||| d.toNat * 16777216 := rfl
theorem of_bits (a b c d : Nat) (ha : a < 256) (hb : b < 256) (hc : c < 256) (hd : d < 256) :
    bits .or .u32 (bits .or .u32 (bits .or .u32 (a : Int) ((b : Int) * 256)) ((c : Int) * 65536)) ((d : Int) * 16777216) = ((((a ||| b * 256) ||| c * 65536) ||| d * 16777216 : Nat) : Int) := by
  have h1 : a ||| b * 256 < 4294967296 := Nat.or_lt_two_pow (n := 32) (by omega) (by omega)
  have h2 : (a ||| b * 256) ||| c * 65536 < 4294967296 := Nat.or_lt_two_pow (n := 32) h1 (by omega)
  rw [show ((b : Int) * 256) = ((b * 256 : Nat) : Int) from by omega, u32_or_nat _ _ (by omega) (by omega), show ((c : Int) * 65536) = ((c * 65536 : Nat) : Int) from by omega, u32_or_nat _ _ h1 (by omega),
    show ((d : Int) * 16777216) = ((d * 16777216 : Nat) : Int) from by omega, u32_or_nat _ _ h2 (by omega)]
theorem of_no (A : Option Addr) (n c : Nat) (w : World) (h : n ≠ 4) (hm : n ≤ 9223372036854775807) :
    Calls Tryd.prog 19 #[.slice A n c] w fun e w' => e = .returned (.tuple #[.int .u32 0, .int .i64 2]) ∧ w = w' := by
  have h' : ((n : Int) != 4) = true := by simp; omega
  have H := Lib.hid h
  clear h
  go_enter Tryd.func19, Tryd.ntmps19
  go_wp2
  go_ret2
  exact ⟨rfl, rfl⟩
theorem of_yes (A : Option Addr) (c : Nat) (l : List UInt8) (w : World) (h : l.length = 4) (hr : Rd w A l) :
    Calls Tryd.prog 19 #[.slice A 4 c] w fun e w' => e = .returned (.tuple #[.int .u32 (of4 l), .int .i64 0]) ∧ ∃ m, w' = w.drewN m := by
  obtain ⟨b, off, rfl, hbb, hcell⟩ := hr (by omega)
  match l, h with
  | [b0, b1, b2, b3], _ =>
    have h0 := hcell 0 (by simp)
    have h1 := hcell 1 (by simp)
    have h2 := hcell 2 (by simp)
    have h3 := hcell 3 (by simp)
    clear hcell hr
    simp only [List.getElem_cons_zero, List.getElem_cons_succ, Nat.add_zero] at h0 h1 h2 h3
    have e := of_bits b0.toNat b1.toNat b2.toNat b3.toNat b0.toNat_lt b1.toNat_lt b2.toNat_lt b3.toNat_lt
    have H := Lib.hid e
    clear e
    have g0 := b0.toNat_lt
    have g1 := b1.toNat_lt
    have g2 := b2.toNat_lt
    have g3 := b3.toNat_lt
    rw [of4_eq]
    generalize b0.toNat = x0 at *
    generalize b1.toNat = x1 at *
    generalize b2.toNat = x2 at *
    generalize b3.toNat = x3 at *
    go_enter Tryd.func19, Tryd.ntmps19
    go_wp2
    go_quiet (fail)
    go_wp2
    go_ret2
    exact ⟨ret_tup2 H.out, _, rfl⟩
theorem rof_yes (A : Option Addr) (c : Nat) (l : List UInt8) (w : World) (h : l.length = 4) (hr : Rd w A l) :
    Calls Tryd.prog 23 #[.slice A 4 c] w fun e w' => e = .returned (.int .u32 (of4 l)) ∧ ∃ m, w' = w.drewN m := by
  obtain ⟨b, off, rfl, hbb, hcell⟩ := hr (by omega)
  match l, h with
  | [b0, b1, b2, b3], _ =>
    have h0 := hcell 0 (by simp)
    have h1 := hcell 1 (by simp)
    have h2 := hcell 2 (by simp)
    have h3 := hcell 3 (by simp)
    clear hcell hr
    simp only [List.getElem_cons_zero, List.getElem_cons_succ, Nat.add_zero] at h0 h1 h2 h3
    have e := of_bits b0.toNat b1.toNat b2.toNat b3.toNat b0.toNat_lt b1.toNat_lt b2.toNat_lt b3.toNat_lt
    have H := Lib.hid e
    clear e
    have g0 := b0.toNat_lt
    have g1 := b1.toNat_lt
    have g2 := b2.toNat_lt
    have g3 := b3.toNat_lt
    rw [of4_eq]
    generalize b0.toNat = x0 at *
    generalize b1.toNat = x1 at *
    generalize b2.toNat = x2 at *
    generalize b3.toNat = x3 at *
    go_enter Tryd.func23, Tryd.ntmps23
    go_wp2
    go_quiet (fail)
    go_wp2
    go_ret
    exact ⟨ret_u32 H.out, _, rfl⟩
end Go.Proofs.YtecioakbgggdfaaDoor
