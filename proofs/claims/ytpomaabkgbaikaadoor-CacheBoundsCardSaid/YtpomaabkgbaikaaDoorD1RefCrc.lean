/- The reference's sum, bit by bit, is the same plain function. -/
import Derived.Test.YtpomaabkgbaikaaDoorD1Crc
namespace Go.Proofs.YtpomaabkgbaikaaDoor.Dg
open Go Go.RowKit
def bitS (n : Nat) : Nat := if n % 2 = 1 then (n / 2) ^^^ 3988292384 else n / 2
def bitN : Nat → Nat → Nat
  | 0, n => n
  | k + 1, n => bitS (bitN k n)
set_option maxRecDepth 100000 in
theorem bitS_lt (n : Nat) (h : n < 4294967296) : bitS n < 4294967296 := by
  unfold bitS
  split
  · exact Nat.xor_lt_two_pow (n := 32) (by omega) (by omega)
  · omega
set_option maxRecDepth 100000 in
theorem bitN_lt (k n : Nat) (h : n < 4294967296) : bitN k n < 4294967296 := by
  induction k with
  | zero => exact h
  | succ k ih => exact bitS_lt _ ih
set_option maxRecDepth 100000 in
theorem half_two (a b : Nat) : (a ^^^ b) / 2 = a / 2 ^^^ b / 2 := by
  have := Nat.shiftRight_xor_distrib (a := a) (b := b) (i := 1)
  simpa [Nat.shiftRight_eq_div_pow] using this
set_option maxRecDepth 100000 in
theorem mod_two (a b : Nat) : (a ^^^ b) % 2 = (a % 2 + b % 2) % 2 := by
  have := Nat.xor_mod_two_pow (a := a) (b := b) (n := 1)
  rw [Nat.pow_one] at this
  rw [this]
  have h1 := Nat.mod_two_eq_zero_or_one a
  have h2 := Nat.mod_two_eq_zero_or_one b
  rcases h1 with h1 | h1 <;> rcases h2 with h2 | h2 <;> rw [h1, h2] <;> rfl
set_option maxRecDepth 100000 in
theorem bitS_xor (a b : Nat) : bitS (a ^^^ b) = bitS a ^^^ bitS b := by
  unfold bitS
  rw [half_two, mod_two]
  rcases Nat.mod_two_eq_zero_or_one a with h1 | h1 <;> rcases Nat.mod_two_eq_zero_or_one b with h2 | h2 <;> rw [h1, h2] <;> simp
  · rw [Nat.xor_assoc]
  · rw [Nat.xor_assoc, Nat.xor_assoc]; congr 1; rw [Nat.xor_comm]
  · rw [Nat.xor_assoc, Nat.xor_comm 3988292384, Nat.xor_assoc, Nat.xor_self, Nat.xor_zero]
set_option maxRecDepth 100000 in
theorem bitN_xor (k a b : Nat) : bitN k (a ^^^ b) = bitN k a ^^^ bitN k b := by
  induction k with
  | zero => rfl
  | succ k ih => rw [bitN, ih, bitS_xor]; rfl
set_option maxRecDepth 100000 in
theorem bitS_even (m : Nat) : bitS (2 * m) = m := by unfold bitS; rw [if_neg (by omega)]; omega
set_option maxRecDepth 100000 in
theorem bitN_16 (m : Nat) : bitN 4 (16 * m) = m := by
  rw [show 16 * m = 2 * (2 * (2 * (2 * m))) from by omega]
  simp only [bitN, bitS_even]
set_option maxRecDepth 100000 in
theorem bitN_tab : ∀ k, k < 16 → bitN 4 k = htab k := by decide
set_option maxRecDepth 100000 in
theorem split16 (n : Nat) : n = (16 * (n / 16)) ^^^ (n % 16) := by
  apply Nat.eq_of_testBit_eq
  intro i
  rw [Nat.testBit_xor, show 16 * (n / 16) = 2 ^ 4 * (n / 2 ^ 4) from rfl, show n % 16 = n % 2 ^ 4 from rfl, Nat.testBit_two_pow_mul, Nat.testBit_mod_two_pow, Nat.testBit_div_two_pow]
  by_cases h : i < 4
  · simp [h, show ¬ 4 ≤ i from by omega]
  · have h' : 4 ≤ i := by omega
    simp [h, h', Nat.add_sub_cancel' h']
set_option maxRecDepth 100000 in
theorem half_bitN (n : Nat) : half n = bitN 4 n := by
  have e := split16 n
  have e2 : bitN 4 n = bitN 4 ((16 * (n / 16)) ^^^ (n % 16)) := by rw [← e]
  rw [e2, bitN_xor, bitN_16, bitN_tab _ (Nat.mod_lt _ (by omega))]; rfl
set_option maxRecDepth 100000 in
theorem bitN_add (j k n : Nat) : bitN j (bitN k n) = bitN (j + k) n := by
  induction j with
  | zero => rw [Nat.zero_add]; rfl
  | succ j ih => rw [bitN, ih, show j + 1 + k = (j + k) + 1 from by omega]; rfl
set_option maxRecDepth 100000 in
theorem crcB_bits (n : Nat) (b : UInt8) : crcB n b = bitN 8 (n ^^^ b.toNat) := by
  rw [crcB, half_bitN, half_bitN, bitN_add]
set_option maxRecDepth 100000 in
theorem crcB_lt (n : Nat) (b : UInt8) (h : n < 4294967296) : crcB n b < 4294967296 := by
  rw [crcB]; exact half_lt _ (half_lt _ (Nat.xor_lt_two_pow (n := 32) h (by have := b.toNat_lt; omega)))
set_option maxRecDepth 100000 in
theorem crcL_lt (l : List UInt8) : ∀ n, n < 4294967296 → crcL n l < 4294967296 := by
  induction l with
  | nil => intro n h; exact h
  | cons b l ih => intro n h; exact ih _ (crcB_lt n b h)

set_option maxRecDepth 100000 in
theorem crcL_snoc (m : Nat) (l : List UInt8) (k : Nat) (hk : k < l.length) : crcL m (l.take (k + 1)) = crcB (crcL m (l.take k)) l[k] := by
  rw [List.take_succ_eq_append_getElem hk, crcL, List.foldl_append]; rfl
set_option maxRecDepth 100000 in
theorem xor_even (n : Nat) (h : n < 4294967296) (hn : n % 2 = 0) : bitS n = n / 2 := by unfold bitS; rw [if_neg (by omega)]
set_option maxRecDepth 100000 in
theorem xor64 (n m : Nat) (h : n < 4294967296) (h' : m < 4294967296) : bits .xor .u64 (n : Int) (m : Int) = ((n ^^^ m : Nat) : Int) := u64_xor_nat n m (by omega) (by omega)
set_option maxRecDepth 100000 in
theorem xor64_odd (n : Nat) (h : n < 4294967296) (hn : n % 2 = 1) : bits .xor .u64 ((n : Int) / 2) 3988292384 = (bitS n : Int) := by
  rw [show ((n : Int) / 2) = ((n / 2 : Nat) : Int) from by omega, show (3988292384 : Int) = ((3988292384 : Nat) : Int) from rfl, xor64 _ _ (by omega) (by omega)]
  unfold bitS; rw [if_pos hn]
set_option maxRecDepth 100000 in
theorem xor64_inv (n : Nat) (h : n < 4294967296) : bits .xor .u64 (n : Int) 4294967295 = (inv n : Int) := by
  rw [show (4294967295 : Int) = ((4294967295 : Nat) : Int) from rfl, xor64 _ _ h (by omega)]; unfold inv; rw [Nat.xor_comm]

/-- A number's four bytes, the lowest ahead. -/
def le4 (n : Nat) : List Nat := [n % 256, n / 256 % 256, n / 65536 % 256, n / 16777216]
def row4 (n : Nat) : Array Value := #[.int .u8 (n % 256 : Nat), .int .u8 (n / 256 % 256 : Nat), .int .u8 (n / 65536 % 256 : Nat), .int .u8 (n / 16777216 : Nat)]
set_option maxRecDepth 100000 in
theorem ret_tup2 {a b : Int} {v : Value} (h : a = b) : Ending.returned (.tuple #[.int .u32 a, v]) = .returned (.tuple #[.int .u32 b, v]) := by rw [h]
def of4 (l : List UInt8) : Nat := match l with
  | [a, b, c, d] => ((a.toNat ||| b.toNat * 256) ||| c.toNat * 65536) ||| d.toNat * 16777216
  | _ => 0
set_option maxRecDepth 100000 in
theorem of4_eq (a b c d : UInt8) : of4 [a, b, c, d] = ((a.toNat ||| b.toNat * 256) ||| c.toNat * 65536) ||| d.toNat * 16777216 := rfl
set_option maxRecDepth 100000 in
theorem of_bits (a b c d : Nat) (ha : a < 256) (hb : b < 256) (hc : c < 256) (hd : d < 256) :
    bits .or .u32 (bits .or .u32 (bits .or .u32 (a : Int) ((b : Int) * 256)) ((c : Int) * 65536)) ((d : Int) * 16777216) = ((((a ||| b * 256) ||| c * 65536) ||| d * 16777216 : Nat) : Int) := by
  have h1 : a ||| b * 256 < 4294967296 := Nat.or_lt_two_pow (n := 32) (by omega) (by omega)
  have h2 : (a ||| b * 256) ||| c * 65536 < 4294967296 := Nat.or_lt_two_pow (n := 32) h1 (by omega)
  rw [show ((b : Int) * 256) = ((b * 256 : Nat) : Int) from by omega, u32_or_nat _ _ (by omega) (by omega), show ((c : Int) * 65536) = ((c * 65536 : Nat) : Int) from by omega, u32_or_nat _ _ h1 (by omega),
    show ((d : Int) * 16777216) = ((d * 16777216 : Nat) : Int) from by omega, u32_or_nat _ _ h2 (by omega)]
end Go.Proofs.YtpomaabkgbaikaaDoor.Dg
