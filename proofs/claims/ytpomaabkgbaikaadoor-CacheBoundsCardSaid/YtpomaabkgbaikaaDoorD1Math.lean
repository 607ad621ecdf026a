/- Sums of bytes with their own sum behind, and padded bytes that are alike. -/
import Derived.Test.YtpomaabkgbaikaaDoorD1Pad
import Derived.Test.YtpomaabkgbaikaaDoorD1Crc
namespace Go.Proofs.YtpomaabkgbaikaaDoor.Dg
open Go Go.RowKit
set_option maxRecDepth 100000 in
theorem crcL_append (n : Nat) (a b : List UInt8) : crcL n (a ++ b) = crcL (crcL n a) b := by simp [crcL]
set_option maxRecDepth 100000 in
theorem xor_back (a n : Nat) : a ^^^ (a ^^^ n) = n := by rw [← Nat.xor_assoc, Nat.xor_self, Nat.zero_xor]
/-- The four bytes of a number, the lowest first. -/
def bytes4 (n : Nat) : List UInt8 := [UInt8.ofNat (n % 256), UInt8.ofNat (n / 256 % 256), UInt8.ofNat (n / 65536 % 256), UInt8.ofNat (n / 16777216)]

set_option maxRecDepth 100000 in
theorem crcB_eq (n : Nat) (b : UInt8) : crcB n b = (n / 256) ^^^ half (half ((n ^^^ b.toNat) % 256)) := by
  have hb := b.toNat_lt
  have h1 : (n ^^^ b.toNat) / 16 = n / 16 ^^^ b.toNat / 16 := by
    have := Nat.shiftRight_xor_distrib (a := n) (b := b.toNat) (i := 4)
    simpa [Nat.shiftRight_eq_div_pow] using this
  have hd : ∀ a b : Nat, (a ^^^ b) / 16 = a / 16 ^^^ b / 16 := fun a b => by
    have := Nat.shiftRight_xor_distrib (a := a) (b := b) (i := 4)
    simpa [Nat.shiftRight_eq_div_pow] using this
  have hm : ∀ a b : Nat, (a ^^^ b) % 16 = a % 16 ^^^ b % 16 := fun a b => by
    have := Nat.xor_mod_two_pow (a := a) (b := b) (n := 4)
    simpa using this
  generalize hx : n ^^^ b.toNat = x
  have hq : n / 256 = x / 256 := by
    have := Nat.shiftRight_xor_distrib (a := n) (b := b.toNat) (i := 8)
    simp [Nat.shiftRight_eq_div_pow] at this
    rw [← hx, this, Nat.div_eq_of_lt hb, Nat.xor_zero]
  rw [hq, crcB, hx]
  unfold half
  rw [hd, hd, hm, hm]
  have e1 : x % 256 % 16 = x % 16 := by omega
  have e2 : x % 256 / 16 % 16 = x / 16 % 16 := by omega
  have e3 : x % 256 / 16 / 16 = 0 := by omega
  have e4 : x / 16 / 16 = x / 256 := by omega
  rw [e1, e2, e3, e4, Nat.zero_xor, Nat.xor_assoc]

set_option maxRecDepth 100000 in
theorem low_xor (a b c : Nat) : (a ^^^ b ^^^ c) % 256 = ((a % 256) ^^^ (c % 256)) ^^^ (b % 256) := by
  have hm : ∀ a b : Nat, (a ^^^ b) % 256 = a % 256 ^^^ b % 256 := fun a b => by
    have := Nat.xor_mod_two_pow (a := a) (b := b) (n := 8)
    simpa using this
  rw [hm, hm, Nat.xor_assoc, Nat.xor_assoc, Nat.xor_comm (b % 256)]
set_option maxRecDepth 100000 in
theorem inv_byte (s k : Nat) (hk : k < 4) : (s / 256 ^ k % 256) ^^^ (inv s / 256 ^ k % 256) = 255 := by
  have h1 : inv s / 256 ^ k = 4294967295 / 256 ^ k ^^^ s / 256 ^ k := by
    have := Nat.shiftRight_xor_distrib (a := 4294967295) (b := s) (i := 8 * k)
    simp only [Nat.shiftRight_eq_div_pow, Nat.pow_mul] at this
    simpa [inv] using this
  have hm : ∀ a b : Nat, (a ^^^ b) % 256 = a % 256 ^^^ b % 256 := fun a b => by
    have := Nat.xor_mod_two_pow (a := a) (b := b) (n := 8)
    simpa using this
  have h2 : 4294967295 / 256 ^ k % 256 = 255 := by
    match k, hk with
    | 0, _ => rfl
    | 1, _ => rfl
    | 2, _ => rfl
    | 3, _ => rfl
  rw [h1, hm, h2, Nat.xor_comm 255, ← Nat.xor_assoc, Nat.xor_self, Nat.zero_xor]
/-- What is left of a state behind k of its own bytes. -/
def rest : Nat → Nat
  | 0 => 0
  | k + 1 => rest k / 256 ^^^ half (half (255 ^^^ rest k % 256))
set_option maxRecDepth 100000 in
theorem rest_step (s k n : Nat) (b : UInt8) (hk : k < 4) (hb : b.toNat = inv s / 256 ^ k % 256) (h : n = s / 256 ^ k ^^^ rest k) : crcB n b = s / 256 ^ (k + 1) ^^^ rest (k + 1) := by
  have hd : ∀ a b : Nat, (a ^^^ b) / 256 = a / 256 ^^^ b / 256 := fun a b => by
    have := Nat.shiftRight_xor_distrib (a := a) (b := b) (i := 8)
    simpa [Nat.shiftRight_eq_div_pow] using this
  rw [crcB_eq, h, low_xor, hb, Nat.mod_mod, inv_byte s k hk, hd, Nat.pow_succ, ← Nat.div_div_eq_div_mul, rest, Nat.xor_assoc]
set_option maxRecDepth 100000 in
theorem residue (s : Nat) (hs : s < 4294967296) : crcL s (bytes4 (inv s)) = 3736805603 := by
  have hi := inv_lt s hs
  have h0 : s = s / 256 ^ 0 ^^^ rest 0 := by simp [rest]
  have h1 := rest_step s 0 s (UInt8.ofNat (inv s % 256)) (by omega) (by simp) h0
  have h2 := rest_step s 1 _ (UInt8.ofNat (inv s / 256 % 256)) (by omega) (by simp) h1
  have h3 := rest_step s 2 _ (UInt8.ofNat (inv s / 65536 % 256)) (by omega) (by simp) h2
  have h4 := rest_step s 3 _ (UInt8.ofNat (inv s / 16777216)) (by omega) (by simp) h3
  have e : crcL s (bytes4 (inv s)) = crcB (crcB (crcB (crcB s (UInt8.ofNat (inv s % 256))) (UInt8.ofNat (inv s / 256 % 256))) (UInt8.ofNat (inv s / 65536 % 256))) (UInt8.ofNat (inv s / 16777216)) := rfl
  rw [e, h4, Nat.div_eq_of_lt (by simpa using hs), Nat.zero_xor]
  decide +kernel
set_option maxRecDepth 100000 in
theorem own_sum (l : List UInt8) (n : Nat) (hn : n < 4294967296) (h : crcL (inv 0) l = n) : inv (crcL (inv 0) (l ++ bytes4 (inv n))) = 558161692 := by
  rw [crcL_append, h, residue n hn]
  decide +kernel

set_option maxRecDepth 100000 in
theorem tl_len (b i : Nat) : (tl b i).length = 8 := by simp [tl]
set_option maxRecDepth 100000 in
theorem padL_len (l : List UInt8) : (padL l).length = padN l.length := by
  have := base_len l
  unfold padL
  rw [List.length_append, tl_len, this]
set_option maxRecDepth 100000 in
theorem beb_toNat (b j : Nat) : (beb b j).toNat = b / 256 ^ (7 - j) % 256 := by simp [beb]
set_option maxRecDepth 100000 in
theorem padL_inj {a b : List UInt8} (ha : a.length ≤ 3000) (hb : b.length ≤ 3000) (h : padL a = padL b) : a = b := by
  have h1 := List.append_inj_right' h (by rw [tl_len, tl_len])
  have h2 := List.append_inj_left' h (by rw [tl_len, tl_len])
  have h7 : beb (a.length * 8) 7 = beb (b.length * 8) 7 := by
    have := congrArg (fun l => l[7]?) h1
    simpa [tl, List.range_succ] using this
  have h6 : beb (a.length * 8) 6 = beb (b.length * 8) 6 := by
    have := congrArg (fun l => l[6]?) h1
    simpa [tl, List.range_succ] using this
  have h7' := congrArg UInt8.toNat h7
  have h6' := congrArg UInt8.toNat h6
  rw [beb_toNat, beb_toNat] at h7' h6'
  simp at h7' h6'
  have hl : a.length = b.length := by omega
  exact List.append_inj_left h2 hl
set_option maxRecDepth 100000 in
theorem padL_iff {a b : List UInt8} (ha : a.length ≤ 3000) (hb : b.length ≤ 3000) : padL a = padL b ↔ a = b := ⟨padL_inj ha hb, fun h => by rw [h]⟩
end Go.Proofs.YtpomaabkgbaikaaDoor.Dg
