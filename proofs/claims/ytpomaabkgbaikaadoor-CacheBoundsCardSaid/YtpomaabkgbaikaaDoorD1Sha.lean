/- SHA-1's small parts: turns, the three mixes, the first state, the rules. -/
import Derived.Test.YtpomaabkgbaikaaDoorD1Kept
import Derived.Laws.ResultCell
namespace Go.Proofs.YtpomaabkgbaikaaDoor.Dg
open Go Go.RowKit
def rot (k n : Nat) : Nat := (n * 2 ^ k % 4294967296) ||| (n / 2 ^ (32 - k))
set_option maxRecDepth 100000 in
theorem rot_lt (k n : Nat) (h : n < 4294967296) : rot k n < 4294967296 :=
  Nat.or_lt_two_pow (n := 32) (Nat.mod_lt _ (by omega)) (Nat.lt_of_le_of_lt (Nat.div_le_self _ _) h)
set_option maxRecDepth 100000 in
theorem rot1_bits (n : Nat) (h : n < 4294967296) : bits .or .u32 ((n : Int) * 2 % 4294967296) ((n : Int) / 2147483648) = (rot 1 n : Int) := by
  rw [show ((n : Int) * 2 % 4294967296) = ((n * 2 % 4294967296 : Nat) : Int) from by omega, show ((n : Int) / 2147483648) = ((n / 2147483648 : Nat) : Int) from by omega, u32_or_nat _ _ (by omega) (by omega)]; rfl
set_option maxRecDepth 100000 in
theorem rot1_any (n : Nat) (w : World) (h1 : n < 4294967296) :
    Calls Tryd.prog 69 #[.int .u32 n, .int .i64 1] w fun e w' => e = .returned (.int .u32 (rot 1 n)) ∧ w = w' := by
  have e1 : bits .and .u64 1 31 = 1 := by decide
  have H := Lib.hid (rot1_bits n h1)
  go_enter Tryd.func69, Tryd.ntmps69
  go_wp2
  go_ret
  exact ⟨ret_u32 H.out, rfl⟩
set_option maxRecDepth 100000 in
theorem rot5_bits (n : Nat) (h : n < 4294967296) : bits .or .u32 ((n : Int) * 32 % 4294967296) ((n : Int) / 134217728) = (rot 5 n : Int) := by
  rw [show ((n : Int) * 32 % 4294967296) = ((n * 32 % 4294967296 : Nat) : Int) from by omega, show ((n : Int) / 134217728) = ((n / 134217728 : Nat) : Int) from by omega, u32_or_nat _ _ (by omega) (by omega)]; rfl
set_option maxRecDepth 100000 in
theorem rot5_any (n : Nat) (w : World) (h1 : n < 4294967296) :
    Calls Tryd.prog 69 #[.int .u32 n, .int .i64 5] w fun e w' => e = .returned (.int .u32 (rot 5 n)) ∧ w = w' := by
  have e1 : bits .and .u64 5 31 = 5 := by decide
  have H := Lib.hid (rot5_bits n h1)
  go_enter Tryd.func69, Tryd.ntmps69
  go_wp2
  go_ret
  exact ⟨ret_u32 H.out, rfl⟩
set_option maxRecDepth 100000 in
theorem rot30_bits (n : Nat) (h : n < 4294967296) : bits .or .u32 ((n : Int) * 1073741824 % 4294967296) ((n : Int) / 4) = (rot 30 n : Int) := by
  rw [show ((n : Int) * 1073741824 % 4294967296) = ((n * 1073741824 % 4294967296 : Nat) : Int) from by omega, show ((n : Int) / 4) = ((n / 4 : Nat) : Int) from by omega, u32_or_nat _ _ (by omega) (by omega)]; rfl
set_option maxRecDepth 100000 in
theorem rot30_any (n : Nat) (w : World) (h1 : n < 4294967296) :
    Calls Tryd.prog 69 #[.int .u32 n, .int .i64 30] w fun e w' => e = .returned (.int .u32 (rot 30 n)) ∧ w = w' := by
  have e1 : bits .and .u64 30 31 = 30 := by decide
  have H := Lib.hid (rot30_bits n h1)
  go_enter Tryd.func69, Tryd.ntmps69
  go_wp2
  go_ret
  exact ⟨ret_u32 H.out, rfl⟩
def mixA (b c d : Nat) : Nat := (b &&& c) ||| (inv b &&& d)
def mixB (b c d : Nat) : Nat := (b ^^^ c) ^^^ d
def mixC (b c d : Nat) : Nat := ((b &&& c) ||| (b &&& d)) ||| (c &&& d)
set_option maxRecDepth 100000 in
theorem and_lt (a b : Nat) (h : a < 4294967296) : a &&& b < 4294967296 := Nat.lt_of_le_of_lt Nat.and_le_left h
set_option maxRecDepth 100000 in
theorem or_lt (a b : Nat) (h : a < 4294967296) (h' : b < 4294967296) : a ||| b < 4294967296 := Nat.or_lt_two_pow (n := 32) h h'
set_option maxRecDepth 100000 in
theorem xor_lt (a b : Nat) (h : a < 4294967296) (h' : b < 4294967296) : a ^^^ b < 4294967296 := Nat.xor_lt_two_pow (n := 32) h h'
set_option maxRecDepth 100000 in
theorem mixA_lt (b c d : Nat) (hb : b < 4294967296) : mixA b c d < 4294967296 := or_lt _ _ (and_lt _ _ hb) (and_lt _ _ (inv_lt b hb))
set_option maxRecDepth 100000 in
theorem mixB_lt (b c d : Nat) (hb : b < 4294967296) (hc : c < 4294967296) (hd : d < 4294967296) : mixB b c d < 4294967296 := xor_lt _ _ (xor_lt _ _ hb hc) hd
set_option maxRecDepth 100000 in
theorem mixC_lt (b c d : Nat) (hb : b < 4294967296) (hc : c < 4294967296) : mixC b c d < 4294967296 := or_lt _ _ (or_lt _ _ (and_lt _ _ hb) (and_lt _ _ hb)) (and_lt _ _ hc)
set_option maxRecDepth 100000 in
theorem mixA_bits (b c d : Nat) (hb : b < 4294967296) (hc : c < 4294967296) (hd : d < 4294967296) :
    bits .or .u32 (bits .and .u32 (b : Int) (c : Int)) (bits .and .u32 (bits .xor .u32 IntKind.u32.max (b : Int)) (d : Int)) = (mixA b c d : Int) := by
  rw [inv_bits b hb, u32_and_nat _ _ hb hc, u32_and_nat _ _ (inv_lt b hb) hd, u32_or_nat _ _ (and_lt _ _ hb) (and_lt _ _ (inv_lt b hb))]; rfl
set_option maxRecDepth 100000 in
theorem mixB_bits (b c d : Nat) (hb : b < 4294967296) (hc : c < 4294967296) (hd : d < 4294967296) : bits .xor .u32 (bits .xor .u32 (b : Int) (c : Int)) (d : Int) = (mixB b c d : Int) := by
  rw [u32_xor_nat _ _ hb hc, u32_xor_nat _ _ (xor_lt _ _ hb hc) hd]; rfl
set_option maxRecDepth 100000 in
theorem mixC_bits (b c d : Nat) (hb : b < 4294967296) (hc : c < 4294967296) (hd : d < 4294967296) :
    bits .or .u32 (bits .or .u32 (bits .and .u32 (b : Int) (c : Int)) (bits .and .u32 (b : Int) (d : Int))) (bits .and .u32 (c : Int) (d : Int)) = (mixC b c d : Int) := by
  rw [u32_and_nat _ _ hb hc, u32_and_nat _ _ hb hd, u32_and_nat _ _ hc hd, u32_or_nat _ _ (and_lt _ _ hb) (and_lt _ _ hb), u32_or_nat _ _ (or_lt _ _ (and_lt _ _ hb) (and_lt _ _ hb)) (and_lt _ _ hc)]; rfl
set_option maxRecDepth 100000 in
theorem mixA_any (b c d : Nat) (w : World) (hb : b < 4294967296) (hc : c < 4294967296) (hd : d < 4294967296) :
    Calls Tryd.prog 83 #[.int .u32 b, .int .u32 c, .int .u32 d] w fun e w' => e = .returned (.int .u32 (mixA b c d)) ∧ w = w' := by
  have H := Lib.hid (mixA_bits b c d hb hc hd)
  go_enter Tryd.func83, Tryd.ntmps83
  go_wp2
  go_ret
  exact ⟨ret_u32 H.out, rfl⟩
set_option maxRecDepth 100000 in
theorem mixB_any (b c d : Nat) (w : World) (hb : b < 4294967296) (hc : c < 4294967296) (hd : d < 4294967296) :
    Calls Tryd.prog 82 #[.int .u32 b, .int .u32 c, .int .u32 d] w fun e w' => e = .returned (.int .u32 (mixB b c d)) ∧ w = w' := by
  have H := Lib.hid (mixB_bits b c d hb hc hd)
  go_enter Tryd.func82, Tryd.ntmps82
  go_wp2
  go_ret
  exact ⟨ret_u32 H.out, rfl⟩
set_option maxRecDepth 100000 in
theorem mixC_any (b c d : Nat) (w : World) (hb : b < 4294967296) (hc : c < 4294967296) (hd : d < 4294967296) :
    Calls Tryd.prog 84 #[.int .u32 b, .int .u32 c, .int .u32 d] w fun e w' => e = .returned (.int .u32 (mixC b c d)) ∧ w = w' := by
  have H := Lib.hid (mixC_bits b c d hb hc hd)
  go_enter Tryd.func84, Tryd.ntmps84
  go_wp2
  go_ret
  exact ⟨ret_u32 H.out, rfl⟩
/-- A state: five numbers. -/
structure St where
  a : Nat
  b : Nat
  c : Nat
  d : Nat
  e : Nat
def St.ok (s : St) : Prop := s.a < 4294967296 ∧ s.b < 4294967296 ∧ s.c < 4294967296 ∧ s.d < 4294967296 ∧ s.e < 4294967296
def u32v (n : Nat) : Value := .int .u32 n
def St.row (s : St) : Array Value := #[.int .u32 s.a, .int .u32 s.b, .int .u32 s.c, .int .u32 s.d, .int .u32 s.e]
def first : St := ⟨1732584193, 4023233417, 2562383102, 271733878, 3285377520⟩
set_option maxRecDepth 100000 in
theorem start_any (w : World) :
    Calls Tryd.prog 56 #[] w fun e w' => e = .returned (.agg first.row) ∧ Below w.heap.size w w' := by
  go_enter Tryd.func56, Tryd.ntmps56
  go_wp2
  exact bodyPost_ret (v := .agg first.row) (by simp [results, Tryd.results56, go_sem, first, St.row]) rfl ⟨rfl, (Below.refl _ _).alloc (Nat.le_refl _) _⟩
set_option maxRecDepth 100000 in
theorem rstart_any (w : World) :
    Calls Tryd.prog 52 #[] w fun e w' => e = .returned (.agg first.row) ∧ Below w.heap.size w w' := by
  go_enter Tryd.func52, Tryd.ntmps52
  go_wp2
  exact bodyPost_ret (v := .agg first.row) (by simp [results, Tryd.results52, go_sem, first, St.row]) rfl ⟨rfl, (Below.refl _ _).alloc (Nat.le_refl _) _⟩
def rulesRow : Array Value := #[.int .i64 20, .int .u32 1518500249, .func (.func 83) #[] #[], .int .i64 40, .int .u32 1859775393, .func (.func 82) #[] #[],
  .int .i64 60, .int .u32 2400959708, .func (.func 84) #[] #[], .int .i64 80, .int .u32 3395469782, .func (.func 82) #[] #[]]
set_option maxRecDepth 100000 in
theorem rules_any (w : World) :
    Calls Tryd.prog 68 #[] w fun e w' => e = .returned (.slice (some ⟨w.heap.size, 0, none⟩) 4 4) ∧ w' = w.alloc (.cells rulesRow 116) := by
  go_enter Tryd.func68, Tryd.ntmps68
  go_wp2
  go_ret
  exact ⟨rfl, rfl⟩
end Go.Proofs.YtpomaabkgbaikaaDoor.Dg
