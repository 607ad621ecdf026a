/- The reference's turns and rounds, and its text of a state. -/
import Derived.Test.YtpomaabkgbaikaaDoorD1Text
import Derived.Test.YtpomaabkgbaikaaDoorD1Pad
import Derived.Test.YtpomaabkgbaikaaDoorD1RefPad
import Derived.Test.YtpomaabkgbaikaaDoorD1Quiet
namespace Go.Proofs.YtpomaabkgbaikaaDoor.Dg
open Go Go.RowKit
set_option maxRecDepth 100000 in
theorem mask_nat (n : Nat) : n &&& 4294967295 = n % 4294967296 := Nat.and_two_pow_sub_one_eq_mod n 32
set_option maxRecDepth 100000 in
theorem turn_nat (n k : Nat) (h : n < 4294967296) : ((n * 2 ^ k) ||| (n / 2 ^ (32 - k))) % 4294967296 = rot k n := by
  have := Nat.or_mod_two_pow (a := n * 2 ^ k) (b := n / 2 ^ (32 - k)) (n := 32)
  rw [show (4294967296 : Nat) = 2 ^ 32 from rfl, this, Nat.mod_eq_of_lt (a := n / 2 ^ (32 - k)) (Nat.lt_of_le_of_lt (Nat.div_le_self _ _) h)]
  rfl
set_option maxRecDepth 100000 in
theorem turn_bits (n a b : Nat) (ha : a < 18446744073709551616) (hb : b < 18446744073709551616) (h : (a ||| b) % 4294967296 = n) :
    bits .and .u64 (bits .or .u64 (a : Int) (b : Int)) 4294967295 = (n : Int) := by
  have hab : a ||| b < 18446744073709551616 := Nat.or_lt_two_pow (n := 64) ha hb
  rw [u64_or_nat _ _ ha hb, show (4294967295 : Int) = ((4294967295 : Nat) : Int) from rfl, u64_and_nat _ _ hab (by omega), mask_nat, h]
set_option maxRecDepth 100000 in
theorem turned1 (n : Nat) (w : World) (h : n < 4294967296) :
    Calls Tryd.prog 64 #[.int .u64 n, .int .i64 1] w fun e w' => e = .returned (.int .u64 (rot 1 n)) ∧ ∃ m, w' = w.drewN m := by
  have H := Lib.hid (turn_bits (rot 1 n) (n * 2) (n / 2147483648) (by omega) (by omega) (turn_nat n 1 h))
  go_enter Tryd.func64, Tryd.ntmps64
  go_wp2_with fail
  go_quiet (fail)
  go_wp2
  go_ret
  exact ⟨congrArg (fun z => Ending.returned (.int .u64 z)) H.out, _, rfl⟩
set_option maxRecDepth 100000 in
theorem turned5 (n : Nat) (w : World) (h : n < 4294967296) :
    Calls Tryd.prog 64 #[.int .u64 n, .int .i64 5] w fun e w' => e = .returned (.int .u64 (rot 5 n)) ∧ ∃ m, w' = w.drewN m := by
  have H := Lib.hid (turn_bits (rot 5 n) (n * 32) (n / 134217728) (by omega) (by omega) (turn_nat n 5 h))
  go_enter Tryd.func64, Tryd.ntmps64
  go_wp2_with fail
  go_quiet (fail)
  go_wp2
  go_ret
  exact ⟨congrArg (fun z => Ending.returned (.int .u64 z)) H.out, _, rfl⟩
set_option maxRecDepth 100000 in
theorem turned30 (n : Nat) (w : World) (h : n < 4294967296) :
    Calls Tryd.prog 64 #[.int .u64 n, .int .i64 30] w fun e w' => e = .returned (.int .u64 (rot 30 n)) ∧ ∃ m, w' = w.drewN m := by
  have H := Lib.hid (turn_bits (rot 30 n) (n * 1073741824) (n / 4) (by omega) (by omega) (turn_nat n 30 h))
  go_enter Tryd.func64, Tryd.ntmps64
  go_wp2_with fail
  go_quiet (fail)
  go_wp2
  go_ret
  exact ⟨congrArg (fun z => Ending.returned (.int .u64 z)) H.out, _, rfl⟩
set_option maxRecDepth 100000 in
theorem ret_two {a b : Int} {v : Value} (h : a = b) : Ending.returned (.tuple #[.int .u64 a, v]) = .returned (.tuple #[.int .u64 b, v]) := by rw [h]
set_option maxRecDepth 100000 in
theorem inv_sub (b : Nat) (h : b < 4294967296) : 4294967295 - b = inv b := by
  have h2 : ∀ M : Nat, M = 4294967295 → M - b = M ^^^ b := by
    intro M hM
    apply Nat.eq_of_testBit_eq
    intro i
    have e := Nat.testBit_two_pow_sub_succ (x := b) (n := 32) h i
    rw [show 2 ^ 32 - (b + 1) = M - b from by omega] at e
    rw [e, Nat.testBit_xor, hM]
    have e2 := Nat.testBit_two_pow_sub_one 32 i
    rw [show (4294967295 : Nat) = 2 ^ 32 - 1 from rfl, e2]
    by_cases hi : i < 32
    · simp [hi]
    · have : b.testBit i = false := Nat.testBit_lt_two_pow (Nat.lt_of_lt_of_le h (Nat.pow_le_pow_right (n := 2) (by omega) (by omega : 32 ≤ i)))
      simp [hi, this]
  exact h2 _ rfl
set_option maxRecDepth 100000 in
theorem mix0_bits (b c d : Nat) (hb : b < 4294967296) (hc : c < 4294967296) (hd : d < 4294967296) :
    bits .or .u64 (bits .and .u64 (b : Int) (c : Int)) (bits .and .u64 (4294967295 - (b : Int)) (d : Int)) = (mixA b c d : Int) := by
  have hi := inv_lt b hb
  rw [show (4294967295 - (b : Int)) = ((inv b : Nat) : Int) from by rw [← inv_sub b hb]; omega, u64_and_nat _ _ (by omega) (by omega), u64_and_nat _ _ (by omega) (by omega), u64_or_nat _ _ (by have := and_lt b c hb; omega) (by have := and_lt _ d hi; omega)]
  rfl
set_option maxRecDepth 100000 in
theorem mix1_bits (b c d : Nat) (hb : b < 4294967296) (hc : c < 4294967296) (hd : d < 4294967296) : bits .xor .u64 (bits .xor .u64 (b : Int) (c : Int)) (d : Int) = (mixB b c d : Int) := by
  rw [u64_xor_nat _ _ (by omega) (by omega), u64_xor_nat _ _ (by have := xor_lt b c hb hc; omega) (by omega)]; rfl
set_option maxRecDepth 100000 in
theorem mix2_bits (b c d : Nat) (hb : b < 4294967296) (hc : c < 4294967296) (hd : d < 4294967296) :
    bits .or .u64 (bits .or .u64 (bits .and .u64 (b : Int) (c : Int)) (bits .and .u64 (b : Int) (d : Int))) (bits .and .u64 (c : Int) (d : Int)) = (mixC b c d : Int) := by
  have h1 := and_lt b c hb
  have h2 := and_lt b d hb
  have h3 := and_lt c d hc
  have h4 := or_lt _ _ h1 h2
  rw [u64_and_nat _ _ (by omega) (by omega), u64_and_nat _ _ (by omega) (by omega), u64_and_nat _ _ (by omega) (by omega), u64_or_nat _ _ (by omega) (by omega), u64_or_nat _ _ (by omega) (by omega)]; rfl
set_option maxRecDepth 100000 in
theorem round_any (t b c d : Nat) (w : World) (ht : t < 80) (hb : b < 4294967296) (hc : c < 4294967296) (hd : d < 4294967296) :
    Calls Tryd.prog 65 #[.int .i64 t, .int .u64 b, .int .u64 c, .int .u64 d] w fun e w' => e = .returned (.tuple #[.int .u64 (mixOf (t / 20) b c d), .int .u64 (addOf (t / 20))]) ∧ w' = w := by
  have h0 := Lib.hid (mix0_bits b c d hb hc hd)
  have h1 := Lib.hid (mix1_bits b c d hb hc hd)
  have h2 := Lib.hid (mix2_bits b c d hb hc hd)
  by_cases c0 : t < 20
  · have e : Hid (t / 20 = 0) := by show t / 20 = 0; omega
    have e1 : decide ((t : Int) < 20) = true := by simp; omega
    go_enter Tryd.func65, Tryd.ntmps65
    go_wp2
    go_ret2
    rw [e.out]
    exact ⟨ret_two h0.out, rfl⟩
  have e1 : decide ((t : Int) < 20) = false := by simp; omega
  by_cases c1 : t < 40
  · have e : Hid (t / 20 = 1) := by show t / 20 = 1; omega
    have e2 : decide ((t : Int) < 40) = true := by simp; omega
    go_enter Tryd.func65, Tryd.ntmps65
    go_wp2
    go_ret2
    rw [e.out]
    exact ⟨ret_two h1.out, rfl⟩
  have e2 : decide ((t : Int) < 40) = false := by simp; omega
  by_cases c2 : t < 60
  · have e : Hid (t / 20 = 2) := by show t / 20 = 2; omega
    have e3 : decide ((t : Int) < 60) = true := by simp; omega
    go_enter Tryd.func65, Tryd.ntmps65
    go_wp2
    go_ret2
    rw [e.out]
    exact ⟨ret_two h2.out, rfl⟩
  have e3 : decide ((t : Int) < 60) = false := by simp; omega
  have e : Hid (t / 20 = 3) := by show t / 20 = 3; omega
  go_enter Tryd.func65, Tryd.ntmps65
  go_wp2
  go_ret2
  rw [e.out]
  exact ⟨ret_two h1.out, rfl⟩

set_option maxRecDepth 100000 in
theorem low_at (n j i : Nat) (h : i < j) : (low n j)[i]? = some (hx (n / 16 ^ (j - 1 - i) % 16)) := by
  induction j generalizing i with
  | zero => omega
  | succ j ih =>
    cases i with
    | zero => simp [low]
    | succ i => rw [low, List.getElem?_cons_succ, ih i (by omega), show j + 1 - 1 - (i + 1) = j - 1 - i from by omega]
set_option maxRecDepth 100000 in
theorem hexS_at (s : St) (m q r : Nat) (hq : q < m) (hr : r < 8) : (hexS s m)[8 * q + r]? = some (hx (comp q s / 16 ^ (7 - r) % 16)) := by
  induction m with
  | zero => omega
  | succ m ih =>
    by_cases h : q < m
    · rw [hexS, List.getElem?_append_left (by rw [hexS_len]; omega), ih h]
    · obtain rfl : q = m := by omega
      rw [hexS, List.getElem?_append_right (by rw [hexS_len]; omega), hexS_len, show 8 * q + r - 8 * q = r from by omega, low_at _ _ _ hr]
/-- The first k digits, and noughts. -/
def firstL (s : St) (k : Nat) : List UInt8 := (hexS s 5).take k ++ List.replicate (40 - k) 0
set_option maxRecDepth 100000 in
theorem firstL_len (s : St) (k : Nat) (h : k ≤ 40) : (firstL s k).length = 40 := by simp [firstL, hexS_len]; omega
set_option maxRecDepth 100000 in
theorem firstL_step (s : St) (k : Nat) (d : UInt8) (h : k < 40) (hd : (hexS s 5)[k]? = some d) : (firstL s k).set k d = firstL s (k + 1) := by
  have hl : ((hexS s 5).take k).length = k := by simp [hexS_len]; omega
  unfold firstL
  rw [List.set_append_right _ _ (by omega), hl, Nat.sub_self, show 40 - k = (40 - (k + 1)) + 1 from by omega, List.replicate_succ, List.set_cons_zero, List.take_add_one, hd]
  simp
set_option maxRecDepth 100000 in
theorem firstL_all (s : St) : firstL s 40 = hexS s 5 := by
  unfold firstL
  rw [List.take_of_length_le (by rw [hexS_len]; omega)]; simp
def digs16 : ByteArray := { data := #[48, 49, 50, 51, 52, 53, 54, 55, 56, 57, 97, 98, 99, 100, 101, 102] }
set_option maxRecDepth 100000 in
theorem digit16_0 : ∀ k, k < 16 → digs16.data.toList.getD k 0 = hx k := by decide
set_option maxRecDepth 100000 in
theorem digit16_of (B : ByteArray) (e : B = digs16) (k : Nat) (hk : k < 16) (h : k < B.size) : B[k]'h = hx k := by
  subst e
  rw [← digit16_0 k hk]
  have h' : k < digs16.data.size := h
  show digs16.data[k]'h' = _
  rw [List.getD_eq_getElem?_getD, Array.getElem?_toList, Array.getElem?_eq_getElem h']; rfl
set_option maxRecDepth 100000 in
theorem digit16 (k : Nat) (hk : k < 16) (h : k < ({ data := #[48, 49, 50, 51, 52, 53, 54, 55, 56, 57, 97, 98, 99, 100, 101, 102] } : ByteArray).size) :
    ({ data := #[48, 49, 50, 51, 52, 53, 54, 55, 56, 57, 97, 98, 99, 100, 101, 102] } : ByteArray)[k]'h = hx k :=
  digit16_of _ rfl k hk h
set_option maxRecDepth 100000 in
theorem comp_cell {W : World} {g : Nat} {s : St} {fr : Nat × Nat} (h : W.heap[g]? = some (.cells s.row 90 fr)) (q : Nat) (hq : q < 5) : W.cell? ⟨g, q, none⟩ = some (.int .u32 (comp q s)) := by
  rw [cell_of_row W g q _ 90 fr h]
  match q, hq with
  | 0, _ => rfl
  | 1, _ => rfl
  | 2, _ => rfl
  | 3, _ => rfl
  | 4, _ => rfl
set_option maxRecDepth 100000 in
theorem and15 (v s : Nat) (hv : v < 4294967296) : bits .and .u32 ((v : Int) / 2 ^ s) 15 = ((v / 2 ^ s % 16 : Nat) : Int) := by
  have h1 : (v : Int) / 2 ^ s = ((v / 2 ^ s : Nat) : Int) := by simp
  have h2 : v / 2 ^ s < 4294967296 := Nat.lt_of_le_of_lt (Nat.div_le_self _ _) hv
  rw [h1, show (15 : Int) = ((15 : Nat) : Int) from rfl, u32_and_nat _ _ h2 (by omega), show v / 2 ^ s &&& 15 = v / 2 ^ s % 16 from Nat.and_two_pow_sub_one_eq_mod _ 4]
set_option maxHeartbeats 1000000 in
set_option maxRecDepth 100000 in
theorem rtext_any (s : St) (w : World) (hs : s.ok) :
    Calls Tryd.prog 55 #[.agg #[.int .u32 s.a, .int .u32 s.b, .int .u32 s.c, .int .u32 s.d, .int .u32 s.e]] w fun e w' => e = .returned (.string ⟨(hexS s 5).toArray⟩) ∧ Below w.heap.size w w' := by
  obtain ⟨i0, hi, hz0, hz1, hz2⟩ := info_parts u8_info
  have HS := Lib.hid hs
  clear hs
  have hbox : (w.alloc (.cells s.row 90)).heap[w.heap.size]? = some (.cells s.row 90 (0, 0)) := heap_alloc_new w _
  have hb0 : Below w.heap.size w (w.alloc (.cells s.row 90)) := (Below.refl w.heap.size w).alloc (Nat.le_refl _) (.cells s.row 90)
  have hlt0 : w.heap.size < (w.alloc (.cells s.row 90)).heap.size := by simp
  have HW : Hid (w.alloc (.cells #[.int .u32 s.a, .int .u32 s.b, .int .u32 s.c, .int .u32 s.d, .int .u32 s.e] 90) = w.alloc (.cells s.row 90)) := rfl
  go_enter Tryd.func55, Tryd.ntmps55
  go_wp2_with (first
    | (at_make
       rw [HW.out]
       generalize w.alloc (.cells s.row 90) = w0 at *
       refine wpList_make_full _ rfl (.const (.int .i64 40)) (.const (.int .i64 40)) 52 rfl w0.heap.size 5 i0 _ 1 Tryd.underlying52 hi hz0 hz1 .i64 .i64 _ _ 40 rfl rfl (by omega) (by omega) (by rw [hz2]; omega) (by unfold maxLen; omega) (Nat.le_refl _) ?_
       intro w1 hown1 hg1
       have hrow1 := own_full hown1
       rw [made_zero] at hrow1
       have hb1 : Below w0.heap.size w0 w1 := (Below.refl w0.heap.size w0).grown hg1 (Nat.le_refl _) (by simp)
       have HR1 := Lib.hid hrow1
       clear hrow1 hown1))
  have HB := Lib.hid hbox
  clear hbox
  go_loopw [5] (fun i wr => ∃ k : Nat, k ≤ 40 ∧ i = .int .i64 k ∧ Hid (RowB wr w0.heap.size (firstL s k)) ∧ Below w0.heap.size w0 wr) (fun i _ => 40 - (intOf i).toNat)
  case atStart => exact ⟨0, by omega, rfl, HR1, hb1⟩
  case round =>
    obtain ⟨k, hk, rfl, HRW, hbel⟩ := hrel
    by_cases hlt : k < 40
    · obtain ⟨q, r, hq, hr, hqr⟩ : ∃ q r : Nat, q < 5 ∧ r < 8 ∧ k = 8 * q + r := ⟨k / 8, k % 8, by omega, by omega, by omega⟩
      have hc : wr.cell? ⟨w.heap.size, q, none⟩ = some (.int .u32 (comp q s)) := comp_cell ((hbel.block _ hlt0).trans HB.out) q hq
      have hv := comp_lt q s HS.out
      have hd8 : (k : Int) / 8 = (q : Int) := by omega
      have hm8 : (k : Int) % 8 = (r : Int) := by omega
      have hdn : k / 8 = q := by omega
      obtain ⟨sh, hsh⟩ : ∃ sh : Nat, sh = 28 - 4 * r := ⟨_, rfl⟩
      have hsi : (28 : Int) - 4 * (r : Int) = (sh : Int) := by omega
      have hsh32 : sh ≤ 28 := by omega
      have h15 := and15 (comp q s) sh hv
      have hx16 : comp q s / 2 ^ sh % 16 < 16 := Nat.mod_lt _ (by omega)
      have HD : Hid ((hexS s 5)[k]? = some (hx (comp q s / 2 ^ sh % 16))) := by
        show _ = _
        rw [hqr, hexS_at s 5 q r hq hr, show (16 : Nat) = 2 ^ 4 from rfl, ← Nat.pow_mul, show 4 * (7 - r) = sh from by omega]
      generalize comp q s / 2 ^ sh % 16 = x at *
      have hdig := digit16 x hx16
      have HQ := Lib.hid hqr
      have HSH := Lib.hid hsh
      clear hqr hsh
      obtain ⟨v0, hold⟩ : ∃ v, wr.cell? ⟨w0.heap.size, k, none⟩ = some v := ⟨_, HRW.out.cell k (by rw [firstL_len s k hk]; exact hlt)⟩
      have hf : wr.frozen? ⟨w0.heap.size, k, none⟩ = false := frozen_of_row wr _ _ _ 5 HRW.out
      go_wp2
      go_roundw
      case rel =>
        refine ⟨k + 1, by omega, by go_num, ?_, hbel.setCell (Nat.le_refl _) _⟩
        have h := HRW.out.set k (hx x)
        rw [firstL_step s k _ hlt HD.out] at h
        exact h
      case measure => simp [intOf]; omega
    · obtain rfl : k = 40 := by omega
      have hrow : RowB wr w0.heap.size (hexS s 5) := by rw [← firstL_all]; exact HRW.out
      have hconv := conv_some wr w0.heap.size 0 40 (hexS s 5) (fun j hj => by rw [Nat.zero_add]; exact hrow.cell j hj)
      rw [hexS_len] at hconv
      have hfin : Below w.heap.size w wr := hb0.trans (hbel.mono hb0.size)
      clear hrow
      go_wp2
      go_ret
      exact ⟨rfl, hfin⟩
end Go.Proofs.YtpomaabkgbaikaaDoor.Dg
