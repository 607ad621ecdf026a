/- Sums and numbers' bytes, as the program and its reference work them out. -/
import Derived.Test.YthbhbjfmlmgeeaaDoorFMath
import Derived.Test.YthbhbjfmlmgeeaaDoorChecked
import Derived.WalkKit
import Derived.WalkSpells
import Derived.WalkLawsBesides
import Derived.Outline
import Derived.Lib.Hide
import Derived.BigQuiet
import Derived.Deep.QuietTactic
import Derived.RegionTactic
import Derived.ChangeAlike
import Derived.Laws.BitsAllLaws
namespace Go.Proofs.YthbhbjfmlmgeeaaDoor
open Go Go.RowKit
theorem ret_bool {a b : Bool} (h : a = b) : Ending.returned (.bool a) = .returned (.bool b) := by rw [h]
theorem ret_u32 {a b : Int} (h : a = b) : Ending.returned (.int .u32 a) = .returned (.int .u32 b) := by rw [h]
def Tabs (w : World) : Prop := ∀ k, k < 16 → w.cell? ⟨0, k, none⟩ = some (.int .u32 (htab k))
theorem half_bits (n : Nat) (h : n < 4294967296) : bits .xor .u32 ((n : Int) / 16) (htab (n % 16) : Int) = (half n : Int) := by
  rw [show ((n : Int) / 16) = ((n / 16 : Nat) : Int) from by omega, u32_xor_nat _ _ (by omega) (htab_lt _ (Nat.mod_lt _ (by omega)))]; rfl
theorem half_any (p : Addr) (n : Nat) (w : World) (h1 : n < 4294967296) (hc : w.cell? p = some (.int .u32 n)) (hz : w.frozen? p = false) (hg : Tabs w) :
    Calls Tryd.prog 46 #[.pointer (some p)] w fun e w' => e = .returned (.tuple #[]) ∧ ∃ m, w' = (w.setCell p (.int .u32 (half n))).drewN m := by
  have e1 : bits .and .u32 (n : Int) 15 = ((n % 16 : Nat) : Int) := by
    have := u32_and_nat n 15 h1 (by omega)
    rw [show ((15 : Nat) : Int) = 15 from rfl] at this
    rw [this]; congr 1; exact Nat.and_two_pow_sub_one_eq_mod n 4
  have hb1 : n % 16 < 16 := Nat.mod_lt _ (by omega)
  have hg' := hg (n % 16) hb1
  have H2 := Lib.hid (half_bits n h1)
  clear hg
  generalize n % 16 = k at *
  go_enter Tryd.func46, Tryd.ntmps46
  go_wp2
  go_region
  go_end0
  exact ⟨rfl, 1, by rw [H2.out]; rfl⟩
def Rd (w : World) (A : Option Addr) (l : List UInt8) : Prop := 0 < l.length → ∃ b off, A = some ⟨b, off, none⟩ ∧ b < w.heap.size ∧ ∀ j (h : j < l.length), w.cell? ⟨b, off + j, none⟩ = some (.int .u8 l[j].toNat)
theorem inv_bits (n : Nat) (h : n < 4294967296) : bits .xor .u32 IntKind.u32.max (n : Int) = (inv n : Int) := by
  rw [show IntKind.u32.max = ((4294967295 : Nat) : Int) from rfl, u32_xor_nat _ _ (by omega) h]; rfl
theorem xor_bits (n m : Nat) (h : n < 4294967296) (h' : m < 256) : bits .xor .u32 (n : Int) (m : Int) = ((n ^^^ m : Nat) : Int) := u32_xor_nat n m h (by omega)
theorem Below.drewN' {B : Nat} {a w : World} (h : Below B a w) (n : Nat) : Below B a (w.drewN n) := ⟨h.os, h.tape, h.output, h.size, h.block⟩
theorem Tabs.below {w w' : World} (h : Tabs w) (hb : 0 < w.heap.size) (h2 : Below w.heap.size w w') : Tabs w' :=
  fun k hk => (h2.cell (p := ⟨0, k, none⟩) hb).trans (h k hk)
theorem crc_snoc (m n : Nat) (l : List UInt8) (k : Nat) (hk : k < l.length) (h : n = crcL m (l.take k)) : half (half (n ^^^ l[k].toNat)) = crcL m (l.take (k + 1)) := by
  rw [List.take_succ_eq_append_getElem hk, crcL, List.foldl_append, h]; rfl
theorem cell_set3 (w : World) (p : Addr) (x y z : Value) (m m' : Nat) {u : Value} (h : w.cell? p = some u) : (((((w.setCell p x).setCell p y).drewN m).setCell p z).drewN m').cell? p = some z := by
  have h1 := World.cell?_setCell_same _ _ x h
  have h2 := World.cell?_setCell_same _ _ y h1
  exact World.cell?_setCell_same (((w.setCell p x).setCell p y).drewN m) _ z h2
set_option maxHeartbeats 400000 in
theorem upd_any (s : Nat) (A : Option Addr) (c : Nat) (l : List UInt8) (w : World) (hs : s < 4294967296) (hl : l.length ≤ 2000000000) (hr : Rd w A l) (hg : Tabs w) (hb : 0 < w.heap.size) :
    Calls Tryd.prog 42 #[.int .u32 s, .slice A l.length c] w fun e w' => e = .returned (.int .u32 (inv (crcL (inv s) l) : Nat)) ∧ Below w.heap.size w w' := by
  have e1 := inv_bits s hs
  have hi := inv_lt s hs
  go_enter Tryd.func42, Tryd.ntmps42
  go_wp2
  clear e1
  go_loopw [14] (fun i wr => ∃ k n : Nat, k ≤ l.length ∧ i = .int .i64 k ∧ Hid (n = crcL (inv s) (l.take k)) ∧ n < 4294967296 ∧ wr.cell? ⟨w.heap.size, 0, none⟩ = some (.int .u32 n) ∧ wr.frozen? ⟨w.heap.size, 0, none⟩ = false ∧ Below w.heap.size w wr) (fun i _ => l.length - (intOf i).toNat)
  case atStart => exact ⟨0, inv s, Nat.zero_le _, rfl, by simp [Hid, crcL], hi, by go_simp, by go_simp, (Below.refl _ _).alloc (Nat.le_refl _) _⟩
  case round =>
    obtain ⟨k, n, hk, rfl, HN, hn, hc, hz, hbel⟩ := hrel
    by_cases hlt : k < l.length
    · obtain ⟨b, off, rfl, hbb, hcell⟩ := hr (by omega)
      have hx := hcell k hlt
      have hx' := (hbel.cell (p := ⟨b, off + k, none⟩) hbb).trans hx
      have hx256 : l[k].toNat < 256 := l[k].toNat_lt
      generalize hX : l[k].toNat = x at *
      have HX := Lib.hid hX
      clear hX hx hcell
      have e2 := xor_bits n x hn hx256
      have hb1 := hbel.setCell (p := ⟨w.heap.size, 0, none⟩) (by simp) (.int .u32 (n ^^^ x : Nat))
      have hn1 : n ^^^ x < 4294967296 := Nat.xor_lt_two_pow (n := 32) hn (by omega)
      go_wp2_with fail
      refine (half_any ⟨w.heap.size, 0, none⟩ (n ^^^ x) _ hn1 (by go_simp) (by go_simp) (hg.below hb hb1)).mono ?_
      rintro e w1 ⟨rfl, m, rfl⟩
      have hn2 := half_lt _ hn1
      have hb2 := Below.drewN' (hb1.setCell (p := ⟨w.heap.size, 0, none⟩) (by simp) (.int .u32 (half (n ^^^ x)))) m
      go_wp2_with fail
      refine (half_any ⟨w.heap.size, 0, none⟩ (half (n ^^^ x)) _ hn2 (by go_simp) (by go_simp) (hg.below hb hb2)).mono ?_
      rintro e w1 ⟨rfl, m', rfl⟩
      have hn3 := half_lt _ hn2
      have hb3 := Below.drewN' (hb2.setCell (p := ⟨w.heap.size, 0, none⟩) (by simp) (.int .u32 (half (half (n ^^^ x))))) m'
      go_wp2
      go_roundw
      case rel => exact ⟨k + 1, half (half (n ^^^ x)), by omega, by go_num, (by rw [← HX.out]; exact crc_snoc _ _ _ _ hlt HN.out), hn3, cell_set3 _ _ _ _ _ m m' hc, by go_simp, hb3⟩
      case measure => simp [intOf]; omega
    · have e2 := inv_bits n hn
      go_wp2
      go_ret
      obtain rfl : k = l.length := by omega
      have e3 := HN.out
      rw [List.take_length] at e3
      exact ⟨ret_u32 (by rw [← e3]), hbel⟩
theorem crc_any (A : Option Addr) (c : Nat) (l : List UInt8) (w : World) (hl : l.length ≤ 2000000000) (hr : Rd w A l) (hg : Tabs w) (hb : 0 < w.heap.size) :
    Calls Tryd.prog 43 #[.slice A l.length c] w fun e w' => e = .returned (.int .u32 (inv (crcL (inv 0) l) : Nat)) ∧ Below w.heap.size w w' := by
  go_enter Tryd.func43, Tryd.ntmps43
  go_wp2_with fail
  refine (upd_any 0 A c l w (by omega) hl hr hg hb).mono ?_
  rintro e w' ⟨rfl, h⟩
  go_wp2
  go_ret
  exact ⟨rfl, h⟩
theorem crcL_snoc (m : Nat) (l : List UInt8) (k : Nat) (hk : k < l.length) : crcL m (l.take (k + 1)) = crcB (crcL m (l.take k)) l[k] := by
  rw [List.take_succ_eq_append_getElem hk, crcL, List.foldl_append]; rfl
theorem xor_even (n : Nat) (h : n < 4294967296) (hn : n % 2 = 0) : bitS n = n / 2 := by unfold bitS; rw [if_neg (by omega)]
theorem xor64 (n m : Nat) (h : n < 4294967296) (h' : m < 4294967296) : bits .xor .u64 (n : Int) (m : Int) = ((n ^^^ m : Nat) : Int) := u64_xor_nat n m (by omega) (by omega)
theorem xor64_odd (n : Nat) (h : n < 4294967296) (hn : n % 2 = 1) : bits .xor .u64 ((n : Int) / 2) 3988292384 = (bitS n : Int) := by
  rw [show ((n : Int) / 2) = ((n / 2 : Nat) : Int) from by omega, show (3988292384 : Int) = ((3988292384 : Nat) : Int) from rfl, xor64 _ _ (by omega) (by omega)]
  unfold bitS; rw [if_pos hn]
theorem xor64_inv (n : Nat) (h : n < 4294967296) : bits .xor .u64 (n : Int) 4294967295 = (inv n : Int) := by
  rw [show (4294967295 : Int) = ((4294967295 : Nat) : Int) from rfl, xor64 _ _ h (by omega)]; unfold inv; rw [Nat.xor_comm]
set_option maxHeartbeats 400000 in
theorem rupd_any (s : Nat) (A : Option Addr) (c : Nat) (l : List UInt8) (w : World) (hs : s < 4294967296) (hl : l.length ≤ 2000000000) (hr : Rd w A l) :
    Calls Tryd.prog 44 #[.int .u32 s, .slice A l.length c] w fun e w' => e = .returned (.int .u32 (inv (crcL (inv s) l) : Nat)) ∧ w = w' := by
  have e1 := xor64_inv s hs
  have hi := inv_lt s hs
  go_enter Tryd.func44, Tryd.ntmps44
  go_wp2
  clear e1
  go_loop [5, 6] (fun x i => ∃ k n : Nat, k ≤ l.length ∧ i = .int .i64 k ∧ x = .int .u64 n ∧ Hid (n = crcL (inv s) (l.take k)) ∧ n < 4294967296) (fun _ i => l.length - (intOf i).toNat)
  case atStart => exact ⟨0, inv s, Nat.zero_le _, rfl, rfl, by simp [Hid, crcL], hi⟩
  case round =>
    obtain ⟨k, n, hk, rfl, rfl, HN, hn⟩ := hrel
    by_cases hlt : k < l.length
    · obtain ⟨b, off, rfl, hbb, hcell⟩ := hr (by omega)
      have hx' := hcell k hlt
      have hx256 : l[k].toNat < 256 := l[k].toNat_lt
      generalize hX : l[k].toNat = x at *
      have HX := Lib.hid hX
      clear hX hcell
      have e2 := xor64 n x hn (by omega)
      have hn1 : n ^^^ x < 4294967296 := Nat.xor_lt_two_pow (n := 32) hn (by omega)
      go_wp2
      generalize hM : n ^^^ x = m at *
      have HM := Lib.hid hM
      clear hM
      go_loop [5, 7] (fun y j => ∃ i v : Nat, i ≤ 8 ∧ j = .int .i64 i ∧ y = .int .u64 v ∧ Hid (v = bitN i m) ∧ v < 4294967296) (fun _ j => 8 - (intOf j).toNat)
      case atStart => exact ⟨0, m, Nat.zero_le _, rfl, rfl, by simp [Hid, bitN], hn1⟩
      case round =>
        obtain ⟨i, v, hi8, rfl, rfl, HV, hv⟩ := hrel
        by_cases hlt8 : i < 8
        · rcases Nat.mod_two_eq_zero_or_one v with hp | hp
          · have hq := xor_even v hv hp
            have HQ := Lib.hid hq
            have hp' : ((v : Int) % 2 == 1) = false := by simp; omega
            have hv2 := bitS_lt v hv
            clear hq hp
            go_wp2
            go_round
            case rel => exact ⟨i + 1, v / 2, by omega, by go_num, by go_num, by rw [← HQ.out, HV.out]; rfl, by omega⟩
            case measure => simp [intOf]; omega
          · have e3 := xor64_odd v hv hp
            have hp' : ((v : Int) % 2 == 1) = true := by simp; omega
            have hv2 := bitS_lt v hv
            clear hp
            go_wp2
            go_round
            case rel => exact ⟨i + 1, bitS v, by omega, by go_num, by go_num, by rw [HV.out]; rfl, hv2⟩
            case measure => simp [intOf]; omega
        · go_wp2
          go_round
          case rel =>
            obtain rfl : i = 8 := by omega
            exact ⟨k + 1, v, by omega, by go_num, rfl, by rw [HV.out, ← HM.out, ← HX.out, ← crcB_bits, HN.out, ← crcL_snoc _ _ _ hlt]; rfl, hv⟩
          case measure => simp [intOf]; omega
    · have e2 := xor64_inv n hn
      have hj := inv_lt n hn
      go_wp2
      go_ret
      obtain rfl : k = l.length := by omega
      have e3 := HN.out
      rw [List.take_length] at e3
      exact ⟨ret_u32 (by rw [← e3]), rfl⟩
theorem rcrc_any (A : Option Addr) (c : Nat) (l : List UInt8) (w : World) (hl : l.length ≤ 2000000000) (hr : Rd w A l) :
    Calls Tryd.prog 29 #[.slice A l.length c] w fun e w' => e = .returned (.int .u32 (inv (crcL (inv 0) l) : Nat)) ∧ w = w' := by
  go_enter Tryd.func29, Tryd.ntmps29
  go_wp2_with fail
  refine (rupd_any 0 A c l w (by omega) hl hr).mono ?_
  rintro e w' ⟨rfl, rfl⟩
  go_wp2
  go_ret
  exact ⟨rfl, rfl⟩
theorem num_any (n : Int) (w : World) : Calls Tryd.prog 14 #[.int .i64 n] w fun e w' => e = .returned (.int .i64 n) ∧ w = w' := by
  go_enter Tryd.func14, Tryd.ntmps14
  go_wp2
  go_ret
  exact ⟨rfl, rfl⟩
def row4 (n : Nat) : Array Value := #[.int .u8 (n % 256 : Nat), .int .u8 (n / 256 % 256 : Nat), .int .u8 (n / 65536 % 256 : Nat), .int .u8 (n / 16777216 : Nat)]
theorem bytes_any (n : Nat) (w : World) (h1 : n < 4294967296) :
    Calls Tryd.prog 25 #[.int .u32 n] w fun e w' => e = .returned (.slice (some ⟨w.heap.size, 0, none⟩) 4 4) ∧ w' = w.alloc (.cells (row4 n) 5) := by
  go_enter Tryd.func25, Tryd.ntmps25
  go_wp2
  go_ret
  exact ⟨rfl, rfl⟩
theorem rbytes_any (n : Nat) (w : World) (h1 : n < 4294967296) :
    Calls Tryd.prog 30 #[.int .u32 n] w fun e w' => e = .returned (.slice (some ⟨w.heap.size, 0, none⟩) 4 4) ∧ w' = w.alloc (.cells (row4 n) 5) := by
  go_enter Tryd.func30, Tryd.ntmps30
  go_wp2
  go_ret
  exact ⟨rfl, rfl⟩
theorem ret_tup2 {a b : Int} {v : Value} (h : a = b) : Ending.returned (.tuple #[.int .u32 a, v]) = .returned (.tuple #[.int .u32 b, v]) := by rw [h]
theorem of4_eq (a b c d : UInt8) : of4 [a, b, c, d] = ((a.toNat ||| b.toNat * 256) ||| c.toNat * 65536) ||| d.toNat * 16777216 := rfl
theorem of_bits (a b c d : Nat) (ha : a < 256) (hb : b < 256) (hc : c < 256) (hd : d < 256) :
    bits .or .u32 (bits .or .u32 (bits .or .u32 (a : Int) ((b : Int) * 256)) ((c : Int) * 65536)) ((d : Int) * 16777216) = ((((a ||| b * 256) ||| c * 65536) ||| d * 16777216 : Nat) : Int) := by
  have h1 : a ||| b * 256 < 4294967296 := Nat.or_lt_two_pow (n := 32) (by omega) (by omega)
  have h2 : (a ||| b * 256) ||| c * 65536 < 4294967296 := Nat.or_lt_two_pow (n := 32) h1 (by omega)
  rw [show ((b : Int) * 256) = ((b * 256 : Nat) : Int) from by omega, u32_or_nat _ _ (by omega) (by omega), show ((c : Int) * 65536) = ((c * 65536 : Nat) : Int) from by omega, u32_or_nat _ _ h1 (by omega),
    show ((d : Int) * 16777216) = ((d * 16777216 : Nat) : Int) from by omega, u32_or_nat _ _ h2 (by omega)]
theorem of_no (A : Option Addr) (n c : Nat) (w : World) (h : n ≠ 4) (hm : n ≤ 9223372036854775807) :
    Calls Tryd.prog 33 #[.slice A n c] w fun e w' => e = .returned (.tuple #[.int .u32 0, .int .i64 2]) ∧ w = w' := by
  have h' : ((n : Int) != 4) = true := by simp; omega
  have H := Lib.hid h
  clear h
  go_enter Tryd.func33, Tryd.ntmps33
  go_wp2
  go_ret2
  exact ⟨rfl, rfl⟩
theorem of_yes (A : Option Addr) (c : Nat) (l : List UInt8) (w : World) (h : l.length = 4) (hr : Rd w A l) :
    Calls Tryd.prog 33 #[.slice A 4 c] w fun e w' => e = .returned (.tuple #[.int .u32 (of4 l), .int .i64 0]) ∧ ∃ m, w' = w.drewN m := by
  obtain ⟨b, off, rfl, hbb, hcell⟩ := hr (by omega)
  match l, h with
  | [b0, b1, b2, b3], _ =>
    have h0 := hcell 0 (by simp)
    have h1 := hcell 1 (by simp)
    have h2 := hcell 2 (by simp)
    have h3 := hcell 3 (by simp)
    clear hcell hr
    simp only [List.getElem_cons_zero, List.getElem_cons_succ, Nat.add_zero] at h0 h1 h2 h3
    have e := of_bits b0.toNat b1.toNat b2.toNat b3.toNat b0.toNat_lt b1.toNat_lt b2.toNat_lt b3.toNat_lt
    have H := Lib.hid e
    clear e
    have g0 := b0.toNat_lt
    have g1 := b1.toNat_lt
    have g2 := b2.toNat_lt
    have g3 := b3.toNat_lt
    rw [of4_eq]
    generalize b0.toNat = x0 at *
    generalize b1.toNat = x1 at *
    generalize b2.toNat = x2 at *
    generalize b3.toNat = x3 at *
    go_enter Tryd.func33, Tryd.ntmps33
    go_wp2
    go_quiet (fail)
    go_wp2
    go_ret2
    exact ⟨ret_tup2 H.out, _, rfl⟩
theorem rof_yes (A : Option Addr) (c : Nat) (l : List UInt8) (w : World) (h : l.length = 4) (hr : Rd w A l) :
    Calls Tryd.prog 38 #[.slice A 4 c] w fun e w' => e = .returned (.int .u32 (of4 l)) ∧ ∃ m, w' = w.drewN m := by
  obtain ⟨b, off, rfl, hbb, hcell⟩ := hr (by omega)
  match l, h with
  | [b0, b1, b2, b3], _ =>
    have h0 := hcell 0 (by simp)
    have h1 := hcell 1 (by simp)
    have h2 := hcell 2 (by simp)
    have h3 := hcell 3 (by simp)
    clear hcell hr
    simp only [List.getElem_cons_zero, List.getElem_cons_succ, Nat.add_zero] at h0 h1 h2 h3
    have e := of_bits b0.toNat b1.toNat b2.toNat b3.toNat b0.toNat_lt b1.toNat_lt b2.toNat_lt b3.toNat_lt
    have H := Lib.hid e
    clear e
    have g0 := b0.toNat_lt
    have g1 := b1.toNat_lt
    have g2 := b2.toNat_lt
    have g3 := b3.toNat_lt
    rw [of4_eq]
    generalize b0.toNat = x0 at *
    generalize b1.toNat = x1 at *
    generalize b2.toNat = x2 at *
    generalize b3.toNat = x3 at *
    go_enter Tryd.func38, Tryd.ntmps38
    go_wp2
    go_quiet (fail)
    go_wp2
    go_ret
    exact ⟨ret_u32 H.out, _, rfl⟩
end Go.Proofs.YthbhbjfmlmgeeaaDoor
