/- The sum that goes on, as the program works it out (by half bytes, through a table and a closure), and as its reference does (bit by bit): one plain function of the bytes. -/
import Derived.Test.YtecioakbgggdfaaDoorIs
import Derived.RegionTactic
import Derived.ChangeAlike
import Derived.Laws.BitsAllLaws
namespace Go.Proofs.YtecioakbgggdfaaDoor
open Go Go.RowKit
theorem ret_u32 {a b : Int} (h : a = b) : Ending.returned (.int .u32 a) = .returned (.int .u32 b) := by rw [h]
def htab (k : Nat) : Nat := [0, 498536548, 997073096, 651767980, 1994146192, 1802195444, 1303535960, 1342533948, 3988292384, 4027552580, 3604390888, 3412177804, 2607071920, 2262029012, 2685067896, 3183342108].getD k 0
def half (n : Nat) : Nat := (n / 16) ^^^ htab (n % 16)
theorem htab_lt : ∀ k, k < 16 → htab k < 4294967296 := by decide
theorem half_lt (n : Nat) (h : n < 4294967296) : half n < 4294967296 := by
  unfold half
  exact Nat.xor_lt_two_pow (n := 32) (by omega) (htab_lt _ (Nat.mod_lt _ (by omega)))
def Tabs (w : World) : Prop := ∀ k, k < 16 → w.cell? ⟨0, k, none⟩ = some (.int .u32 (htab k))
theorem half_bits (n : Nat) (h : n < 4294967296) : bits .xor .u32 ((n : Int) / 16) (htab (n % 16) : Int) = (half n : Int) := by
  rw [show ((n : Int) / 16) = ((n / 16 : Nat) : Int) from by omega, u32_xor_nat _ _ (by omega) (htab_lt _ (Nat.mod_lt _ (by omega)))]; rfl
theorem half_any (p : Addr) (n : Nat) (w : World) (h1 : n < 4294967296) (hc : w.cell? p = some (.int .u32 n)) (hz : w.frozen? p = false) (hg : Tabs w) :
    Calls Tryd.prog 36 #[.pointer (some p)] w fun e w' => e = .returned (.tuple #[]) ∧ ∃ m, w' = (w.setCell p (.int .u32 (half n))).drewN m := by
  have e1 : bits .and .u32 (n : Int) 15 = ((n % 16 : Nat) : Int) := by
    have := u32_and_nat n 15 h1 (by omega)
    rw [show ((15 : Nat) : Int) = 15 from rfl] at this
    rw [this]; congr 1; exact Nat.and_two_pow_sub_one_eq_mod n 4
  have hb1 : n % 16 < 16 := Nat.mod_lt _ (by omega)
  have hg' := hg (n % 16) hb1
  have H2 := Lib.hid (half_bits n h1)
  clear hg
  generalize n % 16 = k at *
  go_enter Tryd.func36, Tryd.ntmps36
  go_wp2
  go_region
  go_end0
  exact ⟨rfl, 1, by rw [H2.out]; rfl⟩

def crcB (n : Nat) (b : UInt8) : Nat := half (half (n ^^^ b.toNat))
def crcL (n : Nat) (l : List UInt8) : Nat := l.foldl crcB n
def Rd (w : World) (A : Option Addr) (l : List UInt8) : Prop := 0 < l.length → ∃ b off, A = some ⟨b, off, none⟩ ∧ b < w.heap.size ∧ ∀ j (h : j < l.length), w.cell? ⟨b, off + j, none⟩ = some (.int .u8 l[j].toNat)

def inv (n : Nat) : Nat := 4294967295 ^^^ n
theorem inv_lt (n : Nat) (h : n < 4294967296) : inv n < 4294967296 := Nat.xor_lt_two_pow (n := 32) (by omega) h
theorem inv_bits (n : Nat) (h : n < 4294967296) : bits .xor .u32 IntKind.u32.max (n : Int) = (inv n : Int) := by
  rw [show IntKind.u32.max = ((4294967295 : Nat) : Int) from rfl, u32_xor_nat _ _ (by omega) h]; rfl
theorem xor_bits (n m : Nat) (h : n < 4294967296) (h' : m < 256) : bits .xor .u32 (n : Int) (m : Int) = ((n ^^^ m : Nat) : Int) := u32_xor_nat n m h (by omega)

theorem Below.drewN' {B : Nat} {a w : World} (h : Below B a w) (n : Nat) : Below B a (w.drewN n) := ⟨h.os, h.tape, h.output, h.size, h.block⟩
theorem Tabs.below {w w' : World} (h : Tabs w) (hb : 0 < w.heap.size) (h2 : Below w.heap.size w w') : Tabs w' :=
  fun k hk => (h2.cell (p := ⟨0, k, none⟩) hb).trans (h k hk)
theorem crc_snoc (m n : Nat) (l : List UInt8) (k : Nat) (hk : k < l.length) (h : n = crcL m (l.take k)) : half (half (n ^^^ l[k].toNat)) = crcL m (l.take (k + 1)) := by
  rw [List.take_succ_eq_append_getElem hk, crcL, List.foldl_append, h]; rfl

theorem cell_set3 (w : World) (p : Addr) (x y z : Value) (m m' : Nat) {u : Value} (h : w.cell? p = some u) : (((((w.setCell p x).setCell p y).drewN m).setCell p z).drewN m').cell? p = some z := by
  have h1 := World.cell?_setCell_same _ _ x h
  have h2 := World.cell?_setCell_same _ _ y h1
  exact World.cell?_setCell_same (((w.setCell p x).setCell p y).drewN m) _ z h2

set_option maxHeartbeats 400000 in
theorem upd_any (s : Nat) (A : Option Addr) (c : Nat) (l : List UInt8) (w : World) (hs : s < 4294967296) (hl : l.length ≤ 1000000) (hr : Rd w A l) (hg : Tabs w) (hb : 0 < w.heap.size) :
    Calls Tryd.prog 17 #[.int .u32 s, .slice A l.length c] w fun e w' => e = .returned (.int .u32 (inv (crcL (inv s) l) : Nat)) ∧ Below w.heap.size w w' := by
  have e1 := inv_bits s hs
  have hi := inv_lt s hs
  go_enter Tryd.func17, Tryd.ntmps17
  go_wp2
  clear e1
  go_loopw [14] (fun i wr => ∃ k n : Nat, k ≤ l.length ∧ i = .int .i64 k ∧ Hid (n = crcL (inv s) (l.take k)) ∧ n < 4294967296 ∧ wr.cell? ⟨w.heap.size, 0, none⟩ = some (.int .u32 n) ∧ wr.frozen? ⟨w.heap.size, 0, none⟩ = false ∧ Below w.heap.size w wr) (fun i _ => l.length - (intOf i).toNat)
  case atStart => exact ⟨0, inv s, Nat.zero_le _, rfl, by simp [Hid, crcL], hi, by go_simp, by go_simp, (Below.refl _ _).alloc (Nat.le_refl _) _⟩
  case round =>
    obtain ⟨k, n, hk, rfl, HN, hn, hc, hz, hbel⟩ := hrel
    by_cases hlt : k < l.length
    · obtain ⟨b, off, rfl, hbb, hcell⟩ := hr (by omega)
      have hx := hcell k hlt
      have hx' := (hbel.cell (p := ⟨b, off + k, none⟩) hbb).trans hx
      have hx256 : l[k].toNat < 256 := l[k].toNat_lt
      generalize hX : l[k].toNat = x at *
      have HX := Lib.hid hX
      clear hX hx hcell
      have e2 := xor_bits n x hn hx256
      have hb1 := hbel.setCell (p := ⟨w.heap.size, 0, none⟩) (by simp) (.int .u32 (n ^^^ x : Nat))
      have hn1 : n ^^^ x < 4294967296 := Nat.xor_lt_two_pow (n := 32) hn (by omega)
      go_wp2_with fail
      refine (half_any ⟨w.heap.size, 0, none⟩ (n ^^^ x) _ hn1 (by go_simp) (by go_simp) (hg.below hb hb1)).mono ?_
      rintro e w1 ⟨rfl, m, rfl⟩
      have hn2 := half_lt _ hn1
      have hb2 := Below.drewN' (hb1.setCell (p := ⟨w.heap.size, 0, none⟩) (by simp) (.int .u32 (half (n ^^^ x)))) m
      go_wp2_with fail
      refine (half_any ⟨w.heap.size, 0, none⟩ (half (n ^^^ x)) _ hn2 (by go_simp) (by go_simp) (hg.below hb hb2)).mono ?_
      rintro e w1 ⟨rfl, m', rfl⟩
      have hn3 := half_lt _ hn2
      have hb3 := Below.drewN' (hb2.setCell (p := ⟨w.heap.size, 0, none⟩) (by simp) (.int .u32 (half (half (n ^^^ x))))) m'
      go_wp2
      go_roundw
      case rel => exact ⟨k + 1, half (half (n ^^^ x)), by omega, by go_num, (by rw [← HX.out]; exact crc_snoc _ _ _ _ hlt HN.out), hn3, cell_set3 _ _ _ _ _ m m' hc, by go_simp, hb3⟩
      case measure => simp [intOf]; omega
    · have e2 := inv_bits n hn
      go_wp2
      go_ret
      obtain rfl : k = l.length := by omega
      have e3 := HN.out
      rw [List.take_length] at e3
      exact ⟨ret_u32 (by rw [← e3]), hbel⟩
theorem crc_any (A : Option Addr) (c : Nat) (l : List UInt8) (w : World) (hl : l.length ≤ 1000000) (hr : Rd w A l) (hg : Tabs w) (hb : 0 < w.heap.size) :
    Calls Tryd.prog 14 #[.slice A l.length c] w fun e w' => e = .returned (.int .u32 (inv (crcL (inv 0) l) : Nat)) ∧ Below w.heap.size w w' := by
  go_enter Tryd.func14, Tryd.ntmps14
  go_wp2_with fail
  refine (upd_any 0 A c l w (by omega) hl hr hg hb).mono ?_
  rintro e w' ⟨rfl, h⟩
  go_wp2
  go_ret
  exact ⟨rfl, h⟩
end Go.Proofs.YtecioakbgggdfaaDoor
