/- The sum that goes on, as the program works it out (by half bytes, through a table and a closure), and as its reference does (bit by bit): one plain function of the bytes. -/
import Derived.Test.YtpomaabkgbaikaaDoorD1Is
import Derived.RegionTactic
import Derived.ChangeAlike
import Derived.Laws.BitsAllLaws
namespace Go.Proofs.YtpomaabkgbaikaaDoor.Dg
open Go Go.RowKit
set_option maxRecDepth 100000 in
theorem ret_u32 {a b : Int} (h : a = b) : Ending.returned (.int .u32 a) = .returned (.int .u32 b) := by rw [h]
def htab (k : Nat) : Nat := [0, 498536548, 997073096, 651767980, 1994146192, 1802195444, 1303535960, 1342533948, 3988292384, 4027552580, 3604390888, 3412177804, 2607071920, 2262029012, 2685067896, 3183342108].getD k 0
def half (n : Nat) : Nat := (n / 16) ^^^ htab (n % 16)
set_option maxRecDepth 100000 in
theorem htab_lt : ∀ k, k < 16 → htab k < 4294967296 := by decide
set_option maxRecDepth 100000 in
theorem half_lt (n : Nat) (h : n < 4294967296) : half n < 4294967296 := by
  unfold half
  exact Nat.xor_lt_two_pow (n := 32) (by omega) (htab_lt _ (Nat.mod_lt _ (by omega)))
def Tabs (w : World) : Prop := ∀ k, k < 16 → w.cell? ⟨0, k, none⟩ = some (.int .u32 (htab k))
set_option maxRecDepth 100000 in
theorem half_bits (n : Nat) (h : n < 4294967296) : bits .xor .u32 ((n : Int) / 16) (htab (n % 16) : Int) = (half n : Int) := by
  rw [show ((n : Int) / 16) = ((n / 16 : Nat) : Int) from by omega, u32_xor_nat _ _ (by omega) (htab_lt _ (Nat.mod_lt _ (by omega)))]; rfl
def crcB (n : Nat) (b : UInt8) : Nat := half (half (n ^^^ b.toNat))
def crcL (n : Nat) (l : List UInt8) : Nat := l.foldl crcB n
def Rd (w : World) (A : Option Addr) (l : List UInt8) : Prop := 0 < l.length → ∃ b off, A = some ⟨b, off, none⟩ ∧ b < w.heap.size ∧ ∀ j (h : j < l.length), w.cell? ⟨b, off + j, none⟩ = some (.int .u8 l[j].toNat)

def inv (n : Nat) : Nat := 4294967295 ^^^ n
set_option maxRecDepth 100000 in
theorem inv_lt (n : Nat) (h : n < 4294967296) : inv n < 4294967296 := Nat.xor_lt_two_pow (n := 32) (by omega) h
set_option maxRecDepth 100000 in
theorem inv_bits (n : Nat) (h : n < 4294967296) : bits .xor .u32 IntKind.u32.max (n : Int) = (inv n : Int) := by
  rw [show IntKind.u32.max = ((4294967295 : Nat) : Int) from rfl, u32_xor_nat _ _ (by omega) h]; rfl
set_option maxRecDepth 100000 in
theorem xor_bits (n m : Nat) (h : n < 4294967296) (h' : m < 256) : bits .xor .u32 (n : Int) (m : Int) = ((n ^^^ m : Nat) : Int) := u32_xor_nat n m h (by omega)

set_option maxRecDepth 100000 in
theorem Below.drewN' {B : Nat} {a w : World} (h : Below B a w) (n : Nat) : Below B a (w.drewN n) := ⟨h.os, h.tape, h.output, h.size, h.block⟩
set_option maxRecDepth 100000 in
theorem Tabs.below {w w' : World} (h : Tabs w) (hb : 0 < w.heap.size) (h2 : Below w.heap.size w w') : Tabs w' :=
  fun k hk => (h2.cell (p := ⟨0, k, none⟩) hb).trans (h k hk)
set_option maxRecDepth 100000 in
theorem crc_snoc (m n : Nat) (l : List UInt8) (k : Nat) (hk : k < l.length) (h : n = crcL m (l.take k)) : half (half (n ^^^ l[k].toNat)) = crcL m (l.take (k + 1)) := by
  rw [List.take_succ_eq_append_getElem hk, crcL, List.foldl_append, h]; rfl

set_option maxRecDepth 100000 in
theorem cell_set3 (w : World) (p : Addr) (x y z : Value) (m m' : Nat) {u : Value} (h : w.cell? p = some u) : (((((w.setCell p x).setCell p y).drewN m).setCell p z).drewN m').cell? p = some z := by
  have h1 := World.cell?_setCell_same _ _ x h
  have h2 := World.cell?_setCell_same _ _ y h1
  exact World.cell?_setCell_same (((w.setCell p x).setCell p y).drewN m) _ z h2

end Go.Proofs.YtpomaabkgbaikaaDoor.Dg
