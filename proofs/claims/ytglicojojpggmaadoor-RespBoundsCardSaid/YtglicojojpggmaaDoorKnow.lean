/- A request and a reply that are known. -/
import Derived.Test.YtglicojojpggmaaDoorDecode
namespace Go.Proofs.YtglicojojpggmaaDoor
open Go Go.RowKit
abbrev sg : ByteArray := { data := #[71, 69, 84] }
abbrev sa : ByteArray := { data := #[97] }
abbrev r20 : List UInt8 := [42, 50, 13, 10, 36, 51, 13, 10, 71, 69, 84, 13, 10, 36, 49, 13, 10, 97, 13, 10]
theorem itL_small (n : Nat) (h : n < 10) : itL (n : Int) = [UInt8.ofNat (48 + n)] := by
  unfold itL Lib.itoa
  rw [if_neg (by omega), Int.toNat_natCast, Lib.decDigits, dif_pos h]
theorem req20 : reqL 2 [sg, sa] = r20 := by
  have h1 : oneL sg = [36, 51, 13, 10, 71, 69, 84, 13, 10] := by
    unfold oneL layL
    rw [show ((sg.size : Nat) : Int) = ((3 : Nat) : Int) from rfl, itL_small 3 (by decide)]
    rfl
  have h2 : oneL sa = [36, 49, 13, 10, 97, 13, 10] := by
    unfold oneL layL
    rw [show ((sa.size : Nat) : Int) = ((1 : Nat) : Int) from rfl, itL_small 1 (by decide)]
    rfl
  unfold reqL headL layL
  rw [itL_small 2 (by decide)]
  simp only [List.flatMap_cons, List.flatMap_nil, h1, h2]
  rfl
theorem reqE20 : reqE [sg, sa] = 0 := by decide
theorem parse20 : parseR r20 = (0, [sg, sa], 20) := by decide +kernel
theorem parse21 : parseR (r20 ++ [9]) = (0, [sg, sa], 20) := by decide +kernel
theorem parse0 : parseR [] = (130, [], 0) := by decide +kernel
abbrev rx : Rp := .mk 5 0 noT [.mk 3 1 noT [], noR]
abbrev e13 : List UInt8 := [42, 50, 13, 10, 58, 49, 13, 10, 36, 45, 49, 13, 10]
theorem chk13 : chkR rx = 0 := by decide +kernel
theorem enc13 : encR rx = e13 := by
  rw [encR]
  simp only [encL, encR]
  rw [show ((([Rp.mk 3 1 noT [], noR] : List Rp).length : Nat) : Int) = ((2 : Nat) : Int) from rfl, itL_small 2 (by decide), show (1 : Int) = ((1 : Nat) : Int) from rfl, itL_small 1 (by decide)]
  rfl
theorem dec13 : (decR e13).e = 0 ∧ (decR e13).a = 13 ∧ (decR e13).r.kids.length = 2 := by
  decide +kernel
end Go.Proofs.YtglicojojpggmaaDoor
