/- A line of a listing. -/
import Derived.Test.YtccofgdcpmplmaaGreatDoorBls
import Derived.Deep.RegionHeld3
namespace Go.Proofs.YtccofgdcpmplmaaGreatDoor
open Go Go.RowKit Go.Shelf
/-- The texts of a line, with blanks between them. -/
def joinS (fs : List ByteArray) : List UInt8 := Lib.join (fs.map (·.data.toList)) [32]
theorem size_ofL (l : List UInt8) : (ofL l).size = l.length := by simp [ofL, ByteArray.size]
set_option maxRecDepth 100000 in
set_option maxHeartbeats 8000000 in
theorem line_any (b : Nat) (l : List UInt8) (bk o c : Nat) (fs : List ByteArray) (w : World) (h : Gr b l w) (hc : ∀ (j : Nat) x, fs[j]? = some x → w.cell? ⟨bk, o + j, none⟩ = some (.string x)) (hbk : bk < w.heap.size) (hn : fs.length ≤ 1000) (hcap : fs.length ≤ c) (hj : (joinS fs).length ≤ 100000000) (h0 : joinS fs ≠ []) (hm : l.length ≤ 100000000) :
    Calls Tryz.prog 14 #[GrP b, .slice (some ⟨bk, o, none⟩) fs.length c] w fun e w' => e = .returned (.tuple #[]) ∧ Gr b (l ++ joinS fs ++ [10]) w' ∧ Below b w w' ∧ K34 w w' := by
  have hlt := gr_lt h
  have HBD := Lib.hid ((Below.refl w.heap.size w).drew)
  have HJ : Hid (∀ W, Below w.heap.size w W → Calls Tryz.prog 29 #[.slice (some ⟨bk, o, none⟩) fs.length c, .string ⟨#[32]⟩] W fun e w' => e = .returned (.string (ofL (joinS fs))) ∧ Below W.heap.size W w') := Lib.hid (fun W hb => Tryz.strings_Join bk o c fs ⟨#[32]⟩ W (fun j x hx => (hb.cell (p := ⟨bk, o + j, none⟩) hbk).trans (hc j x hx)) (Nat.lt_of_lt_of_le hbk hb.size) (by omega) hcap (by have : (Lib.join (fs.map (·.data.toList)) [32]).length ≤ 100000000 := hj; simpa using (by omega : (Lib.join (fs.map (·.data.toList)) [32]).length ≤ 140737488355328)))
  have HT : Hid (∀ W, Below w.heap.size w W → Calls Tryz.prog 28 #[GrP b, .string (ofL (joinS fs))] W fun e w' => (∃ v, e = .returned v) ∧ Gr b (l ++ joinS fs) w' ∧ Below b W w' ∧ K34 W w') := Lib.hid (fun W hb => by
    have h1 := text_gr34 b l (ofL (joinS fs)) W (gr_below h hb) (by rw [bl_ofL]; simp [h0]) (by rw [size_ofL]; omega)
    rw [bl_ofL] at h1
    exact h1)
  have HY : Hid (∀ W, Gr b (l ++ joinS fs) W → Calls Tryz.prog 30 #[GrP b, .int .u8 10] W fun e w' => e = .returned .nilIface ∧ Gr b (l ++ joinS fs ++ [10]) w' ∧ Below b W w' ∧ K34 W w') := Lib.hid (fun W h => byte_gr34 b (l ++ joinS fs) 10 W h (by rw [List.length_append]; omega))
  have HL := Lib.hid hlt
  clear hc hj h0 hm h hn hcap hlt hbk
  obtain ⟨q, hq⟩ : ∃ q, ofL (joinS fs) = q := ⟨_, rfl⟩
  rw [hq] at HJ HT
  clear hq
  go_enter Tryz.func14, Tryz.ntmps14
  go_wp2_with fail
  go_region_held3 (fun _ => True)
    (first | trivial)
    (first
      | (go_at_call 29; with_reducible (refine (HJ.out _ HBD.out).mono ?_); rintro e w5 ⟨rfl, hb5⟩; have HB5 := Lib.hid (HBD.out.trans (hb5.mono HBD.out.size)); clear hb5)
      | (go_at_call 28; with_reducible (refine (HT.out _ HB5.out).mono ?_); rintro e w6 ⟨⟨v6, rfl⟩, hg6, hb6, hk6⟩; have HG6 := Lib.hid hg6; have HB6 := Lib.hid hb6; have HK6 := Lib.hid hk6; clear hg6 hb6 hk6))
  have HC := Lib.hid (HY.out _ HG6.out)
  go_wp2_with fail
  refine HC.out.mono ?_
  rintro e w7 ⟨rfl, hg7, hb7, hk7⟩
  have H7 := Lib.hid (And.intro hg7 (And.intro hb7 hk7))
  clear hg7 hb7 hk7 HC
  go_wp2_with fail
  go_end0
  exact ⟨rfl, H7.out.1, ((HB5.out.mono (Nat.le_of_lt HL.out)).trans HB6.out).trans H7.out.2.1, (k34_below HB5.out).trans (HK6.out.trans H7.out.2.2)⟩
end Go.Proofs.YtccofgdcpmplmaaGreatDoor
