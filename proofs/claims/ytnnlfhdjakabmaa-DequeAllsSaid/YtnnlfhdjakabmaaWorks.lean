/- What every law shows besides. -/
import Derived.Test.YtnnlfhdjakabmaaDrop
import Derived.Test.YtnnlfhdjakabmaaOne
namespace Go.Proofs.Ytnnlfhdjakabmaa
open Go Go.RowKit
open Go.Shelf
def sa : ByteArray := { data := #[97] }
def sb : ByteArray := { data := #[98] }
def sx : ByteArray := { data := #[120] }
def sy : ByteArray := { data := #[121] }
theorem long_ab : longB [sa, sb] = false := by decide
theorem long_xy : longB [sx, sy] = false := by decide
theorem eq_yxa : eqS [sy, sx, sa] [sy, sx, sa] = true := by simp [eqS]
theorem span_5 : spanF 5 1 (-2) = (1, 4) := by decide
theorem range_3 : rangeL [sy, sx, sa] 0 (-1) = [sy, sx, sa] := by decide
theorem dropN_x : dropN 0 sx [sy, sx, sa] = 1 := by decide
theorem dropL_x : dropL 0 sx [sy, sx, sa] = [sy, sa] := by decide
theorem Far.keeps_below {w W W' : World} {D : Nat} {r : Option Nat} (h : Below w.heap.size w W) (hf : Far w.heap.size D r) (hk : Keeps D r W W') : Below w.heap.size w W' := h.trans (hk.below hf h.size)
theorem Far.none {B D : Nat} {r : Option Nat} (h : Far B D r) : Far B D none := ⟨h.1, fun k e => by cases e⟩
set_option maxHeartbeats 4000000 in
set_option maxRecDepth 100000 in
theorem works_any (w : World) : Calls Try.prog 13 #[] w fun e w' => e = .returned (.bool true) ∧ Below w.heap.size w w' := by
  go_enter Try.func13, Try.ntmps13
  go_wp2_with fail
  have hb1 := below_new w (.cells (cellsS [sa, sb]).toArray 9)
  refine (new_yes _ 2 2 [sa, sb] _ rfl (new_rdS w [sa, sb]) long_ab (by omega)).mono ?_
  rintro e w2 ⟨D, rfl, r, hd, hb, hf⟩
  have HB2 := Lib.hid (hb1.trans (hb.mono hb1.size))
  have HD2 := Lib.hid hd
  have HF2 := Lib.hid (hf.mono hb1.size)
  have hDw := hd.lt.1
  have HRW := Lib.hid hd.lt.2
  clear hd hb hf hb1
  go_wp2_with fail
  have hb3 := below_new w2 (.cells (cellsS [sx, sy]).toArray 9)
  refine (front_yes D r [sa, sb] _ 2 2 [sx, sy] _ (HD2.out.below hb3) rfl (new_rdS w2 [sx, sy]) (fun ad e _ => by
    cases e
    exact ⟨by simp, by show w2.heap.size ≠ D; omega, fun e => absurd (HRW.out w2.heap.size e).1 (Nat.lt_irrefl _)⟩) long_xy (by decide)).mono ?_
  rintro e w4 ⟨rfl, r4, hd4, hk4, hn4⟩
  have HB3 := Lib.hid (HB2.out.trans (hb3.mono HB2.out.size))
  have HB4 := Lib.hid (Far.keeps_below HB3.out HF2.out hk4)
  have HF4 := Lib.hid (HF2.out.next hn4 HB3.out.size)
  have HD4 := Lib.hid hd4
  clear hd4 hk4 hn4 hb3 HD2 HF2 HB2 HB3 HRW hDw
  go_wp2_with fail
  refine (span_any 5 1 (-2) w4 (by omega) (by omega) (by omega) (by omega) (by omega) (by omega)).mono ?_
  rintro e w5 ⟨he, rfl⟩
  rw [span_5] at he
  subst he
  go_wp2_with fail
  refine (popb_yes D r4 [sy, sx, sa] { data := #[98] } w5 (by exact HD4.out)).mono ?_
  rintro e w6 ⟨rfl, hd6, hk6⟩
  have HB6 := Lib.hid (Far.keeps_below HB4.out HF4.out hk6)
  have HD6 := Lib.hid hd6
  clear hd6 hk6 HB4 HD4
  go_wp2_with fail
  refine (num_any 0 w6).mono ?_
  rintro e w' ⟨rfl, rfl⟩
  go_wp2_with fail
  refine (num_any 0 w6).mono ?_
  rintro e w' ⟨rfl, rfl⟩
  go_wp2_with fail
  refine (range_any D r4 [sy, sx, sa] 0 (-1) w6 HD6.out (by omega) (by omega) (by omega) (by omega)).mono ?_
  rintro e w7 ⟨v7, rfl, ho7, hb7⟩
  rw [range_3] at ho7
  obtain ⟨A7, c7, rfl, -, -, -, hr7⟩ := own_rdV ho7
  have HB7 := Lib.hid (HB6.out.trans (hb7.mono HB6.out.size))
  have HD7 := Lib.hid (HD6.out.below hb7)
  have HR7 := Lib.hid hr7
  clear ho7 hb7 hr7 HB6 HD6
  go_wp2_with fail
  have hb8 := below_new w7 (.cells (cellsS [sy, sx, sa]).toArray 9)
  refine (one_any A7 _ 3 3 c7 3 [sy, sx, sa] [sy, sx, sa] _ rfl rfl (by omega) (by omega) (HR7.out.below hb8) (new_rdS w7 [sy, sx, sa])).mono ?_
  rintro e w8 ⟨he, q8, rfl⟩
  rw [eq_yxa] at he
  subst he
  have hb9 := below_any q8 hb8
  have HB9 := Lib.hid (HB7.out.trans (hb9.mono HB7.out.size))
  have HD9 := Lib.hid (HD7.out.below hb9)
  generalize World.drewN _ q8 = w9 at *
  clear hb8 hb9 HB7 HD7 HR7
  go_wp2_with fail
  refine (drop_pos D r4 [sy, sx, sa] 0 sx w9 HD9.out (by omega) (by omega) (by omega)).mono ?_
  rintro e w10 ⟨rfl, r10, hd10, hk10, hn10⟩
  rw [dropN_x]
  rw [dropL_x] at hd10
  have HB10 := Lib.hid (Far.keeps_below HB9.out HF4.out.none hk10)
  have HD10 := Lib.hid hd10
  clear hd10 hk10 hn10 HB9 HD9
  go_wp2_with fail
  refine (len_any D r10 [sy, sa] w10 HD10.out).mono ?_
  rintro e w11 ⟨rfl, rfl⟩
  go_wp2
  go_ret
  exact ⟨rfl, HB10.out⟩
end Go.Proofs.Ytnnlfhdjakabmaa
