/- A whole number in a line of its own that is taken. -/
import Derived.Test.YtglicojojpggmaaDoorLine
namespace Go.Proofs.YtglicojojpggmaaDoor
open Go Go.RowKit
/-- A line's number: why it isn't taken, the number, the place behind. -/
def numR (l : List UInt8) (a : Nat) : Int × Int × Nat := match l[a]? with
  | none => (130, 0, 0)
  | some x => if x.toNat ≠ 45 then (lenE 9223372036854775807 l a, ((digR 9223372036854775807 l a).2.1 : Nat), (digR 9223372036854775807 l a).2.2 + 2)
    else match l[a + 1]? with
      | none => (130, 0, 0)
      | some y => if y.toNat = 48 then (131, 0, 0) else (lenE 9223372036854775808 l (a + 1), -((digR 9223372036854775808 l (a + 1)).2.1 : Nat), (digR 9223372036854775808 l (a + 1)).2.2 + 2)
theorem wrap_neg (v : Nat) (h : v ≤ 9223372036854775808) : IntKind.i64.wrap (-(IntKind.i64.wrap (v : Int))) = -(v : Int) := by
  rw [IntKind.wrap_i64, IntKind.wrap_i64]
  omega
section
variable {W : World} {G : Nat} {A : Option Addr} {n c : Nat} {l : List UInt8} {a : Nat} {tx it li : Int}
set_option maxRecDepth 100000 in
set_option maxHeartbeats 8000000 in
theorem number_any (w : World) (h : Inp w G A n c l a tx it li) :
    Calls Tryd.prog 64 #[.pointer (some ⟨G, 0, none⟩)] w (TakeQ w G A n c l (numR l a).1 (.int .i64 (numR l a).2.1) (numR l a).2.2 tx it li) := by
  have H := Lib.hid h
  have hmx := h.max
  have hps := h.pos
  have HL := Lib.hid h.len
  obtain ⟨N, hN⟩ : ∃ N, numR l a = N := ⟨_, rfl⟩
  rw [hN]
  unfold numR at hN
  by_cases ha : a < l.length
  rotate_left
  · have HP := Lib.hid (peek_no w h (by have := HL.out; omega))
    rw [List.getElem?_eq_none (by omega)] at hN
    have HEK : Hid (N.1 = 130) := Lib.hid (by rw [← hN])
    clear h hN
    go_enter Tryd.func64, Tryd.ntmps64
    go_wp2_with fail
    refine HP.out.mono ?_
    rintro e w1 ⟨rfl, q, rfl⟩
    exact post_panic (P := Tryd.prog) (fn := Tryd.f64) rfl ⟨.inr ⟨by rw [HEK.out]; decide, by rw [HEK.out]⟩, only_drew G w q⟩
  obtain ⟨x, hx⟩ : ∃ x, l[a] = x := ⟨_, rfl⟩
  have HP := Lib.hid (peek_yes w h ha)
  rw [hx] at HP
  rw [List.getElem?_eq_getElem ha, hx] at hN
  simp only at hN
  generalize x.toNat = y at HP hN
  by_cases h45 : y ≠ 45
  · rw [if_pos h45] at hN
    have t1 : ((y : Int) != 45) = true := by simp; omega
    have t2 : decide ((y : Int) = 45) = false := decide_eq_false (by omega)
    have HN := Lib.hid hN.symm
    clear h hN hx h45
    go_enter Tryd.func64, Tryd.ntmps64
    go_wp2_with fail
    refine HP.out.mono ?_
    rintro e w1 ⟨rfl, q, rfl⟩
    have HDG := Lib.hid (digits_any (w.drewN q) 9223372036854775807 (H.out.drew q) (by decide))
    have HDL := Lib.hid (digR_le (most := 9223372036854775807) (l := l) (a := a))
    have HLZ : Hid (lenE 9223372036854775807 l a = if (digR 9223372036854775807 l a).1 ≠ 0 then (digR 9223372036854775807 l a).1 else endE l (digR 9223372036854775807 l a).2.2) := Lib.hid rfl
    clear HP
    generalize digR 9223372036854775807 l a = R at HDG HDL HN HLZ
    generalize lenE 9223372036854775807 l a = LE at HN HLZ
    obtain ⟨r, v, p⟩ := R
    simp only at HDG HDL HN HLZ
    go_wp2_with fail
    refine HDG.out.mono ?_
    rintro e w2 ⟨⟨he, rfl, hi⟩ | ⟨he, rfl⟩, ho⟩
    rotate_left
    · have HEK : Hid (N.1 = r) := Lib.hid (by rw [HN.out, HLZ.out]; exact if_pos he)
      exact post_panic (P := Tryd.prog) (fn := Tryd.f64) rfl ⟨.inr ⟨by rw [HEK.out]; exact he, by rw [HEK.out]⟩, only_trans (only_drew G w q) ho⟩
    have HEK : Hid (N.1 = endE l p) := Lib.hid (by rw [HN.out, HLZ.out]; exact if_neg (by simpa using he))
    have hv := HDL.out he
    have HO2 := Lib.hid (only_trans (only_drew G w q) ho)
    have H2 := Lib.hid (end_any w2 hi)
    have hcw : IntKind.i64.wrap (v : Int) = (v : Int) := IntWalk.i64_in _ (by omega)
    clear hi ho he HDG HDL HLZ
    go_wp2_with fail
    refine H2.out.mono ?_
    rintro e w3 ⟨⟨he, rfl, hi⟩ | ⟨he, rfl⟩, ho⟩
    rotate_left
    · exact post_panic (P := Tryd.prog) (fn := Tryd.f64) rfl ⟨.inr ⟨by rw [HEK.out]; exact he, by rw [HEK.out]⟩, only_trans HO2.out ho⟩
    have HI3 := Lib.hid hi
    have HO3 := Lib.hid (only_trans HO2.out ho)
    have HE3 : Hid (N.1 = 0) := Lib.hid (HEK.out.trans he)
    clear hi ho he H2 hv
    go_wp2_with fail
    go_ret
    refine ⟨.inl ⟨HE3.out, ?_, ?_⟩, HO3.out⟩
    · rw [HN.out]; rfl
    · rw [HN.out]; exact HI3.out
  rw [if_neg h45] at hN
  obtain rfl : y = 45 := by omega
  have ht0 : (((45 : Nat) : Int)) = 45 := rfl
  rw [ht0] at HP
  clear h hx h45 ht0
  have H1 : Hid (∀ q, Inp ((w.drewN q).setCell ⟨G, 1, none⟩ (.int .i64 ((a : Int) + 1))) G A n c l (a + 1) tx it li ∧ Only G w ((w.drewN q).setCell ⟨G, 1, none⟩ (.int .i64 ((a : Int) + 1)))) := Lib.hid (fun q => by
    have hi := (H.out.drew q).at (a + 1) (by have := HL.out; omega)
    have ho := only_trans (only_drew G w q) (only_set G 1 (w.drewN q) (.int .i64 ((a + 1 : Nat) : Int)))
    rw [show ((a + 1 : Nat) : Int) = (a : Int) + 1 by omega] at hi ho
    exact ⟨hi, ho⟩)
  by_cases ha1 : a + 1 < l.length
  rotate_left
  · rw [List.getElem?_eq_none (by omega)] at hN
    have HEK : Hid (N.1 = 130) := Lib.hid (by rw [← hN])
    clear hN
    go_enter Tryd.func64, Tryd.ntmps64
    go_wp2_with fail
    refine HP.out.mono ?_
    rintro e w1 ⟨rfl, q, rfl⟩
    obtain ⟨y0, y1, y2, y3, y4, yf⟩ := (H.out.drew q).rows
    have HP2 := Lib.hid (peek_no _ (H1.out q).1 (by have := HL.out; omega))
    have HO2 := Lib.hid (H1.out q).2
    clear HP H1
    go_wp2_with fail
    refine HP2.out.mono ?_
    rintro e w2 ⟨rfl, q2, rfl⟩
    exact post_panic (P := Tryd.prog) (fn := Tryd.f64) rfl ⟨.inr ⟨by rw [HEK.out]; decide, by rw [HEK.out]⟩, only_trans HO2.out (only_drew G _ q2)⟩
  obtain ⟨x1, hx1⟩ : ∃ x1, l[a + 1] = x1 := ⟨_, rfl⟩
  rw [List.getElem?_eq_getElem ha1, hx1] at hN
  simp only at hN
  have HPP : Hid (∀ W, Inp W G A n c l (a + 1) tx it li → Calls Tryd.prog 61 #[.pointer (some ⟨G, 0, none⟩)] W fun e w' => e = .returned (.int .u8 x1.toNat) ∧ ∃ q, w' = W.drewN q) := Lib.hid (fun W hW => by have := peek_yes W hW ha1; rw [hx1] at this; exact this)
  generalize x1.toNat = z at HPP hN
  clear hx1
  by_cases h48 : z = 48
  · rw [if_pos h48] at hN
    have HEK : Hid (N.1 = 131) := Lib.hid (by rw [← hN])
    have t1 : ((z : Int) == 48) = true := by simp; omega
    have t2 : decide ((z : Int) = 48) = true := decide_eq_true (by omega)
    clear hN h48
    go_enter Tryd.func64, Tryd.ntmps64
    go_wp2_with fail
    refine HP.out.mono ?_
    rintro e w1 ⟨rfl, q, rfl⟩
    obtain ⟨y0, y1, y2, y3, y4, yf⟩ := (H.out.drew q).rows
    have HP2 := Lib.hid (HPP.out _ (H1.out q).1)
    have HO2 := Lib.hid (H1.out q).2
    clear HP H1 HPP
    go_wp2_with fail
    refine HP2.out.mono ?_
    rintro e w2 ⟨rfl, q2, rfl⟩
    clear HP2
    go_wp2_with fail
    exact post_panic (P := Tryd.prog) (fn := Tryd.f64) rfl ⟨.inr ⟨by rw [HEK.out]; decide, by rw [HEK.out]⟩, only_trans HO2.out (only_drew G _ q2)⟩
  rw [if_neg h48] at hN
  have t1 : ((z : Int) == 48) = false := by simp; omega
  have t2 : decide ((z : Int) = 48) = false := decide_eq_false (by omega)
  have HN := Lib.hid hN.symm
  clear hN h48
  go_enter Tryd.func64, Tryd.ntmps64
  go_wp2_with fail
  refine HP.out.mono ?_
  rintro e w1 ⟨rfl, q, rfl⟩
  obtain ⟨y0, y1, y2, y3, y4, yf⟩ := (H.out.drew q).rows
  have HP2 := Lib.hid (HPP.out _ (H1.out q).1)
  have HO2 := Lib.hid (H1.out q).2
  have HI2 := Lib.hid (H1.out q).1
  clear HP H1 HPP
  go_wp2_with fail
  refine HP2.out.mono ?_
  rintro e w2 ⟨rfl, q2, hq2⟩
  have HI3 : Hid (Inp w2 G A n c l (a + 1) tx it li) := Lib.hid (by rw [hq2]; exact HI2.out.drew q2)
  have HO3 : Hid (Only G w w2) := Lib.hid (by rw [hq2]; exact only_trans HO2.out (only_drew G _ q2))
  clear HP2 hq2 HI2 HO2 y0 y1 y2 y3 y4 yf
  have HDG := Lib.hid (digits_any w2 9223372036854775808 HI3.out (by decide))
  have HDL := Lib.hid (digR_le (most := 9223372036854775808) (l := l) (a := a + 1))
  have HLZ : Hid (lenE 9223372036854775808 l (a + 1) = if (digR 9223372036854775808 l (a + 1)).1 ≠ 0 then (digR 9223372036854775808 l (a + 1)).1 else endE l (digR 9223372036854775808 l (a + 1)).2.2) := Lib.hid rfl
  generalize digR 9223372036854775808 l (a + 1) = R at HDG HDL HN HLZ
  generalize lenE 9223372036854775808 l (a + 1) = LE at HN HLZ
  obtain ⟨r, v, p⟩ := R
  simp only at HDG HDL HN HLZ
  go_wp2_with fail
  refine HDG.out.mono ?_
  rintro e w3 ⟨⟨he, rfl, hi⟩ | ⟨he, rfl⟩, ho⟩
  rotate_left
  · have HEK : Hid (N.1 = r) := Lib.hid (by rw [HN.out, HLZ.out]; exact if_pos he)
    exact post_panic (P := Tryd.prog) (fn := Tryd.f64) rfl ⟨.inr ⟨by rw [HEK.out]; exact he, by rw [HEK.out]⟩, only_trans HO3.out ho⟩
  have HEK : Hid (N.1 = endE l p) := Lib.hid (by rw [HN.out, HLZ.out]; exact if_neg (by simpa using he))
  have hv := HDL.out he
  have HO4 := Lib.hid (only_trans HO3.out ho)
  have H4 := Lib.hid (end_any w3 hi)
  have hng := wrap_neg v hv
  clear hi ho he HDG HDL HLZ HO3 HI3 hv
  obtain ⟨zz, hzz⟩ : ∃ zz, IntKind.i64.wrap (v : Int) = zz := ⟨_, rfl⟩
  rw [hzz] at hng
  go_wp2_with fail
  refine H4.out.mono ?_
  rintro e w4 ⟨⟨he, rfl, hi⟩ | ⟨he, rfl⟩, ho⟩
  rotate_left
  · exact post_panic (P := Tryd.prog) (fn := Tryd.f64) rfl ⟨.inr ⟨by rw [HEK.out]; exact he, by rw [HEK.out]⟩, only_trans HO4.out ho⟩
  have HI5 := Lib.hid hi
  have HO5 := Lib.hid (only_trans HO4.out ho)
  have HE5 : Hid (N.1 = 0) := Lib.hid (HEK.out.trans he)
  clear hi ho he H4
  go_wp2_with fail
  go_ret
  refine ⟨.inl ⟨HE5.out, ?_, ?_⟩, HO5.out⟩
  · rw [HN.out]; rfl
  · rw [HN.out]; exact HI5.out
end
end Go.Proofs.YtglicojojpggmaaDoor
