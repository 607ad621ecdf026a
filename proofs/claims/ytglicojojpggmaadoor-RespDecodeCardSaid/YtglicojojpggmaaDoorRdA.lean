/- The document's reader: lines, numbers, texts, replies without a list. -/
import Derived.Test.YtglicojojpggmaaDoorRText
import Derived.Test.YtglicojojpggmaaDoorNumb
import Derived.Laws.BitsLemmas
import Derived.Laws.Bits64
import Derived.Test.YtglicojojpggmaaDoorList
namespace Go.Proofs.YtglicojojpggmaaDoor
open Go Go.RowKit
section
variable {W w w' : World} {G : Nat} {b : ByteArray} {a most : Nat} {e tx it : Int}
theorem TextQ.no {E k : Int} {s : ByteArray} {p : Nat} {u : ByteArray} {a' : Nat} {t : Int} (h : E = k) (hk : k ≠ 0) (hr : RI w' G b a' k t it) (ho : Only G w w') : TextQ w G b E s p tx it (.returned (.string u)) w' :=
  ⟨⟨u, a', t, rfl, by rw [h]; exact hr, fun h2 => absurd (h.symm.trans h2) hk⟩, ho⟩
set_option maxRecDepth 100000 in
set_option maxHeartbeats 8000000 in
theorem plain_any (w : World) (tx : Nat) (h : RI w G b a 0 (tx : Nat) it) (htx : tx ≤ 1000000000) (hb : b.size ≤ 1000000000) :
    Calls Tryd.prog 77 #[.pointer (some ⟨G, 0, none⟩)] w (TextQ w G b (lineE tx (bl b) a) (cutT (bl b) a ((lnR tx (bl b) a).2 - a)) (a + ((lnR tx (bl b) a).2 - a) + 2) ((tx : Int) - (((lnR tx (bl b) a).2 - a : Nat) : Int)) it) := by
  have H := Lib.hid h
  have hps := h.pos
  have HL := Lib.hid (bl_len b)
  have HLE : Hid (lineE tx (bl b) a = if (lnR tx (bl b) a).1 ≠ 0 then (lnR tx (bl b) a).1 else textE (bl b) a ((lnR tx (bl b) a).2 - a)) := Lib.hid rfl
  obtain ⟨E, hE⟩ : ∃ E, lineE tx (bl b) a = E := ⟨_, rfl⟩
  rw [hE] at HLE ⊢
  obtain ⟨R, hR⟩ : ∃ R, lnR tx (bl b) a = R := ⟨_, rfl⟩
  rw [hR] at HLE ⊢
  unfold lnR at hR
  have HR := Lib.hid hR
  obtain ⟨z0, z1, z2, z3, z4, zf⟩ := h.rows
  clear h hR hE
  go_enter Tryd.func77, Tryd.ntmps77
  go_wp2_with fail
  go_loopw [] (fun W => ∃ p : Nat, a ≤ p ∧ ((p - a ≤ tx ∧ Hid (RI W G b p 0 ((tx : Int) - ((p - a : Nat) : Int)) it) ∧ Hid (lnF ((bl b).length + 1 - p) tx a (bl b) p = R)) ∨ (Hid (∃ t, RI W G b p 131 t it) ∧ Hid (R.1 = 131))) ∧ Hid (Only G w W)) (fun W => b.size - rposOf G W)
  case atStart => exact ⟨a, Nat.le_refl _, .inl ⟨by omega, by rw [Nat.sub_self, Int.natCast_zero, Int.sub_zero]; exact H, HR⟩, Lib.hid (only_drew G w 0)⟩
  case round =>
    clear z0 z1 z2 z3 z4 zf HR H
    obtain ⟨p, hap, ⟨hat, HI, HD⟩ | ⟨HI, HD⟩, HO⟩ := hrel
    rotate_left
    · obtain ⟨t, hi⟩ := HI.out
      have HI2 := Lib.hid hi
      obtain ⟨z0, z1, z2, z3, z4, zf⟩ := hi.rows
      clear hi HI
      have HEK : Hid (E = 131) := Lib.hid (by rw [HLE.out, HD.out]; exact if_pos (show (131 : Int) ≠ 0 by decide))
      go_wp2_with fail
      change bodyPost Tryd.prog Tryd.f77 _ Exit.ret _ _
      go_ret
      exact TextQ.no HEK.out (by decide) HI2.out HO.out
    have hpn := HI.out.pos
    obtain ⟨t0, ht0⟩ : ∃ t0 : Int, (tx : Int) - ((p - a : Nat) : Int) = t0 := ⟨_, rfl⟩
    rw [ht0] at HI
    have HT0 := Lib.hid ht0
    clear ht0
    obtain ⟨z0, z1, z2, z3, z4, zf⟩ := HI.out.rows
    by_cases hp : p < (bl b).length
    rotate_left
    · have HDD : Hid (R = (130, p)) := Lib.hid (by have hd := HD.out; rw [show (bl b).length + 1 - p = 0 + 1 by have := HL.out; omega] at hd; unfold lnF at hd; rw [List.getElem?_eq_none (by omega)] at hd; exact hd.symm)
      have HEK : Hid (E = 130) := Lib.hid (by rw [HLE.out, HDD.out]; exact if_pos (show (130 : Int) ≠ 0 by decide))
      have HN := Lib.hid (next_end wr HI.out (by have := HL.out; omega))
      clear HD HDD
      go_wp2_with fail
      refine HN.out.mono ?_
      rintro en w1 ⟨rfl, hr, ho⟩
      obtain ⟨y0, y1, y2, y3, y4, yf⟩ := hr.rows
      have HR2 := Lib.hid hr
      have HO2 := Lib.hid (only_trans HO.out ho)
      clear hr ho HN
      go_wp2_with fail
      change bodyPost Tryd.prog Tryd.f77 _ Exit.ret _ _
      go_ret
      exact TextQ.no HEK.out (by decide) HR2.out HO2.out
    obtain ⟨x, hx⟩ : ∃ x, (bl b)[p] = x := ⟨_, rfl⟩
    have HN := Lib.hid (next_yes wr HI.out hp)
    rw [hx] at HN
    have hd := HD.out
    rw [show (bl b).length + 1 - p = ((bl b).length - p) + 1 by omega] at hd
    unfold lnF at hd
    rw [List.getElem?_eq_getElem hp, hx] at hd
    simp only at hd
    have H13 : Hid (x.toNat = 13 → (bl b)[p]? = some 13) := Lib.hid (fun h => by rw [List.getElem?_eq_getElem hp, hx]; exact congrArg some (UInt8.toNat_inj.1 (show x.toNat = (13 : UInt8).toNat from h)))
    have hx8 := x.toNat_lt
    generalize x.toNat = y at HN hd hx8 H13
    clear HD hx
    by_cases h13 : y = 13
    · rw [if_pos h13] at hd
      have HDD := Lib.hid hd
      have t1 : ((y : Int) == 13) = true := by simp; omega
      have t2 : decide ((y : Int) = 13) = true := decide_eq_true (by omega)
      have HX := Lib.hid (H13.out h13)
      have hw1 : IntKind.i64.wrap ((p : Int) + 1 - 1) = (p : Int) := by rw [Int.add_sub_cancel]; exact IntWalk.i64_in _ (by omega)
      have hw2 : (p : Int) + 1 - 1 = (p : Int) := by omega
      have b0 : (0 : Int) ≤ (a : Int) := by omega
      have b1 : (a : Int) ≤ (p : Int) := by omega
      have b2 : (p : Int) ≤ (b.size : Int) := by omega
      clear hd h13
      go_wp2_with fail
      refine HN.out.mono ?_
      rintro en w1 ⟨rfl, hr, ho⟩
      have y1 := hr.rows.2.1
      rw [show ((p + 1 : Nat) : Int) = (p : Int) + 1 by omega] at y1
      obtain ⟨y0, _, y2, y3, y4, yf⟩ := hr.rows
      have HR2 := Lib.hid hr
      have HO2 := Lib.hid (only_trans HO.out ho)
      clear hr ho HN
      go_wp2_with fail
      go_quiet (fail)
      generalize nq = q
      obtain ⟨u, hu⟩ : ∃ u, b.extract a p = u := ⟨_, rfl⟩
      rw [hu]
      have HU : Hid (u = cutT (bl b) a (p - a)) := Lib.hid (by rw [← hu, ← extract_cut, Nat.add_sub_cancel' hap])
      have H2 := Lib.hid (want_any (w1.drewN q) 10 (HR2.out.drew q) (by decide))
      clear hu y0 y1 y2 y3 y4 yf
      have HEK : Hid (E = wantE (bl b) 0 (p + 1) 10) := Lib.hid (by
        rw [HLE.out, ← HDD.out, if_neg (by simp)]
        unfold textE
        rw [if_neg (by simp only; omega), show a + (p - a) = p by omega]
        unfold endE wantE
        rw [show expE (bl b) p 13 = 0 by unfold expE; rw [HX.out]; simp, if_neg (by simp)])
      go_wp2_with fail
      refine H2.out.mono ?_
      rintro en w3 ⟨rfl, ⟨a3, hr3, ha3⟩, ho3⟩
      rw [← HEK.out] at hr3 ha3
      have HR3 := Lib.hid hr3
      have HA3 := Lib.hid ha3
      have HO3 := Lib.hid (only_trans HO2.out (only_trans (only_drew G w1 q) ho3))
      clear hr3 ha3 ho3 H2
      go_wp2_with fail
      change bodyPost Tryd.prog Tryd.f77 _ Exit.ret _ _
      go_ret
      refine ⟨⟨u, a3, _, rfl, HR3.out, fun h0 => ⟨?_, ?_, ?_⟩⟩, HO3.out⟩
      · rw [← HDD.out]; exact HU.out
      · rw [← HDD.out]
        have := HA3.out h0
        simp only
        omega
      · rw [← HDD.out]; exact HT0.out.symm
    rw [if_neg h13] at hd
    have t1 : ((y : Int) == 13) = false := by simp; omega
    have t2 : decide ((y : Int) = 13) = false := decide_eq_false (by omega)
    have hw3 : IntKind.i64.wrap (t0 - 1) = t0 - 1 := IntWalk.i64_in _ (by have := HT0.out; omega)
    by_cases h10 : y = 10
    · rw [if_pos h10] at hd
      have HDD := Lib.hid hd
      have t3 : ((y : Int) == 10) = true := by simp; omega
      have t4 : decide ((y : Int) = 10) = true := decide_eq_true (by omega)
      clear hd h13 h10
      go_wp2_with fail
      refine HN.out.mono ?_
      rintro en w1 ⟨rfl, hr, ho⟩
      obtain ⟨y0, y1, y2, y3, y4, yf⟩ := hr.rows
      have HR2 := Lib.hid (hr.txs (t0 - 1))
      have HO2 := Lib.hid (only_trans (only_trans HO.out ho) (only_set G 3 w1 (.int .i64 (t0 - 1))))
      clear hr ho HN
      have HF := Lib.hid (fail_yes _ 131 HR2.out rfl)
      have HR3 := Lib.hid (HR2.out.wr 131)
      have HO3 := Lib.hid (only_trans HO2.out (only_set G 2 (w1.setCell ⟨G, 3, none⟩ (.int .i64 (t0 - 1))) (.int .i64 131)))
      go_wp2_with fail
      refine HF.out.mono ?_
      rintro en w2 ⟨rfl, rfl⟩
      clear HF y0 y1 y2 y3 y4 yf hw3
      generalize (w1.setCell ⟨G, 3, none⟩ (.int .i64 (t0 - 1))).setCell ⟨G, 2, none⟩ (.int .i64 131) = w3 at *
      go_wp2_with fail
      go_roundw
      case rel => exact ⟨p + 1, by omega, .inr ⟨⟨_, HR3.out⟩, Lib.hid (by rw [← HDD.out])⟩, HO3⟩
      case measure => rw [HI.out.place, HR3.out.place]; have := HL.out; omega
    rw [if_neg h10] at hd
    have t3 : ((y : Int) == 10) = false := by simp; omega
    have t4 : decide ((y : Int) = 10) = false := decide_eq_false (by omega)
    by_cases hty : tx ≤ p - a
    · rw [if_pos hty] at hd
      have HDD := Lib.hid hd
      have t5 : decide (t0 - 1 < 0) = true := decide_eq_true (by have := HT0.out; omega)
      clear hd h13 h10 hty
      go_wp2_with fail
      refine HN.out.mono ?_
      rintro en w1 ⟨rfl, hr, ho⟩
      obtain ⟨y0, y1, y2, y3, y4, yf⟩ := hr.rows
      have HR2 := Lib.hid (hr.txs (t0 - 1))
      have HO2 := Lib.hid (only_trans (only_trans HO.out ho) (only_set G 3 w1 (.int .i64 (t0 - 1))))
      clear hr ho HN
      have HF := Lib.hid (fail_yes _ 131 HR2.out rfl)
      have HR3 := Lib.hid (HR2.out.wr 131)
      have HO3 := Lib.hid (only_trans HO2.out (only_set G 2 (w1.setCell ⟨G, 3, none⟩ (.int .i64 (t0 - 1))) (.int .i64 131)))
      go_wp2_with fail
      refine HF.out.mono ?_
      rintro en w2 ⟨rfl, rfl⟩
      clear HF y0 y1 y2 y3 y4 yf hw3
      generalize (w1.setCell ⟨G, 3, none⟩ (.int .i64 (t0 - 1))).setCell ⟨G, 2, none⟩ (.int .i64 131) = w3 at *
      go_wp2_with fail
      go_roundw
      case rel => exact ⟨p + 1, by omega, .inr ⟨⟨_, HR3.out⟩, Lib.hid (by rw [← HDD.out])⟩, HO3⟩
      case measure => rw [HI.out.place, HR3.out.place]; have := HL.out; omega
    rw [if_neg hty] at hd
    have HDD := Lib.hid hd
    have t5 : decide (t0 - 1 < 0) = false := decide_eq_false (by have := HT0.out; omega)
    clear hd h13 h10
    go_wp2_with fail
    refine HN.out.mono ?_
    rintro en w1 ⟨rfl, hr, ho⟩
    obtain ⟨y0, y1, y2, y3, y4, yf⟩ := hr.rows
    have HR2 := Lib.hid (hr.txs (t0 - 1))
    have HO2 := Lib.hid (only_trans (only_trans HO.out ho) (only_set G 3 w1 (.int .i64 (t0 - 1))))
    clear hr ho HN
    go_wp2_with fail
    clear y0 y1 y2 y3 y4 yf hw3
    generalize w1.setCell ⟨G, 3, none⟩ (.int .i64 (t0 - 1)) = w3 at *
    go_roundw
    case rel => exact ⟨p + 1, by omega, .inl ⟨by omega, by rw [show (tx : Int) - ((p + 1 - a : Nat) : Int) = t0 - 1 by have := HT0.out; omega]; exact HR2, by rw [show (bl b).length + 1 - (p + 1) = (bl b).length - p by omega]; exact HDD⟩, HO2⟩
    case measure => rw [HI.out.place, HR2.out.place]; have := HL.out; omega
end
end Go.Proofs.YtglicojojpggmaaDoor
namespace Go.Proofs.YtglicojojpggmaaDoor
open Go Go.RowKit
/-- How a number is taken. -/
def NumQ (w : World) (G : Nat) (b : ByteArray) (E n : Int) (p : Nat) (tx it : Int) (en : Ending) (w' : World) : Prop :=
  (∃ (v : Int) (a' : Nat), en = .returned (.int .i64 v) ∧ RI w' G b a' E tx it ∧ (E = 0 → v = n ∧ a' = p)) ∧ Only G w w'
theorem and_most (k : Nat) (h : k ≤ 9223372036854775807) : bits .and .u64 (k : Int) 9223372036854775807 = (k : Int) := by
  have h1 := bits_mask .u64 63 (by decide) (fun n h0 h1 => by rw [IntKind.wrap_u64]; omega) 63 (by decide) (k : Int) (by omega) (by omega)
  have e : ((2 : Int) ^ 63 - 1) = 9223372036854775807 := by decide
  have e2 : ((2 : Int) ^ 63) = 9223372036854775808 := by decide
  rw [e, e2] at h1
  rw [h1]
  omega
section
variable {W w w' : World} {G : Nat} {b : ByteArray} {a most : Nat} {e tx it : Int}
theorem NumQ.no {E k n v : Int} {p a' : Nat} (h : E = k) (hk : k ≠ 0) (hr : RI w' G b a' k tx it) (ho : Only G w w') : NumQ w G b E n p tx it (.returned (.int .i64 v)) w' :=
  ⟨⟨v, a', rfl, by rw [h]; exact hr, fun h2 => absurd (h.symm.trans h2) hk⟩, ho⟩
set_option maxRecDepth 100000 in
set_option maxHeartbeats 8000000 in
/-- No nought ahead, where a least is asked. -/
theorem rdig_zero (w : World) (most : Nat) (h : RI w G b a 0 tx it) (ha : a < (bl b).length) (h48 : (bl b)[a].toNat = 48) :
    Calls Tryd.prog 43 #[.pointer (some ⟨G, 0, none⟩), .int .u64 0, .int .i64 0, .int .u64 1, .int .u64 most] w fun en w' => en = .returned (.int .u64 0) ∧ (∃ a', RI w' G b a' 131 tx it) ∧ Only G w w' := by
  have HN := Lib.hid (next_yes w h ha)
  rw [show (((bl b)[a].toNat : Nat) : Int) = 48 by rw [h48]; rfl] at HN
  obtain ⟨z0, z1, z2, z3, z4, zf⟩ := h.rows
  clear h h48
  go_enter Tryd.func43, Tryd.ntmps43
  go_wp2_with fail
  refine wp_loop_rounds 1 ?_
  rw [rounds_succ]
  go_wp2_with fail
  refine HN.out.mono ?_
  rintro en w1 ⟨rfl, hr, ho⟩
  obtain ⟨y0, y1, y2, y3, y4, yf⟩ := hr.rows
  have HF := Lib.hid (fail_yes w1 131 hr rfl)
  have HR2 := Lib.hid (hr.wr 131)
  have HO2 := Lib.hid (only_trans ho (only_set G 2 w1 (.int .i64 131)))
  clear hr ho HN
  go_wp2_with fail
  refine HF.out.mono ?_
  rintro en w2 ⟨rfl, rfl⟩
  clear HF y0 y1 y2 y3 y4 yf
  generalize w1.setCell ⟨G, 2, none⟩ (.int .i64 131) = w3 at *
  go_wp2_with fail
  go_ret
  exact ⟨rfl, ⟨_, HR2.out⟩, HO2.out⟩
set_option maxRecDepth 100000 in
set_option maxHeartbeats 8000000 in
theorem rnumber_any (w : World) (h : RI w G b a 0 tx it) (hb : b.size ≤ 1000000000) :
    Calls Tryd.prog 78 #[.pointer (some ⟨G, 0, none⟩)] w (NumQ w G b (numR (bl b) a).1 (numR (bl b) a).2.1 (numR (bl b) a).2.2 tx it) := by
  have H := Lib.hid h
  have hps := h.pos
  have HL := Lib.hid (bl_len b)
  obtain ⟨N, hN⟩ : ∃ N, numR (bl b) a = N := ⟨_, rfl⟩
  rw [hN]
  unfold numR at hN
  by_cases ha : a < (bl b).length
  rotate_left
  · have HP := Lib.hid (next_end w h (by have := HL.out; omega))
    rw [List.getElem?_eq_none (by omega)] at hN
    have HEK : Hid (N.1 = 130) := Lib.hid (by rw [← hN])
    clear h hN
    go_enter Tryd.func78, Tryd.ntmps78
    go_wp2_with fail
    refine HP.out.mono ?_
    rintro en w1 ⟨rfl, hr, ho⟩
    obtain ⟨y0, y1, y2, y3, y4, yf⟩ := hr.rows
    have HR2 := Lib.hid hr
    have HO2 := Lib.hid ho
    clear hr ho HP
    go_wp2_with fail
    go_ret
    exact NumQ.no HEK.out (by decide) HR2.out HO2.out
  obtain ⟨x, hx⟩ : ∃ x, (bl b)[a] = x := ⟨_, rfl⟩
  have HP := Lib.hid (next_yes w h ha)
  rw [hx] at HP
  rw [List.getElem?_eq_getElem ha, hx] at hN
  simp only at hN
  have hx8 := x.toNat_lt
  have HXA : Hid ((bl b)[a]? = some x) := Lib.hid (by rw [List.getElem?_eq_getElem ha, hx])
  obtain ⟨y, hy⟩ : ∃ y, x.toNat = y := ⟨_, rfl⟩
  rw [hy] at HP hN hx8
  have HY := Lib.hid hy
  clear hy hx
  by_cases h45 : y ≠ 45
  · rw [if_pos h45] at hN
    have t1 : ((y : Int) == 45) = false := by simp; omega
    have t2 : decide ((y : Int) = 45) = false := decide_eq_false (by omega)
    have HN := Lib.hid hN.symm
    have hw1 : IntKind.u64.wrap (y : Int) = (y : Int) := by rw [IntKind.wrap_u64]; omega
    have HDX : Hid (digR 9223372036854775807 (bl b) a = if y < 48 ∨ 57 < y then (131, 0, a) else digF ((bl b).length + 1 - (a + 1)) 9223372036854775807 a (bl b) (a + 1) (y - 48)) := Lib.hid (by
      unfold digR
      rw [show (bl b).length + 1 - a = ((bl b).length - a) + 1 by omega]
      rw [digF, HXA.out]
      simp only [HY.out]
      by_cases hdig : y < 48 ∨ 57 < y
      · rw [if_pos hdig, if_pos hdig]; simp
      · rw [if_neg hdig, if_neg hdig, if_neg (by omega), if_neg (by omega), Nat.zero_mul, Nat.zero_add, show (bl b).length + 1 - (a + 1) = (bl b).length - a by omega])
    clear h hN h45
    by_cases hdig : y < 48 ∨ 57 < y
    · have hd := HDX.out
      rw [if_pos hdig] at hd
      have HEK : Hid (N.1 = 131) := Lib.hid (by rw [HN.out]; unfold lenE; rw [hd]; rfl)
      clear hd HDX HN
      rcases hdig with h1 | h1
      · have d1 : decide ((y : Int) < 48) = true := decide_eq_true (by omega)
        go_enter Tryd.func78, Tryd.ntmps78
        go_wp2_with fail
        refine HP.out.mono ?_
        rintro en w1 ⟨rfl, hr, ho⟩
        obtain ⟨y0, y1, y2, y3, y4, yf⟩ := hr.rows
        have HF := Lib.hid (fail_yes w1 131 hr rfl)
        have HR2 := Lib.hid (hr.wr 131)
        have HO2 := Lib.hid (only_trans ho (only_set G 2 w1 (.int .i64 131)))
        clear hr ho HP
        go_wp2_with fail
        refine HF.out.mono ?_
        rintro en w2 ⟨rfl, rfl⟩
        clear HF y0 y1 y2 y3 y4 yf
        generalize w1.setCell ⟨G, 2, none⟩ (.int .i64 131) = w3 at *
        go_wp2_with fail
        go_ret
        exact NumQ.no HEK.out (by decide) HR2.out HO2.out
      · have d1 : decide ((y : Int) < 48) = false := decide_eq_false (by omega)
        have d2 : decide ((57 : Int) < (y : Int)) = true := decide_eq_true (by omega)
        go_enter Tryd.func78, Tryd.ntmps78
        go_wp2_with fail
        refine HP.out.mono ?_
        rintro en w1 ⟨rfl, hr, ho⟩
        obtain ⟨y0, y1, y2, y3, y4, yf⟩ := hr.rows
        have HF := Lib.hid (fail_yes w1 131 hr rfl)
        have HR2 := Lib.hid (hr.wr 131)
        have HO2 := Lib.hid (only_trans ho (only_set G 2 w1 (.int .i64 131)))
        clear hr ho HP
        go_wp2_with fail
        refine HF.out.mono ?_
        rintro en w2 ⟨rfl, rfl⟩
        clear HF y0 y1 y2 y3 y4 yf
        generalize w1.setCell ⟨G, 2, none⟩ (.int .i64 131) = w3 at *
        go_wp2_with fail
        go_ret
        exact NumQ.no HEK.out (by decide) HR2.out HO2.out
    have hd := HDX.out
    rw [if_neg hdig] at hd
    obtain ⟨d, rfl⟩ : ∃ d, y = d + 48 := ⟨y - 48, by omega⟩
    rw [Nat.add_sub_cancel] at hd
    have HDD := Lib.hid hd
    have d1 : decide ((d : Int) + 48 < 48) = false := decide_eq_false (by omega)
    have d2 : decide ((57 : Int) < (d : Int) + 48) = false := decide_eq_false (by omega)
    have d3 : decide (57 < d + 48) = false := decide_eq_false (by omega)
    have d4 : decide (d + 48 < 48) = false := decide_eq_false (by omega)
    have d5 : ¬ (d : Int) < 0 := by omega
    have d6 : ¬ (9 : Int) < (d : Int) := by omega
    have d7 : ¬ 9 < d := by omega
    have w1h : IntKind.u64.wrap ((d : Int) + 48) = (d : Int) + 48 := by rw [IntKind.wrap_u64]; omega
    have w2h : IntKind.u64.wrap (d : Int) = (d : Int) := by rw [IntKind.wrap_u64]; omega
    have HDL := Lib.hid (digR_le (most := 9223372036854775807) (l := bl b) (a := a))
    have HDQ := Lib.hid (fun (w1 : World) (hr : RI w1 G b (a + 1) 0 tx it) => rdigits_any w1 d (a + 1) a 0 9223372036854775807 hr (by decide) (by omega) (by omega) (.inl rfl) (fun e => absurd e (by omega)))
    clear hd HDX hdig
    go_enter Tryd.func78, Tryd.ntmps78
    go_wp2_with fail
    refine HP.out.mono ?_
    rintro en w1 ⟨rfl, hr, ho⟩
    obtain ⟨y0, y1, y2, y3, y4, yf⟩ := hr.rows
    have HQ := Lib.hid (HDQ.out w1 hr)
    rw [show ((a + 1 - a : Nat) : Int) = 1 by omega] at HQ
    clear HDQ
    have HO2 := Lib.hid ho
    clear hr ho HP
    go_wp2_with fail
    refine HQ.out.mono ?_
    rintro en w2 ⟨⟨k, a', rfl, hk, hr2, hres⟩, ho2⟩
    rw [HDD.out.symm] at hr2 hres
    have HR2 := Lib.hid hr2
    have HRS := Lib.hid hres
    have HO3 := Lib.hid (only_trans HO2.out ho2)
    clear hr2 hres ho2 HQ
    have hand := and_most k hk
    have hwk : IntKind.i64.wrap (k : Int) = (k : Int) := IntWalk.i64_in _ (by omega)
    go_wp2_with fail
    go_ret
    refine ⟨⟨k, a', rfl, ?_, fun h0 => ?_⟩, HO3.out⟩
    · rw [HN.out]; exact HR2.out
    · rw [HN.out] at h0 ⊢
      have := HRS.out h0
      refine ⟨?_, this.2⟩
      rw [this.1]
  have h45' : y = 45 := by omega
  subst h45'
  rw [if_neg (by omega)] at hN
  by_cases ha2 : (bl b)[a + 1]? = some 48
  · have hl2 : a + 1 < (bl b).length := by
      rcases Nat.lt_or_ge (a + 1) (bl b).length with h' | h'
      · exact h'
      · rw [List.getElem?_eq_none h'] at ha2; cases ha2
    rw [ha2] at hN
    simp only at hN
    rw [if_pos (by decide)] at hN
    have HEK : Hid (N.1 = 131) := Lib.hid (by rw [← hN])
    have h48 : (bl b)[a + 1].toNat = 48 := by
      rw [List.getElem?_eq_getElem hl2] at ha2
      injection ha2 with e
      rw [e]
      rfl
    have HDQ := Lib.hid (fun (w1 : World) (hr : RI w1 G b (a + 1) 0 tx it) => rdig_zero w1 9223372036854775808 hr hl2 h48)
    clear h hN ha2 h48 h45
    go_enter Tryd.func78, Tryd.ntmps78
    go_wp2_with fail
    refine HP.out.mono ?_
    rintro en w1 ⟨rfl, hr, ho⟩
    obtain ⟨y0, y1, y2, y3, y4, yf⟩ := hr.rows
    have HQ := Lib.hid (HDQ.out w1 hr)
    clear HDQ
    have HO2 := Lib.hid ho
    clear hr ho HP
    go_wp2_with fail
    refine HQ.out.mono ?_
    rintro en w2 ⟨rfl, ⟨a', hr2⟩, ho2⟩
    have HR2 := Lib.hid hr2
    have HO3 := Lib.hid (only_trans HO2.out ho2)
    clear hr2 ho2 HQ
    go_wp2_with fail
    go_ret
    exact NumQ.no HEK.out (by decide) HR2.out HO3.out
  have hN2 : N = (lenE 9223372036854775808 (bl b) (a + 1), -(((digR 9223372036854775808 (bl b) (a + 1)).2.1 : Nat) : Int), (digR 9223372036854775808 (bl b) (a + 1)).2.2 + 2) ∨ (N.1 = 130 ∧ (bl b)[a + 1]? = none) := by
    rw [← hN]
    cases h1 : (bl b)[a + 1]? with
    | none => exact .inr ⟨rfl, rfl⟩
    | some x1 =>
      simp only
      have : ¬ x1.toNat = 48 := fun e => ha2 (by rw [h1]; exact congrArg some (UInt8.toNat_inj.1 (show x1.toNat = (48 : UInt8).toNat from e)))
      rw [if_neg this]
      exact .inl rfl
  have HE : Hid (N.1 = lenE 9223372036854775808 (bl b) (a + 1)) := Lib.hid (by
    rcases hN2 with h1 | ⟨h1, h2⟩
    · rw [h1]
    · rw [h1]
      have hge : (bl b).length ≤ a + 1 := by
        rcases Nat.lt_or_ge (a + 1) (bl b).length with h' | h'
        · rw [List.getElem?_eq_getElem h'] at h2; cases h2
        · exact h'
      have : digR 9223372036854775808 (bl b) (a + 1) = (130, 0, a + 1) := by
        unfold digR
        rw [show (bl b).length + 1 - (a + 1) = 0 + 1 by omega, digF, h2]
      unfold lenE
      rw [this]
      rfl)
  have HRS0 : Hid (N.1 = 0 → N.2.1 = -(((digR 9223372036854775808 (bl b) (a + 1)).2.1 : Nat) : Int) ∧ N.2.2 = (digR 9223372036854775808 (bl b) (a + 1)).2.2 + 2) := Lib.hid (fun h0 => by
    rcases hN2 with h1 | ⟨h1, _⟩
    · rw [h1]; exact ⟨rfl, rfl⟩
    · rw [h1] at h0; cases h0)
  have HDQ := Lib.hid (fun (w1 : World) (hr : RI w1 G b (a + 1) 0 tx it) => rdigits_any w1 0 (a + 1) (a + 1) 1 9223372036854775808 hr (by decide) (by omega) (by omega) (.inr rfl) (fun _ => .inr ha2))
  clear h hN ha2 hN2 h45
  go_enter Tryd.func78, Tryd.ntmps78
  go_wp2_with fail
  refine HP.out.mono ?_
  rintro en w1 ⟨rfl, hr, ho⟩
  obtain ⟨y0, y1, y2, y3, y4, yf⟩ := hr.rows
  have HQ := Lib.hid (HDQ.out w1 hr)
  rw [show ((a + 1 - (a + 1) : Nat) : Int) = 0 by omega] at HQ
  clear HDQ
  have HO2 := Lib.hid ho
  clear hr ho HP
  go_wp2_with fail
  refine HQ.out.mono ?_
  rintro en w2 ⟨⟨k, a', rfl, hk, hr2, hres⟩, ho2⟩
  rw [show digF ((bl b).length + 1 - (a + 1)) 9223372036854775808 (a + 1) (bl b) (a + 1) 0 = digR 9223372036854775808 (bl b) (a + 1) from rfl, lenE_eq, ← HE.out] at hr2
  rw [show digF ((bl b).length + 1 - (a + 1)) 9223372036854775808 (a + 1) (bl b) (a + 1) 0 = digR 9223372036854775808 (bl b) (a + 1) from rfl, lenE_eq, ← HE.out] at hres
  have HR2 := Lib.hid hr2
  have HRS := Lib.hid hres
  have HO3 := Lib.hid (only_trans HO2.out ho2)
  clear hr2 hres ho2 HQ
  by_cases hk0 : k = 0
  · subst hk0
    go_wp2_with fail
    go_ret
    refine ⟨⟨0, a', rfl, HR2.out, fun h0 => ?_⟩, HO3.out⟩
    have h1 := HRS0.out h0
    have h2 := HRS.out h0
    rw [h1.1, h1.2, ← h2.1]
    exact ⟨by simp, h2.2⟩
  have n1 : ((k : Int) == 0) = false := by simp; omega
  have n2 : decide ((k : Int) = 0) = false := decide_eq_false (by omega)
  have w1h : IntKind.u64.wrap ((k : Int) - 1) = (k : Int) - 1 := by rw [IntKind.wrap_u64]; omega
  have w2h : IntKind.i64.wrap ((k : Int) - 1) = (k : Int) - 1 := IntWalk.i64_in _ (by omega)
  have w3h : IntKind.i64.wrap (-((k : Int) - 1)) = -((k : Int) - 1) := IntWalk.i64_in _ (by omega)
  have w4h : IntKind.i64.wrap (-((k : Int) - 1) - 1) = -((k : Int) - 1) - 1 := IntWalk.i64_in _ (by omega)
  go_wp2_with fail
  go_ret
  refine ⟨⟨_, a', rfl, HR2.out, fun h0 => ?_⟩, HO3.out⟩
  have h1 := HRS0.out h0
  have h2 := HRS.out h0
  rw [h1.1, h1.2, ← h2.1]
  exact ⟨by omega, h2.2⟩
end
end Go.Proofs.YtglicojojpggmaaDoor
namespace Go.Proofs.YtglicojojpggmaaDoor
open Go Go.RowKit
/-- How the document's reader takes a reply. -/
def RRepQ (w : World) (G : Nat) (b : ByteArray) (D : DR) (en : Ending) (w' : World) : Prop :=
  (∃ p : Got, en = .returned (.agg (rpV p.r p.A p.c)) ∧ (D.e = 0 → p.r = D.r ∧ RpK (fun b => w.heap.size ≤ b) w' p.r p.A p.c) ∧ ∃ (a' : Nat) (t i : Int), RI w' G b a' D.e t i ∧ (D.e = 0 → a' = D.a ∧ t = (D.tx : Nat) ∧ i = (D.it : Nat))) ∧ Only G w w'
theorem res58 (tmps : Array Value) (w : World) (g : Nat) (cs : Array Value) (hp : tmps.getD 4 undef = .pointer (some ⟨g, 0, none⟩)) (hg : w.heap[g]? = some (.cells cs 41 (0, 0))) (hs : cs.size = 4 := by rfl) :
    (results Tryd.f58 tmps).run Tryd.prog w = .ok (.agg cs) w :=
  results_cell_row (P := Tryd.prog) (p := 4) (ty := 41) Tryd.results58 tmps w g 41 cs (0, 0) _ hp hg Tryd.underlying41 rfl (by rw [size41, hs])
theorem res79 (tmps : Array Value) (w : World) (g : Nat) (cs : Array Value) (hp : tmps.getD 4 undef = .pointer (some ⟨g, 0, none⟩)) (hg : w.heap[g]? = some (.cells cs 41 (0, 0))) (hs : cs.size = 4 := by rfl) :
    (results Tryd.f79 tmps).run Tryd.prog w = .ok (.agg cs) w :=
  results_cell_row (P := Tryd.prog) (p := 4) (ty := 41) Tryd.results79 tmps w g 41 cs (0, 0) _ hp hg Tryd.underlying41 rfl (by rw [size41, hs])
/-- The variables of a reading: the result. -/
structure RW (w W : World) (B G : Nat) (b : ByteArray) (a : Nat) (e tx it : Int) : Prop where
  rv : W.heap[B]? = some (.cells zero41 41 (0, 0))
  ri : RI W G b a e tx it
  only : Only G w W
  gb : G < B
  bz : B = w.heap.size
section
variable {w W W' : World} {B G : Nat} {b : ByteArray} {a a' : Nat} {e tx it e' tx' it' : Int}
theorem RW.new (h : RI w G b a e tx it) : RW w (w.alloc (.cells zero41 41)) w.heap.size G b a e tx it :=
  ⟨heap_alloc_new w _, h.below (below_new w _), only_below2 (below_new w _), lt_of_block h.z, rfl⟩
theorem RW.next (h : RW w W B G b a e tx it) (ho : Only G W W') (hi : RI W' G b a' e' tx' it') : RW w W' B G b a' e' tx' it' :=
  ⟨(ho.block _ (lt_of_block h.rv) (fun e => by injection e with e; have := h.gb; omega)).trans h.rv, hi, only_trans h.only ho, h.gb, h.bz⟩
theorem RW.drew (h : RW w W B G b a e tx it) (q : Nat) : RW w (W.drewN q) B G b a e tx it := h.next (only_drew G W q) (h.ri.drew q)
/-- The result is laid. -/
theorem RW.ret (h : RW w W B G b a e tx it) (cs : Array Value) : (W.setRow B cs).heap[B]? = some (.cells cs 41 (0, 0)) ∧ RI (W.setRow B cs) G b a e tx it ∧ Only G w (W.setRow B cs) := by
  have hg := h.gb
  have hz := h.bz
  have so : ∀ b, b ≠ B → (W.setRow B cs).heap[b]? = W.heap[b]? := fun b hb => setRow_other _ _ _ _ hb
  exact ⟨setRow_heap _ _ _ _ _ _ h.rv, ⟨(so _ (by omega)).trans h.ri.z, h.ri.pos, h.ri.max⟩, h.only.os, h.only.tape, h.only.output, by simpa using h.only.size, fun k hk hn => (so k (by omega)).trans (h.only.block k hk hn)⟩
theorem RRepQ.no {D : DR} {en : Ending} (p : Got) (he : D.e ≠ 0) (h : en = .returned (.agg (rpV p.r p.A p.c))) (hr : ∃ a' t i, RI W' G b a' D.e t i) (ho : Only G w W') : RRepQ w G b D en W' := by
  obtain ⟨a', t, i, hr⟩ := hr
  exact ⟨⟨p, h, fun h0 => absurd h0 he, a', t, i, hr, fun h0 => absurd h0 he⟩, ho⟩
end
section
variable {G : Nat} {b : ByteArray} {a : Nat}
set_option maxRecDepth 100000 in
set_option maxHeartbeats 8000000 in
theorem rrep_plus (w : World) (lst : Option (List UInt8 → Nat → Nat → Nat → DR)) (d : Int) (tx it : Nat) (h : RI w G b a 0 (tx : Nat) (it : Nat)) (htx : tx ≤ 1000000000) (hb : b.size ≤ 1000000000) (ha : a < (bl b).length) (hx : (bl b)[a].toNat = 43) :
    Calls Tryd.prog 58 #[.pointer (some ⟨G, 0, none⟩), .int .i64 d] w (RRepQ w G b (repS lst (bl b) a tx it)) := by
  obtain ⟨D, hD⟩ : ∃ D, repS lst (bl b) a tx it = D := ⟨_, rfl⟩
  rw [hD]
  unfold repS at hD
  rw [List.getElem?_eq_getElem ha] at hD
  simp only at hD
  rw [if_pos hx] at hD
  have HD := Lib.hid hD.symm
  have HRW := Lib.hid (RW.new h)
  have HP : Hid (∀ W, RI W G b a 0 (tx : Nat) (it : Nat) → Calls Tryd.prog 67 #[.pointer (some ⟨G, 0, none⟩)] W fun e w' => e = .returned (.int .u8 43) ∧ RI w' G b (a + 1) 0 (tx : Nat) (it : Nat) ∧ Only G W w') := Lib.hid (fun W hW => by have := next_yes W hW ha; rw [hx] at this; exact this)
  have hpos := h.pos
  have hln := bl_len b
  clear hD hx h
  go_enter Tryd.func58, Tryd.ntmps58
  go_upto_region 1 with (fail)
  generalize w.alloc (.cells zero41 41) = W at *
  generalize hB : w.heap.size = B at *
  have HB := Lib.hid hB
  clear hB
  have HPW := Lib.hid (HP.out W HRW.out.ri)
  go_wp2_with fail
  refine HPW.out.mono ?_
  rintro e w1 ⟨rfl, hr1, ho1⟩
  have HV1 := Lib.hid (HRW.out.next ho1 hr1)
  clear hr1 ho1 HPW HP HRW
  obtain ⟨z0, z1, z2, z3, z4, zf⟩ := HV1.out.ri.rows
  have HL := Lib.hid (plain_any w1 tx HV1.out.ri htx hb)
  go_wp2_with fail
  refine HL.out.mono ?_
  rintro e w3 ⟨⟨u, a', t, rfl, hr3, hres⟩, ho3⟩
  have HV3 := Lib.hid (HV1.out.next ho3 hr3)
  have HRS := Lib.hid hres
  have HZ := Lib.hid HV3.out.rv
  clear hr3 ho3 hres HL z0 z1 z2 z3 z4 zf HV1
  go_wp2_with (refine wpList_store_row rfl 41 (.tmp 4) (.tmp 20) rfl B (rpV (.mk 1 0 u []) none 0) rfl rfl 41 zero41 HZ.out size41 rfl (by simp [Value.oneCell']) ?_)
  have hr := HV3.out.ret (rpV (.mk 1 0 u []) none 0)
  have hen : D.e = lineE tx (bl b) (a + 1) := by rw [HD.out]
  refine bodyPost_ret (v := .agg (rpV (.mk 1 0 u []) none 0)) (res58 _ _ B _ rfl hr.1) rfl ⟨⟨⟨(.mk 1 0 u []), none, 0⟩, rfl, fun h0 => ?_, a', t, _, by rw [hen]; exact hr.2.1, fun h0 => ?_⟩, hr.2.2⟩
  · have hc := HRS.out (hen.symm.trans h0)
    have hcz := cutT_size (bl b) (a + 1) ((lnR tx (bl b) (a + 1)).2 - (a + 1))
    rw [← hc.1] at hcz
    refine ⟨by rw [HD.out, ← hc.1], ⟨by show _ ≤ (0 : Int); decide, by show (0 : Int) ≤ _; decide, by show _ ≤ (1 : Int); decide, by show (1 : Int) ≤ _; decide, by show u.size ≤ _; omega, Nat.zero_le _⟩, fun _ => rfl, Nat.zero_le _, by rw [show Rp.kids _ = [] from rfl, RpL]; trivial⟩
  · have hc := HRS.out (hen.symm.trans h0)
    have hlz := lnF_le ((bl b).length + 1 - (a + 1)) (a + 1) (show lnF ((bl b).length + 1 - (a + 1)) tx (a + 1) (bl b) (a + 1) = (0, (lnR tx (bl b) (a + 1)).2) from Prod.ext (lineE_zero (hen.symm.trans h0)) rfl)
    have hk := hlz.2.2 (Nat.le_refl _) (by omega)
    rw [HD.out]
    exact ⟨hc.2.1, by rw [hc.2.2]; show _ = (((tx - _ : Nat)) : Int); omega, rfl⟩
set_option maxRecDepth 100000 in
set_option maxHeartbeats 8000000 in
theorem rrep_minus (w : World) (lst : Option (List UInt8 → Nat → Nat → Nat → DR)) (d : Int) (tx it : Nat) (h : RI w G b a 0 (tx : Nat) (it : Nat)) (htx : tx ≤ 1000000000) (hb : b.size ≤ 1000000000) (ha : a < (bl b).length) (hx : (bl b)[a].toNat = 45) :
    Calls Tryd.prog 58 #[.pointer (some ⟨G, 0, none⟩), .int .i64 d] w (RRepQ w G b (repS lst (bl b) a tx it)) := by
  obtain ⟨D, hD⟩ : ∃ D, repS lst (bl b) a tx it = D := ⟨_, rfl⟩
  rw [hD]
  unfold repS at hD
  rw [List.getElem?_eq_getElem ha] at hD
  simp only at hD
  rw [if_neg (by omega), if_pos hx] at hD
  have HD := Lib.hid hD.symm
  have HRW := Lib.hid (RW.new h)
  have HP : Hid (∀ W, RI W G b a 0 (tx : Nat) (it : Nat) → Calls Tryd.prog 67 #[.pointer (some ⟨G, 0, none⟩)] W fun e w' => e = .returned (.int .u8 45) ∧ RI w' G b (a + 1) 0 (tx : Nat) (it : Nat) ∧ Only G W w') := Lib.hid (fun W hW => by have := next_yes W hW ha; rw [hx] at this; exact this)
  have hpos := h.pos
  have hln := bl_len b
  clear hD hx h
  go_enter Tryd.func58, Tryd.ntmps58
  go_upto_region 1 with (fail)
  generalize w.alloc (.cells zero41 41) = W at *
  generalize hB : w.heap.size = B at *
  have HB := Lib.hid hB
  clear hB
  have HPW := Lib.hid (HP.out W HRW.out.ri)
  go_wp2_with fail
  refine HPW.out.mono ?_
  rintro e w1 ⟨rfl, hr1, ho1⟩
  have HV1 := Lib.hid (HRW.out.next ho1 hr1)
  clear hr1 ho1 HPW HP HRW
  obtain ⟨z0, z1, z2, z3, z4, zf⟩ := HV1.out.ri.rows
  have HL := Lib.hid (plain_any w1 tx HV1.out.ri htx hb)
  go_wp2_with fail
  refine HL.out.mono ?_
  rintro e w3 ⟨⟨u, a', t, rfl, hr3, hres⟩, ho3⟩
  have HV3 := Lib.hid (HV1.out.next ho3 hr3)
  have HRS := Lib.hid hres
  have HZ := Lib.hid HV3.out.rv
  clear hr3 ho3 hres HL z0 z1 z2 z3 z4 zf HV1
  go_wp2_with (refine wpList_store_row rfl 41 (.tmp 4) (.tmp 25) rfl B (rpV (.mk 2 0 u []) none 0) rfl rfl 41 zero41 HZ.out size41 rfl (by simp [Value.oneCell']) ?_)
  have hr := HV3.out.ret (rpV (.mk 2 0 u []) none 0)
  have hen : D.e = lineE tx (bl b) (a + 1) := by rw [HD.out]
  refine bodyPost_ret (v := .agg (rpV (.mk 2 0 u []) none 0)) (res58 _ _ B _ rfl hr.1) rfl ⟨⟨⟨(.mk 2 0 u []), none, 0⟩, rfl, fun h0 => ?_, a', t, _, by rw [hen]; exact hr.2.1, fun h0 => ?_⟩, hr.2.2⟩
  · have hc := HRS.out (hen.symm.trans h0)
    have hcz := cutT_size (bl b) (a + 1) ((lnR tx (bl b) (a + 1)).2 - (a + 1))
    rw [← hc.1] at hcz
    refine ⟨by rw [HD.out, ← hc.1], ⟨by show _ ≤ (0 : Int); decide, by show (0 : Int) ≤ _; decide, by show _ ≤ (2 : Int); decide, by show (2 : Int) ≤ _; decide, by show u.size ≤ _; omega, Nat.zero_le _⟩, fun _ => rfl, Nat.zero_le _, by rw [show Rp.kids _ = [] from rfl, RpL]; trivial⟩
  · have hc := HRS.out (hen.symm.trans h0)
    have hlz := lnF_le ((bl b).length + 1 - (a + 1)) (a + 1) (show lnF ((bl b).length + 1 - (a + 1)) tx (a + 1) (bl b) (a + 1) = (0, (lnR tx (bl b) (a + 1)).2) from Prod.ext (lineE_zero (hen.symm.trans h0)) rfl)
    have hk := hlz.2.2 (Nat.le_refl _) (by omega)
    rw [HD.out]
    exact ⟨hc.2.1, by rw [hc.2.2]; show _ = (((tx - _ : Nat)) : Int); omega, rfl⟩
set_option maxRecDepth 100000 in
set_option maxHeartbeats 8000000 in
theorem rrep_num (w : World) (lst : Option (List UInt8 → Nat → Nat → Nat → DR)) (d : Int) (tx it : Nat) (h : RI w G b a 0 (tx : Nat) (it : Nat)) (htx : tx ≤ 1000000000) (hb : b.size ≤ 1000000000) (ha : a < (bl b).length) (hx : (bl b)[a].toNat = 58) :
    Calls Tryd.prog 58 #[.pointer (some ⟨G, 0, none⟩), .int .i64 d] w (RRepQ w G b (repS lst (bl b) a tx it)) := by
  obtain ⟨D, hD⟩ : ∃ D, repS lst (bl b) a tx it = D := ⟨_, rfl⟩
  rw [hD]
  unfold repS at hD
  rw [List.getElem?_eq_getElem ha] at hD
  simp only at hD
  rw [if_neg (by omega), if_neg (by omega), if_pos hx] at hD
  have HD := Lib.hid hD.symm
  have HRW := Lib.hid (RW.new h)
  have HP : Hid (∀ W, RI W G b a 0 (tx : Nat) (it : Nat) → Calls Tryd.prog 67 #[.pointer (some ⟨G, 0, none⟩)] W fun e w' => e = .returned (.int .u8 58) ∧ RI w' G b (a + 1) 0 (tx : Nat) (it : Nat) ∧ Only G W w') := Lib.hid (fun W hW => by have := next_yes W hW ha; rw [hx] at this; exact this)
  have hpos := h.pos
  have hln := bl_len b
  clear hD hx h
  go_enter Tryd.func58, Tryd.ntmps58
  go_upto_region 1 with (fail)
  generalize w.alloc (.cells zero41 41) = W at *
  generalize hB : w.heap.size = B at *
  have HB := Lib.hid hB
  clear hB
  have HPW := Lib.hid (HP.out W HRW.out.ri)
  go_wp2_with fail
  refine HPW.out.mono ?_
  rintro e w1 ⟨rfl, hr1, ho1⟩
  have HV1 := Lib.hid (HRW.out.next ho1 hr1)
  clear hr1 ho1 HPW HP HRW
  obtain ⟨z0, z1, z2, z3, z4, zf⟩ := HV1.out.ri.rows
  have HL := Lib.hid (rnumber_any w1 HV1.out.ri hb)
  go_wp2_with fail
  refine HL.out.mono ?_
  rintro e w3 ⟨⟨v, a', rfl, hr3, hres⟩, ho3⟩
  have HV3 := Lib.hid (HV1.out.next ho3 hr3)
  have HRS := Lib.hid hres
  have HZ := Lib.hid HV3.out.rv
  clear hr3 ho3 hres HL z0 z1 z2 z3 z4 zf HV1
  go_wp2_with (refine wpList_store_row rfl 41 (.tmp 4) (.tmp 30) rfl B (rpV (.mk 3 v ⟨#[]⟩ []) none 0) rfl rfl 41 zero41 HZ.out size41 rfl (by simp [Value.oneCell']) ?_)
  have hr := HV3.out.ret (rpV (.mk 3 v ⟨#[]⟩ []) none 0)
  have hen : D.e = (numR (bl b) (a + 1)).1 := by rw [HD.out]
  refine bodyPost_ret (v := .agg (rpV (.mk 3 v ⟨#[]⟩ []) none 0)) (res58 _ _ B _ rfl hr.1) rfl ⟨⟨⟨(.mk 3 v ⟨#[]⟩ []), none, 0⟩, rfl, fun h0 => ?_, a', _, _, by rw [hen]; exact hr.2.1, fun h0 => ?_⟩, hr.2.2⟩
  · have hc := HRS.out (hen.symm.trans h0)
    have hnb := numR_fits (hen.symm.trans h0)
    rw [← hc.1] at hnb
    refine ⟨by rw [HD.out, ← hc.1], ⟨hnb.1, hnb.2, by show _ ≤ (3 : Int); decide, by show (3 : Int) ≤ _; decide, by show (0 : Nat) ≤ _; decide, Nat.zero_le _⟩, fun _ => rfl, Nat.zero_le _, by rw [show Rp.kids _ = [] from rfl, RpL]; trivial⟩
  · have hc := HRS.out (hen.symm.trans h0)
    rw [HD.out]
    exact ⟨hc.2, rfl, rfl⟩
set_option maxRecDepth 100000 in
set_option maxHeartbeats 8000000 in
theorem rrep_none (w : World) (lst : Option (List UInt8 → Nat → Nat → Nat → DR)) (d : Int) (tx it : Nat) (h : RI w G b a 0 (tx : Nat) (it : Nat)) (ha : ¬ a < (bl b).length) :
    Calls Tryd.prog 58 #[.pointer (some ⟨G, 0, none⟩), .int .i64 d] w (RRepQ w G b (repS lst (bl b) a tx it)) := by
  obtain ⟨D, hD⟩ : ∃ D, repS lst (bl b) a tx it = D := ⟨_, rfl⟩
  rw [hD]
  unfold repS at hD
  rw [List.getElem?_eq_none (by omega)] at hD
  have HD := Lib.hid hD.symm
  have HRW := Lib.hid (RW.new h)
  have hln := bl_len b
  have HP : Hid (∀ W, RI W G b a 0 (tx : Nat) (it : Nat) → Calls Tryd.prog 67 #[.pointer (some ⟨G, 0, none⟩)] W fun e w' => e = .returned (.int .u8 0) ∧ RI w' G b a 130 (tx : Nat) (it : Nat) ∧ Only G W w') := Lib.hid (fun W hW => next_end W hW (by omega))
  clear hD h
  go_enter Tryd.func58, Tryd.ntmps58
  go_upto_region 1 with (fail)
  generalize w.alloc (.cells zero41 41) = W at *
  generalize hB : w.heap.size = B at *
  have HB := Lib.hid hB
  clear hB
  have HPW := Lib.hid (HP.out W HRW.out.ri)
  go_wp2_with fail
  refine HPW.out.mono ?_
  rintro e w1 ⟨rfl, hr1, ho1⟩
  have HV1 := Lib.hid (HRW.out.next ho1 hr1)
  clear hr1 ho1 HPW HP HRW
  obtain ⟨z0, z1, z2, z3, z4, zf⟩ := HV1.out.ri.rows
  have HZ := Lib.hid HV1.out.rv
  go_wp2_with (refine wpList_store_row rfl 41 (.tmp 4) (.tmp 14) rfl B (rpV noR none 0) rfl rfl 41 zero41 HZ.out size41 rfl (by simp [Value.oneCell']) ?_)
  have hr := HV1.out.ret (rpV noR none 0)
  have hen : D.e = 130 := by rw [HD.out]; rfl
  exact bodyPost_ret (v := .agg (rpV noR none 0)) (res58 _ _ B _ rfl hr.1) rfl (RRepQ.no ⟨noR, none, 0⟩ (by rw [hen]; decide) rfl ⟨_, _, _, by rw [hen]; exact hr.2.1⟩ hr.2.2)
set_option maxRecDepth 100000 in
set_option maxHeartbeats 8000000 in
theorem rrep_bad (w : World) (lst : Option (List UInt8 → Nat → Nat → Nat → DR)) (d : Int) (tx it : Nat) (h : RI w G b a 0 (tx : Nat) (it : Nat)) (htx : tx ≤ 1000000000) (hb : b.size ≤ 1000000000) (ha : a < (bl b).length) (hx : (bl b)[a].toNat ≠ 43 ∧ (bl b)[a].toNat ≠ 45 ∧ (bl b)[a].toNat ≠ 58 ∧ (bl b)[a].toNat ≠ 36 ∧ (bl b)[a].toNat ≠ 42) :
    Calls Tryd.prog 58 #[.pointer (some ⟨G, 0, none⟩), .int .i64 d] w (RRepQ w G b (repS lst (bl b) a tx it)) := by
  obtain ⟨x, hxx⟩ : ∃ x, (bl b)[a].toNat = x := ⟨_, rfl⟩
  rw [hxx] at hx
  obtain ⟨D, hD⟩ : ∃ D, repS lst (bl b) a tx it = D := ⟨_, rfl⟩
  rw [hD]
  unfold repS at hD
  rw [List.getElem?_eq_getElem ha] at hD
  simp only at hD
  rw [hxx, if_neg hx.1, if_neg hx.2.1, if_neg hx.2.2.1, if_neg hx.2.2.2.1, if_neg hx.2.2.2.2] at hD
  have HD := Lib.hid hD.symm
  have HRW := Lib.hid (RW.new h)
  have HP : Hid (∀ W, RI W G b a 0 (tx : Nat) (it : Nat) → Calls Tryd.prog 67 #[.pointer (some ⟨G, 0, none⟩)] W fun e w' => e = .returned (.int .u8 x) ∧ RI w' G b (a + 1) 0 (tx : Nat) (it : Nat) ∧ Only G W w') := Lib.hid (fun W hW => by have := next_yes W hW ha; rw [hxx] at this; exact this)
  have hpos := h.pos
  have hln := bl_len b
  have t1 : ((x : Int) == 43) = false := by simp; omega
  have t2 : ((x : Int) == 45) = false := by simp; omega
  have t3 : ((x : Int) == 58) = false := by simp; omega
  have t4 : ((x : Int) == 36) = false := by simp; omega
  have t5 : ((x : Int) == 42) = false := by simp; omega
  have s1 : decide ((x : Int) = 43) = false := decide_eq_false (by omega)
  have s2 : decide ((x : Int) = 45) = false := decide_eq_false (by omega)
  have s3 : decide ((x : Int) = 58) = false := decide_eq_false (by omega)
  have s4 : decide ((x : Int) = 36) = false := decide_eq_false (by omega)
  have s5 : decide ((x : Int) = 42) = false := decide_eq_false (by omega)
  clear hD hx hxx h
  go_enter Tryd.func58, Tryd.ntmps58
  go_upto_region 1 with (fail)
  generalize w.alloc (.cells zero41 41) = W at *
  generalize hB : w.heap.size = B at *
  have HB := Lib.hid hB
  clear hB
  have HPW := Lib.hid (HP.out W HRW.out.ri)
  go_wp2_with fail
  refine HPW.out.mono ?_
  rintro e w1 ⟨rfl, hr1, ho1⟩
  have HV1 := Lib.hid (HRW.out.next ho1 hr1)
  clear hr1 ho1 HPW HP HRW
  obtain ⟨z0, z1, z2, z3, z4, zf⟩ := HV1.out.ri.rows
  have HF := Lib.hid (fail_yes w1 131 HV1.out.ri rfl)
  have HV2 := Lib.hid (HV1.out.next (only_set G 2 w1 (.int .i64 131)) (HV1.out.ri.wr 131))
  go_wp2_with fail
  refine HF.out.mono ?_
  rintro en w2 ⟨rfl, rfl⟩
  clear HF z0 z1 z2 z3 z4 zf
  generalize w1.setCell ⟨G, 2, none⟩ (.int .i64 131) = w3 at *
  have HZ := Lib.hid HV2.out.rv
  go_wp2_with (refine wpList_store_row rfl 41 (.tmp 4) (.tmp 88) rfl B (rpV noR none 0) rfl rfl 41 zero41 HZ.out size41 rfl (by simp [Value.oneCell']) ?_)
  have hr := HV2.out.ret (rpV noR none 0)
  have hen : D.e = 131 := by rw [HD.out]; rfl
  exact bodyPost_ret (v := .agg (rpV noR none 0)) (res58 _ _ B _ rfl hr.1) rfl (RRepQ.no ⟨noR, none, 0⟩ (by rw [hen]; decide) rfl ⟨_, _, _, by rw [hen]; exact hr.2.1⟩ hr.2.2)
end
end Go.Proofs.YtglicojojpggmaaDoor
namespace Go.Proofs.YtglicojojpggmaaDoor
open Go Go.RowKit
theorem nilE_want {l : List UInt8} {p a1 a2 : Nat} {e1 e2 : Int} (h1 : e1 = wantE l 0 p 49) (h2 : e2 = wantE l e1 a1 13) (ha1 : e1 = 0 → a1 = p + 1) (ha2 : e2 = 0 → a2 = a1 + 1) : wantE l e2 a2 10 = nilE l p := by
  have h0 : wantE l 0 p 49 = expE l p 49 := if_neg (by simp)
  rw [h0] at h1
  unfold nilE
  by_cases g1 : e1 = 0
  · obtain rfl := ha1 g1
    rw [g1] at h2 h1
    rw [← h1, if_neg (by simp)]
    have h3 := @wantE_endE l (p + 1) a2 (by rw [← h2]; exact ha2)
    rw [← h2] at h3
    exact h3
  · rw [← h1, if_pos g1]
    have : e2 = e1 := by rw [h2]; exact if_pos g1
    rw [this]
    exact if_pos g1
section
variable {G : Nat} {b : ByteArray} {a : Nat}
set_option maxRecDepth 100000 in
set_option maxHeartbeats 8000000 in
theorem rrep_nil (w : World) (lst : Option (List UInt8 → Nat → Nat → Nat → DR)) (d : Int) (tx it : Nat) (h : RI w G b a 0 (tx : Nat) (it : Nat)) (htx : tx ≤ 1000000000) (hb : b.size ≤ 1000000000) (ha : a < (bl b).length) (hx : (bl b)[a].toNat = 36) (hm : (bl b)[a + 1]? = some 45) :
    Calls Tryd.prog 58 #[.pointer (some ⟨G, 0, none⟩), .int .i64 d] w (RRepQ w G b (repS lst (bl b) a tx it)) := by
  obtain ⟨D, hD⟩ : ∃ D, repS lst (bl b) a tx it = D := ⟨_, rfl⟩
  rw [hD]
  unfold repS at hD
  rw [List.getElem?_eq_getElem ha] at hD
  simp only at hD
  rw [if_neg (by omega), if_neg (by omega), if_neg (by omega), if_pos hx] at hD
  rw [hm] at hD
  simp only at hD
  rw [if_neg (by decide)] at hD
  have HD := Lib.hid hD.symm
  have HRW := Lib.hid (RW.new h)
  have HP : Hid (∀ W, RI W G b a 0 (tx : Nat) (it : Nat) → Calls Tryd.prog 67 #[.pointer (some ⟨G, 0, none⟩)] W fun e w' => e = .returned (.int .u8 36) ∧ RI w' G b (a + 1) 0 (tx : Nat) (it : Nat) ∧ Only G W w') := Lib.hid (fun W hW => by have := next_yes W hW ha; rw [hx] at this; exact this)
  have hpos := h.pos
  have hln := bl_len b
  have ha1 : a + 1 < (bl b).length := by
    rcases Nat.lt_or_ge (a + 1) (bl b).length with h' | h'
    · exact h'
    · rw [List.getElem?_eq_none h'] at hm; cases hm
  have hb1 : a + 1 < b.size := by omega
  have hbx : b[a + 1] = 45 := by
    rw [List.getElem?_eq_getElem ha1] at hm
    injection hm
  have d1 : decide ((a : Int) + 1 < (b.size : Int)) = true := decide_eq_true (by omega)
  have d2 : decide (a + 1 < b.size) = true := decide_eq_true hb1
  clear hD hx h hm
  go_enter Tryd.func58, Tryd.ntmps58
  go_upto_region 1 with (fail)
  generalize w.alloc (.cells zero41 41) = W at *
  generalize hB : w.heap.size = B at *
  have HB := Lib.hid hB
  clear hB
  have HPW := Lib.hid (HP.out W HRW.out.ri)
  go_wp2_with fail
  refine HPW.out.mono ?_
  rintro e w1 ⟨rfl, hr1, ho1⟩
  have HV1 := Lib.hid (HRW.out.next ho1 hr1)
  clear hr1 ho1 HPW HP HRW
  obtain ⟨z0, z1, z2, z3, z4, zf⟩ := HV1.out.ri.rows
  go_wp2_with fail
  go_quiet (fail)
  generalize nq = q
  have hi := (HV1.out.ri.drew q).at (a + 2) (by omega)
  have hv := HV1.out.next (only_trans (only_drew G w1 q) (only_set G 1 (w1.drewN q) (.int .i64 ((a + 2 : Nat) : Int)))) hi
  rw [show ((a + 2 : Nat) : Int) = (a : Int) + 1 + 1 by omega] at hv
  have HV2 := Lib.hid hv
  clear hi hv
  go_upto_region 14 with (fail)
  clear HV1 z0 z1 z2 z3 z4 zf
  generalize (w1.drewN q).setCell ⟨G, 1, none⟩ (.int .i64 ((a : Int) + 1 + 1)) = w2 at *
  have H1 := Lib.hid (want_any w2 49 HV2.out.ri (by decide))
  go_wp2_with fail
  refine H1.out.mono ?_
  rintro e w3 ⟨rfl, ⟨a1, hr3, ha31⟩, ho3⟩
  have HV3 := Lib.hid (HV2.out.next ho3 hr3)
  have HA3 := Lib.hid ha31
  obtain ⟨e1, he1⟩ : ∃ e1, e1 = wantE (bl b) 0 (a + 2) 49 := ⟨_, rfl⟩
  rw [← he1] at HV3 HA3
  have HE1 := Lib.hid he1
  clear H1 hr3 ho3 ha31 he1
  have H2 := Lib.hid (want_any w3 13 HV3.out.ri (by decide))
  go_wp2_with fail
  refine H2.out.mono ?_
  rintro e w4 ⟨rfl, ⟨a2, hr4, ha4⟩, ho4⟩
  have HV4 := Lib.hid (HV3.out.next ho4 hr4)
  have HA4 := Lib.hid ha4
  obtain ⟨e2, he2⟩ : ∃ e2, e2 = wantE (bl b) e1 a1 13 := ⟨_, rfl⟩
  rw [← he2] at HV4 HA4
  have HE2 := Lib.hid he2
  clear H2 hr4 ho4 ha4 he2
  have H3 := Lib.hid (want_any w4 10 HV4.out.ri (by decide))
  go_wp2_with fail
  refine H3.out.mono ?_
  rintro e w5 ⟨rfl, ⟨a3, hr5, ha5⟩, ho5⟩
  have hen : wantE (bl b) e2 a2 10 = D.e := by rw [HD.out]; exact nilE_want HE1.out HE2.out HA3.out HA4.out
  rw [hen] at hr5 ha5
  have HV5 := Lib.hid (HV4.out.next ho5 hr5)
  have HZ := Lib.hid HV5.out.rv
  have HEN := Lib.hid hen
  have HA5 := Lib.hid ha5
  clear H3 hr5 ho5 ha5 hen
  go_wp2_with (refine wpList_store_row rfl 41 (.tmp 4) (.tmp 68) rfl B (rpV noR none 0) rfl rfl 41 zero41 HZ.out size41 rfl (by simp [Value.oneCell']) ?_)
  have hr := HV5.out.ret (rpV noR none 0)
  refine bodyPost_ret (v := .agg (rpV noR none 0)) (res58 _ _ B _ rfl hr.1) rfl ⟨⟨⟨noR, none, 0⟩, rfl, fun h0 => ?_, a3, _, _, hr.2.1, fun h0 => ?_⟩, hr.2.2⟩
  · refine ⟨by rw [HD.out], ⟨by decide, by decide, by decide, by decide, by decide, by decide⟩, fun _ => rfl, Nat.zero_le _, by rw [show Rp.kids _ = [] from rfl, RpL]; trivial⟩
  · have h2 : e2 = 0 := by
      have := HEN.out
      rw [h0] at this
      unfold wantE at this
      by_cases g : e2 = 0
      · exact g
      · rw [if_pos g] at this; exact absurd this g
    have h1 : e1 = 0 := by
      have := HE2.out
      rw [h2] at this
      unfold wantE at this
      by_cases g : e1 = 0
      · exact g
      · rw [if_pos g] at this; exact absurd this.symm g
    have g1 := HA3.out h1
    have g2 := HA4.out h2
    have g3 := HA5.out h0
    rw [HD.out]
    exact ⟨by show _ = a + 5; omega, rfl, rfl⟩
end
end Go.Proofs.YtglicojojpggmaaDoor
namespace Go.Proofs.YtglicojojpggmaaDoor
open Go Go.RowKit
theorem lenE_end {most : Nat} {l : List UInt8} {a : Nat} (h : l[a]? = none) : lenE most l a = 130 := by
  have : (digR most l a).1 = 130 := by
    unfold digR
    cases hf : l.length + 1 - a with
    | zero => rfl
    | succ f => rw [digF, h]
  unfold lenE
  rw [this]
  rfl
section
variable {G : Nat} {b : ByteArray} {a : Nat}
set_option maxRecDepth 100000 in
set_option maxHeartbeats 8000000 in
theorem rrep_blk (w : World) (lst : Option (List UInt8 → Nat → Nat → Nat → DR)) (d : Int) (tx it : Nat) (h : RI w G b a 0 (tx : Nat) (it : Nat)) (htx : tx ≤ 1000000000) (hb : b.size ≤ 1000000000) (ha : a < (bl b).length) (hx : (bl b)[a].toNat = 36) (hm : (bl b)[a + 1]? ≠ some 45) (hi1 : a + 1 < b.size) :
    Calls Tryd.prog 58 #[.pointer (some ⟨G, 0, none⟩), .int .i64 d] w (RRepQ w G b (repS lst (bl b) a tx it)) := by
  obtain ⟨D, hD⟩ : ∃ D, repS lst (bl b) a tx it = D := ⟨_, rfl⟩
  rw [hD]
  unfold repS at hD
  rw [List.getElem?_eq_getElem ha] at hD
  simp only at hD
  rw [if_neg (by omega), if_neg (by omega), if_neg (by omega), if_pos hx] at hD
  have hD2 : D.e = blkE (bl b) (a + 1) tx ∧ (D.e = 0 → D = ⟨blkE (bl b) (a + 1) tx, .mk 4 0 (cutT (bl b) ((digR tx (bl b) (a + 1)).2.2 + 2) (digR tx (bl b) (a + 1)).2.1) [], (digR tx (bl b) (a + 1)).2.2 + 2 + (digR tx (bl b) (a + 1)).2.1 + 2, tx - (digR tx (bl b) (a + 1)).2.1, it⟩) := by
    rw [← hD]
    cases h1 : (bl b)[a + 1]? with
    | none =>
      have := lenE_end (most := tx) h1
      refine ⟨?_, fun h0 => absurd h0 (show (130 : Int) ≠ 0 by decide)⟩
      unfold blkE
      rw [this]
      rfl
    | some y =>
      simp only
      rw [if_pos (show y.toNat ≠ 45 from fun e => hm (by rw [h1]; exact congrArg some (UInt8.toNat_inj.1 (show y.toNat = (45 : UInt8).toNat from e))))]
      exact ⟨rfl, fun _ => rfl⟩
  have HEN := Lib.hid hD2.1
  have HD := Lib.hid hD2.2
  have HRW := Lib.hid (RW.new h)
  have HP : Hid (∀ W, RI W G b a 0 (tx : Nat) (it : Nat) → Calls Tryd.prog 67 #[.pointer (some ⟨G, 0, none⟩)] W fun e w' => e = .returned (.int .u8 36) ∧ RI w' G b (a + 1) 0 (tx : Nat) (it : Nat) ∧ Only G W w') := Lib.hid (fun W hW => by have := next_yes W hW ha; rw [hx] at this; exact this)
  have hpos := h.pos
  have hln := bl_len b
  have hb1 : a + 1 < b.size := by omega
  have ha1 : a + 1 < (bl b).length := by omega
  have hbx : ((b[a + 1].toNat : Nat) : Int) ≠ 45 := by
    intro e
    refine hm ?_
    rw [List.getElem?_eq_getElem ha1]
    exact congrArg some (UInt8.toNat_inj.1 (show b[a + 1].toNat = (45 : UInt8).toNat from by rw [show (45 : UInt8).toNat = 45 from rfl]; omega))
  have d1 : decide ((a : Int) + 1 < (b.size : Int)) = true := decide_eq_true (by omega)
  have d2 : decide (a + 1 < b.size) = true := decide_eq_true hb1
  have hlt : (a : Int) + 1 < (b.size : Int) := by omega
  have hz0 : (0 : Int) ≤ (a : Int) + 1 := by omega
  have d3 : (((b[a + 1].toNat : Nat) : Int) == 45) = false := by simpa using hbx
  have d4 : decide (((b[a + 1].toNat : Nat) : Int) = 45) = false := decide_eq_false hbx
  clear hD hD2 hx h hm hi1
  go_enter Tryd.func58, Tryd.ntmps58
  go_upto_region 1 with (fail)
  generalize w.alloc (.cells zero41 41) = W at *
  generalize hB : w.heap.size = B at *
  have HB := Lib.hid hB
  clear hB
  have HPW := Lib.hid (HP.out W HRW.out.ri)
  go_wp2_with fail
  refine HPW.out.mono ?_
  rintro e w1 ⟨rfl, hr1, ho1⟩
  have HV1 := Lib.hid (HRW.out.next ho1 hr1)
  clear hr1 ho1 HPW HP HRW
  obtain ⟨z0, z1, z2, z3, z4, zf⟩ := HV1.out.ri.rows
  go_wp2_with fail
  go_quiet (fail)
  generalize nq = q
  have HV2 := Lib.hid (HV1.out.drew q)
  clear HV1 z0 z1 z2 z3 z4 zf
  generalize w1.drewN q = w2 at *
  obtain ⟨z0, z1, z2, z3, z4, zf⟩ := HV2.out.ri.rows
  have H1 := Lib.hid (rlen_any w2 (a + 1) tx HV2.out.ri (by omega))
  have hcv : IntKind.u64.wrap (tx : Int) = (tx : Int) := by rw [IntKind.wrap_u64]; omega
  go_wp2_with fail
  refine H1.out.mono ?_
  rintro e w3 ⟨⟨k, a1, rfl, hk, hr3, hres⟩, ho3⟩
  rw [lenE_eq] at hr3 hres
  have HV3 := Lib.hid (HV2.out.next ho3 hr3)
  have HRS := Lib.hid hres
  have hcw : IntKind.i64.wrap (k : Int) = (k : Int) := IntWalk.i64_in _ (by omega)
  clear H1 hr3 ho3 hres z0 z1 z2 z3 z4 zf hcv
  by_cases hl : lenE tx (bl b) (a + 1) = 0
  rotate_left
  · have hen : D.e = lenE tx (bl b) (a + 1) := by rw [HEN.out]; exact if_pos hl
    have HT := Lib.hid (rtext_stop w3 k HV3.out.ri hl)
    have HNE := Lib.hid hl
    have HEL := Lib.hid hen
    clear hl hen
    go_wp2_with fail
    refine HT.out.mono ?_
    rintro e w4 ⟨rfl, q4, hq4⟩
    have HV4 : Hid (RW w w4 B G b a1 (lenE tx (bl b) (a + 1)) (tx : Nat) (it : Nat)) := Lib.hid (by rw [hq4]; exact HV3.out.drew q4)
    clear hq4 HT
    have HZ := Lib.hid HV4.out.rv
    go_wp2_with (refine wpList_store_row rfl 41 (.tmp 4) (.tmp 80) rfl B (rpV (.mk 4 0 ⟨#[]⟩ []) none 0) rfl rfl 41 zero41 HZ.out size41 rfl (by simp [Value.oneCell']) ?_)
    have hr := HV4.out.ret (rpV (.mk 4 0 ⟨#[]⟩ []) none 0)
    exact bodyPost_ret (v := .agg (rpV (.mk 4 0 ⟨#[]⟩ []) none 0)) (res58 _ _ B _ rfl hr.1) rfl (RRepQ.no ⟨.mk 4 0 ⟨#[]⟩ [], none, 0⟩ (by rw [HEL.out]; exact HNE.out) rfl ⟨_, _, _, by rw [HEL.out]; exact hr.2.1⟩ hr.2.2)
  have hc := HRS.out hl
  have hrI := HV3.out.ri
  rw [hl] at hrI HV3
  have HT := Lib.hid (rtext_any w3 k hrI (by omega) (by omega) (by omega))
  have hen : D.e = textE (bl b) a1 k := by rw [HEN.out, blkE, if_neg (by simpa using hl), ← hc.1, ← hc.2]
  have HEL := Lib.hid hen
  have HC := Lib.hid hc
  clear hl hen hc hrI HRS
  go_wp2_with fail
  refine HT.out.mono ?_
  rintro e w4 ⟨⟨u, a2, t2, rfl, hr4, hres⟩, ho4⟩
  rw [← HEL.out] at hr4 hres
  have HV4 := Lib.hid (HV3.out.next ho4 hr4)
  have HRS := Lib.hid hres
  clear HT hr4 ho4 hres
  have HZ := Lib.hid HV4.out.rv
  go_wp2_with (refine wpList_store_row rfl 41 (.tmp 4) (.tmp 80) rfl B (rpV (.mk 4 0 u []) none 0) rfl rfl 41 zero41 HZ.out size41 rfl (by simp [Value.oneCell']) ?_)
  have hr := HV4.out.ret (rpV (.mk 4 0 u []) none 0)
  refine bodyPost_ret (v := .agg (rpV (.mk 4 0 u []) none 0)) (res58 _ _ B _ rfl hr.1) rfl ⟨⟨⟨.mk 4 0 u [], none, 0⟩, rfl, fun h0 => ?_, a2, t2, _, hr.2.1, fun h0 => ?_⟩, hr.2.2⟩
  · have hc := HRS.out h0
    have hcz := cutT_size (bl b) a1 k
    rw [← hc.1] at hcz
    refine ⟨by rw [HD.out h0, ← HC.out.1, ← HC.out.2, ← hc.1], ⟨by show _ ≤ (0 : Int); decide, by show (0 : Int) ≤ _; decide, by show _ ≤ (4 : Int); decide, by show (4 : Int) ≤ _; decide, by show u.size ≤ _; omega, Nat.zero_le _⟩, fun _ => rfl, Nat.zero_le _, by rw [show Rp.kids _ = [] from rfl, RpL]; trivial⟩
  · have hc := HRS.out h0
    rw [HD.out h0, ← HC.out.1, ← HC.out.2]
    exact ⟨hc.2.1, by rw [hc.2.2]; show _ = (((tx - k : Nat)) : Int); omega, rfl⟩
set_option maxRecDepth 100000 in
set_option maxHeartbeats 8000000 in
theorem rrep_blk0 (w : World) (lst : Option (List UInt8 → Nat → Nat → Nat → DR)) (d : Int) (tx it : Nat) (h : RI w G b a 0 (tx : Nat) (it : Nat)) (htx : tx ≤ 1000000000) (hb : b.size ≤ 1000000000) (ha : a < (bl b).length) (hx : (bl b)[a].toNat = 36) (hm : (bl b)[a + 1]? ≠ some 45) (hi1 : ¬ a + 1 < b.size) :
    Calls Tryd.prog 58 #[.pointer (some ⟨G, 0, none⟩), .int .i64 d] w (RRepQ w G b (repS lst (bl b) a tx it)) := by
  obtain ⟨D, hD⟩ : ∃ D, repS lst (bl b) a tx it = D := ⟨_, rfl⟩
  rw [hD]
  unfold repS at hD
  rw [List.getElem?_eq_getElem ha] at hD
  simp only at hD
  rw [if_neg (by omega), if_neg (by omega), if_neg (by omega), if_pos hx] at hD
  have hD2 : D.e = blkE (bl b) (a + 1) tx ∧ (D.e = 0 → D = ⟨blkE (bl b) (a + 1) tx, .mk 4 0 (cutT (bl b) ((digR tx (bl b) (a + 1)).2.2 + 2) (digR tx (bl b) (a + 1)).2.1) [], (digR tx (bl b) (a + 1)).2.2 + 2 + (digR tx (bl b) (a + 1)).2.1 + 2, tx - (digR tx (bl b) (a + 1)).2.1, it⟩) := by
    rw [← hD]
    cases h1 : (bl b)[a + 1]? with
    | none =>
      have := lenE_end (most := tx) h1
      refine ⟨?_, fun h0 => absurd h0 (show (130 : Int) ≠ 0 by decide)⟩
      unfold blkE
      rw [this]
      rfl
    | some y =>
      simp only
      rw [if_pos (show y.toNat ≠ 45 from fun e => hm (by rw [h1]; exact congrArg some (UInt8.toNat_inj.1 (show y.toNat = (45 : UInt8).toNat from e))))]
      exact ⟨rfl, fun _ => rfl⟩
  have HEN := Lib.hid hD2.1
  have HD := Lib.hid hD2.2
  have HRW := Lib.hid (RW.new h)
  have HP : Hid (∀ W, RI W G b a 0 (tx : Nat) (it : Nat) → Calls Tryd.prog 67 #[.pointer (some ⟨G, 0, none⟩)] W fun e w' => e = .returned (.int .u8 36) ∧ RI w' G b (a + 1) 0 (tx : Nat) (it : Nat) ∧ Only G W w') := Lib.hid (fun W hW => by have := next_yes W hW ha; rw [hx] at this; exact this)
  have hpos := h.pos
  have hln := bl_len b
  have d1 : decide ((a : Int) + 1 < (b.size : Int)) = false := decide_eq_false (by omega)
  have d2 : decide (a + 1 < b.size) = false := decide_eq_false (by omega)
  clear hD hD2 hx h hm hi1
  go_enter Tryd.func58, Tryd.ntmps58
  go_upto_region 1 with (fail)
  generalize w.alloc (.cells zero41 41) = W at *
  generalize hB : w.heap.size = B at *
  have HB := Lib.hid hB
  clear hB
  have HPW := Lib.hid (HP.out W HRW.out.ri)
  go_wp2_with fail
  refine HPW.out.mono ?_
  rintro e w1 ⟨rfl, hr1, ho1⟩
  have HV1 := Lib.hid (HRW.out.next ho1 hr1)
  clear hr1 ho1 HPW HP HRW
  obtain ⟨z0, z1, z2, z3, z4, zf⟩ := HV1.out.ri.rows
  go_wp2_with fail
  go_quiet (fail)
  generalize nq = q
  have HV2 := Lib.hid (HV1.out.drew q)
  clear HV1 z0 z1 z2 z3 z4 zf
  generalize w1.drewN q = w2 at *
  obtain ⟨z0, z1, z2, z3, z4, zf⟩ := HV2.out.ri.rows
  have H1 := Lib.hid (rlen_any w2 (a + 1) tx HV2.out.ri (by omega))
  have hcv : IntKind.u64.wrap (tx : Int) = (tx : Int) := by rw [IntKind.wrap_u64]; omega
  go_wp2_with fail
  refine H1.out.mono ?_
  rintro e w3 ⟨⟨k, a1, rfl, hk, hr3, hres⟩, ho3⟩
  rw [lenE_eq] at hr3 hres
  have HV3 := Lib.hid (HV2.out.next ho3 hr3)
  have HRS := Lib.hid hres
  have hcw : IntKind.i64.wrap (k : Int) = (k : Int) := IntWalk.i64_in _ (by omega)
  clear H1 hr3 ho3 hres z0 z1 z2 z3 z4 zf hcv
  by_cases hl : lenE tx (bl b) (a + 1) = 0
  rotate_left
  · have hen : D.e = lenE tx (bl b) (a + 1) := by rw [HEN.out]; exact if_pos hl
    have HT := Lib.hid (rtext_stop w3 k HV3.out.ri hl)
    have HNE := Lib.hid hl
    have HEL := Lib.hid hen
    clear hl hen
    go_wp2_with fail
    refine HT.out.mono ?_
    rintro e w4 ⟨rfl, q4, hq4⟩
    have HV4 : Hid (RW w w4 B G b a1 (lenE tx (bl b) (a + 1)) (tx : Nat) (it : Nat)) := Lib.hid (by rw [hq4]; exact HV3.out.drew q4)
    clear hq4 HT
    have HZ := Lib.hid HV4.out.rv
    go_wp2_with (refine wpList_store_row rfl 41 (.tmp 4) (.tmp 80) rfl B (rpV (.mk 4 0 ⟨#[]⟩ []) none 0) rfl rfl 41 zero41 HZ.out size41 rfl (by simp [Value.oneCell']) ?_)
    have hr := HV4.out.ret (rpV (.mk 4 0 ⟨#[]⟩ []) none 0)
    exact bodyPost_ret (v := .agg (rpV (.mk 4 0 ⟨#[]⟩ []) none 0)) (res58 _ _ B _ rfl hr.1) rfl (RRepQ.no ⟨.mk 4 0 ⟨#[]⟩ [], none, 0⟩ (by rw [HEL.out]; exact HNE.out) rfl ⟨_, _, _, by rw [HEL.out]; exact hr.2.1⟩ hr.2.2)
  have hc := HRS.out hl
  have hrI := HV3.out.ri
  rw [hl] at hrI HV3
  have HT := Lib.hid (rtext_any w3 k hrI (by omega) (by omega) (by omega))
  have hen : D.e = textE (bl b) a1 k := by rw [HEN.out, blkE, if_neg (by simpa using hl), ← hc.1, ← hc.2]
  have HEL := Lib.hid hen
  have HC := Lib.hid hc
  clear hl hen hc hrI HRS
  go_wp2_with fail
  refine HT.out.mono ?_
  rintro e w4 ⟨⟨u, a2, t2, rfl, hr4, hres⟩, ho4⟩
  rw [← HEL.out] at hr4 hres
  have HV4 := Lib.hid (HV3.out.next ho4 hr4)
  have HRS := Lib.hid hres
  clear HT hr4 ho4 hres
  have HZ := Lib.hid HV4.out.rv
  go_wp2_with (refine wpList_store_row rfl 41 (.tmp 4) (.tmp 80) rfl B (rpV (.mk 4 0 u []) none 0) rfl rfl 41 zero41 HZ.out size41 rfl (by simp [Value.oneCell']) ?_)
  have hr := HV4.out.ret (rpV (.mk 4 0 u []) none 0)
  refine bodyPost_ret (v := .agg (rpV (.mk 4 0 u []) none 0)) (res58 _ _ B _ rfl hr.1) rfl ⟨⟨⟨.mk 4 0 u [], none, 0⟩, rfl, fun h0 => ?_, a2, t2, _, hr.2.1, fun h0 => ?_⟩, hr.2.2⟩
  · have hc := HRS.out h0
    have hcz := cutT_size (bl b) a1 k
    rw [← hc.1] at hcz
    refine ⟨by rw [HD.out h0, ← HC.out.1, ← HC.out.2, ← hc.1], ⟨by show _ ≤ (0 : Int); decide, by show (0 : Int) ≤ _; decide, by show _ ≤ (4 : Int); decide, by show (4 : Int) ≤ _; decide, by show u.size ≤ _; omega, Nat.zero_le _⟩, fun _ => rfl, Nat.zero_le _, by rw [show Rp.kids _ = [] from rfl, RpL]; trivial⟩
  · have hc := HRS.out h0
    rw [HD.out h0, ← HC.out.1, ← HC.out.2]
    exact ⟨hc.2.1, by rw [hc.2.2]; show _ = (((tx - k : Nat)) : Int); omega, rfl⟩
end
end Go.Proofs.YtglicojojpggmaaDoor
