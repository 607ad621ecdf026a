/- The digits that the document's reader takes. -/
import Derived.Test.YtglicojojpggmaaDoorRInp
namespace Go.Proofs.YtglicojojpggmaaDoor
open Go Go.RowKit
/-- What is wrong behind digits and a line's end. -/
def digE (l : List UInt8) (R : Int × Nat × Nat) : Int := if R.1 ≠ 0 then R.1 else endE l R.2.2
theorem digE_no {l : List UInt8} {R : Int × Nat × Nat} {k : Int} {x y : Nat} (h : (k, x, y) = R) (hk : k ≠ 0) : digE l R = k := by
  subst h
  exact if_pos hk
theorem digE_yes {l : List UInt8} {R : Int × Nat × Nat} {x y : Nat} (h : (0, x, y) = R) : digE l R = endE l y := by
  subst h
  exact if_neg (by simp)
theorem lenE_eq (most : Nat) (l : List UInt8) (a : Nat) : digE l (digR most l a) = lenE most l a := rfl
/-- How digits are taken. -/
def DigQ (w : World) (G : Nat) (b : ByteArray) (most : Nat) (R : Int × Nat × Nat) (tx it : Int) (en : Ending) (w' : World) : Prop :=
  (∃ k a', en = .returned (.int .u64 (k : Nat)) ∧ k ≤ most ∧ RI w' G b a' (digE (bl b) R) tx it ∧ (digE (bl b) R = 0 → k = R.2.1 ∧ a' = R.2.2 + 2)) ∧ Only G w w'
section
variable {W w w' : World} {G : Nat} {b : ByteArray} {a most : Nat} {e tx it : Int} {R : Int × Nat × Nat}
theorem DigQ.no {k : Int} (h : digE (bl b) R = k) (hk : k ≠ 0) (hr : RI w' G b a k tx it) (ho : Only G w w') : DigQ w G b most R tx it (.returned (.int .u64 0)) w' :=
  ⟨⟨0, a, rfl, Nat.zero_le _, by rw [h]; exact hr, fun h2 => absurd (h.symm.trans h2) hk⟩, ho⟩
def rposOf (G : Nat) (W : World) : Nat := match W.cell? ⟨G, 1, none⟩ with
  | some (.int _ z) => z.toNat
  | _ => 0
theorem RI.place (h : RI W G b a e tx it) : rposOf G W = a := by
  unfold rposOf
  rw [h.rows.2.1]
  simp
set_option maxRecDepth 100000 in
set_option maxHeartbeats 8000000 in
theorem rdigits_any (w : World) (acc0 a first least most : Nat) (h : RI w G b a 0 tx it) (hm : most ≤ 9223372036854775808) (hac : acc0 ≤ most) (hfa : first ≤ a) (hleast : least = 0 ∨ least = 1) (h48 : a = first → least = 0 ∨ (bl b)[a]? ≠ some 48) :
    Calls Tryd.prog 43 #[.pointer (some ⟨G, 0, none⟩), .int .u64 acc0, .int .i64 (a - first : Nat), .int .u64 least, .int .u64 most] w (DigQ w G b most (digF ((bl b).length + 1 - a) most first (bl b) a acc0) tx it) := by
  have H := Lib.hid h
  have hmx := h.max
  have HL := Lib.hid (bl_len b)
  obtain ⟨R, hR⟩ : ∃ R, digF ((bl b).length + 1 - a) most first (bl b) a acc0 = R := ⟨_, rfl⟩
  rw [hR]
  have HR := Lib.hid hR
  have H48 := Lib.hid h48
  clear h hR h48
  obtain ⟨mz, hmz⟩ : ∃ mz, a - first = mz := ⟨_, rfl⟩
  rw [hmz]
  have HMZ := Lib.hid hmz
  clear hmz
  obtain ⟨l, hl⟩ : ∃ l, bl b = l := ⟨_, rfl⟩
  go_enter Tryd.func43, Tryd.ntmps43
  go_wp2_with fail
  go_loopw [1, 2] (fun v i W => ∃ (p acc m : Nat), v = .int .u64 acc ∧ i = .int .i64 m ∧ Hid (m = p - first) ∧ first ≤ p ∧ acc ≤ most ∧ Hid (RI W G b p 0 tx it) ∧ Hid (digF ((bl b).length + 1 - p) most first (bl b) p acc = R) ∧ Hid (Only G w W) ∧ Hid (p = first → least = 0 ∨ (bl b)[p]? ≠ some 48)) (fun _ _ W => b.size - rposOf G W)
  case atStart => exact ⟨a, acc0, mz, rfl, rfl, HMZ.out.symm, hfa, hac, H, HR, Lib.hid (only_drew G w 0), H48⟩
  case round =>
    clear HR H H48 HMZ hac hfa
    obtain ⟨p, acc, m, rfl, rfl, HM, hap, hac, HI, HD, HO, H48⟩ := hrel
    have hpn := HI.out.pos
    obtain ⟨z0, z1, z2, z3, z4, zf⟩ := HI.out.rows
    by_cases hp : p < (bl b).length
    · obtain ⟨x, hx⟩ : ∃ x, (bl b)[p] = x := ⟨_, rfl⟩
      have HN := Lib.hid (next_yes wr HI.out hp)
      rw [hx] at HN
      have hd := HD.out
      rw [show (bl b).length + 1 - p = ((bl b).length - p) + 1 by omega] at hd
      unfold digF at hd
      rw [List.getElem?_eq_getElem hp, hx] at hd
      simp only at hd
      have hx8 := x.toNat_lt
      have H4 : Hid (p = first → least = 0 ∨ x.toNat ≠ 48) := Lib.hid (fun e => (H48.out e).imp id (fun h => by
        rw [List.getElem?_eq_getElem hp, hx] at h
        exact fun e2 => h (congrArg some (UInt8.toNat_inj.1 (show x.toNat = (48 : UInt8).toNat from e2)))))
      have HX : Hid (endE (bl b) p = if x.toNat = 13 then expE (bl b) (p + 1) 10 else 131) := Lib.hid (by
        unfold endE
        have h1 : expE (bl b) p 13 = if x = 13 then 0 else 131 := by unfold expE; rw [List.getElem?_eq_getElem hp, hx]
        rw [h1]
        by_cases h2 : x = 13
        · rw [if_pos h2, if_neg (by simp), if_pos (by rw [h2]; rfl)]
        · rw [if_neg h2, if_pos (by simp), if_neg (show ¬ x.toNat = 13 from fun e => h2 (UInt8.toNat_inj.1 (show x.toNat = (13 : UInt8).toNat from e)))])
      generalize x.toNat = y at HN hd hx8 H4 HX
      clear HD hx H48
      have hwc : IntKind.u64.wrap (y : Int) = (y : Int) := by rw [IntKind.wrap_u64]; omega
      by_cases hdig : y < 48 ∨ 57 < y
      · rw [if_pos hdig] at hd
        by_cases hpa : p = first
        · rw [if_pos hpa] at hd
          have HE := Lib.hid (digE_no (l := bl b) hd (by decide))
          have hm0 : m = 0 := by have := HM.out; omega
          have n1 : decide ((0 : Int) < (m : Int)) = false := decide_eq_false (by omega)
          have n2 : decide (0 < m) = false := decide_eq_false (by omega)
          clear hd hpa hm0
          by_cases h13 : y = 13
          · have t1 : ((y : Int) == 13) = true := by simp; omega
            have t2 : decide ((y : Int) = 13) = true := decide_eq_true (by omega)
            have d1 : decide ((y : Int) < 48) = true := decide_eq_true (by omega)
            clear hdig h13
            go_wp2_with fail
            refine HN.out.mono ?_
            rintro en w1 ⟨rfl, hr, ho⟩
            obtain ⟨y0, y1, y2, y3, y4, yf⟩ := hr.rows
            have HF := Lib.hid (fail_yes w1 131 hr rfl)
            have HR2 := Lib.hid (hr.wr 131)
            have HO2 := Lib.hid (only_trans (only_trans HO.out ho) (only_set G 2 w1 (.int .i64 131)))
            clear hr ho HN
            go_wp2_with fail
            refine HF.out.mono ?_
            rintro en w2 ⟨rfl, rfl⟩
            clear HF y0 y1 y2 y3 y4 yf
            generalize w1.setCell ⟨G, 2, none⟩ (.int .i64 131) = w3 at *
            go_wp2_with fail
            change bodyPost Tryd.prog Tryd.f43 _ Exit.ret _ _
            go_ret
            exact DigQ.no HE.out (by decide) HR2.out HO2.out
          have t1 : ((y : Int) == 13) = false := by simp; omega
          have t2 : decide ((y : Int) = 13) = false := decide_eq_false (by omega)
          clear h13
          rcases hdig with h1 | h1
          · have d1 : decide ((y : Int) < 48) = true := decide_eq_true (by omega)
            go_wp2_with fail
            refine HN.out.mono ?_
            rintro en w1 ⟨rfl, hr, ho⟩
            obtain ⟨y0, y1, y2, y3, y4, yf⟩ := hr.rows
            have HF := Lib.hid (fail_yes w1 131 hr rfl)
            have HR2 := Lib.hid (hr.wr 131)
            have HO2 := Lib.hid (only_trans (only_trans HO.out ho) (only_set G 2 w1 (.int .i64 131)))
            clear hr ho HN
            go_wp2_with fail
            refine HF.out.mono ?_
            rintro en w2 ⟨rfl, rfl⟩
            clear HF y0 y1 y2 y3 y4 yf
            generalize w1.setCell ⟨G, 2, none⟩ (.int .i64 131) = w3 at *
            go_wp2_with fail
            change bodyPost Tryd.prog Tryd.f43 _ Exit.ret _ _
            go_ret
            exact DigQ.no HE.out (by decide) HR2.out HO2.out
          · have d1 : decide ((y : Int) < 48) = false := decide_eq_false (by omega)
            have d2 : decide ((57 : Int) < (y : Int)) = true := decide_eq_true (by omega)
            go_wp2_with fail
            refine HN.out.mono ?_
            rintro en w1 ⟨rfl, hr, ho⟩
            obtain ⟨y0, y1, y2, y3, y4, yf⟩ := hr.rows
            have HF := Lib.hid (fail_yes w1 131 hr rfl)
            have HR2 := Lib.hid (hr.wr 131)
            have HO2 := Lib.hid (only_trans (only_trans HO.out ho) (only_set G 2 w1 (.int .i64 131)))
            clear hr ho HN
            go_wp2_with fail
            refine HF.out.mono ?_
            rintro en w2 ⟨rfl, rfl⟩
            clear HF y0 y1 y2 y3 y4 yf
            generalize w1.setCell ⟨G, 2, none⟩ (.int .i64 131) = w3 at *
            go_wp2_with fail
            change bodyPost Tryd.prog Tryd.f43 _ Exit.ret _ _
            go_ret
            exact DigQ.no HE.out (by decide) HR2.out HO2.out
        · rw [if_neg hpa] at hd
          have hm0 : 0 < m := by have := HM.out; omega
          have n1 : decide ((0 : Int) < (m : Int)) = true := decide_eq_true (by omega)
          have n2 : decide (0 < m) = true := decide_eq_true (by omega)
          by_cases h13 : y = 13
          · have t1 : ((y : Int) == 13) = true := by simp; omega
            have t2 : decide ((y : Int) = 13) = true := decide_eq_true (by omega)
            have HE : Hid (digE (bl b) R = expE (bl b) (p + 1) 10) := Lib.hid (by rw [digE_yes hd, HX.out, if_pos h13])
            have HRR := Lib.hid hd
            clear hdig h13 hd hpa
            go_wp2_with fail
            refine HN.out.mono ?_
            rintro en w1 ⟨rfl, hr, ho⟩
            obtain ⟨y0, y1, y2, y3, y4, yf⟩ := hr.rows
            have HW := Lib.hid (want_any w1 10 hr (by decide))
            have HO1 := Lib.hid (only_trans HO.out ho)
            clear hr ho HN
            go_wp2_with fail
            refine HW.out.mono ?_
            rintro en w2 ⟨rfl, ⟨a', hr2, ha2⟩, ho2⟩
            have HR2 := Lib.hid hr2
            have HA2 := Lib.hid ha2
            have HO2 := Lib.hid (only_trans HO1.out ho2)
            clear HW hr2 ha2 ho2 y0 y1 y2 y3 y4 yf
            go_wp2_with fail
            change bodyPost Tryd.prog Tryd.f43 _ Exit.ret _ _
            go_ret
            have hwe : wantE (bl b) 0 (p + 1) 10 = expE (bl b) (p + 1) 10 := if_neg (by simp)
            refine ⟨⟨acc, a', rfl, hac, by rw [HE.out, ← hwe]; exact HR2.out, fun h0 => ?_⟩, HO2.out⟩
            rw [HE.out, ← hwe] at h0
            rw [← HRR.out]
            exact ⟨rfl, by rw [HA2.out h0]⟩
          have HE : Hid (digE (bl b) R = 131) := Lib.hid (by rw [digE_yes hd, HX.out, if_neg h13])
          have t1 : ((y : Int) == 13) = false := by simp; omega
          have t2 : decide ((y : Int) = 13) = false := decide_eq_false (by omega)
          clear h13 hd hpa
          rcases hdig with h1 | h1
          · have d1 : decide ((y : Int) < 48) = true := decide_eq_true (by omega)
            go_wp2_with fail
            refine HN.out.mono ?_
            rintro en w1 ⟨rfl, hr, ho⟩
            obtain ⟨y0, y1, y2, y3, y4, yf⟩ := hr.rows
            have HF := Lib.hid (fail_yes w1 131 hr rfl)
            have HR2 := Lib.hid (hr.wr 131)
            have HO2 := Lib.hid (only_trans (only_trans HO.out ho) (only_set G 2 w1 (.int .i64 131)))
            clear hr ho HN
            go_wp2_with fail
            refine HF.out.mono ?_
            rintro en w2 ⟨rfl, rfl⟩
            clear HF y0 y1 y2 y3 y4 yf
            generalize w1.setCell ⟨G, 2, none⟩ (.int .i64 131) = w3 at *
            go_wp2_with fail
            change bodyPost Tryd.prog Tryd.f43 _ Exit.ret _ _
            go_ret
            exact DigQ.no HE.out (by decide) HR2.out HO2.out
          · have d1 : decide ((y : Int) < 48) = false := decide_eq_false (by omega)
            have d2 : decide ((57 : Int) < (y : Int)) = true := decide_eq_true (by omega)
            go_wp2_with fail
            refine HN.out.mono ?_
            rintro en w1 ⟨rfl, hr, ho⟩
            obtain ⟨y0, y1, y2, y3, y4, yf⟩ := hr.rows
            have HF := Lib.hid (fail_yes w1 131 hr rfl)
            have HR2 := Lib.hid (hr.wr 131)
            have HO2 := Lib.hid (only_trans (only_trans HO.out ho) (only_set G 2 w1 (.int .i64 131)))
            clear hr ho HN
            go_wp2_with fail
            refine HF.out.mono ?_
            rintro en w2 ⟨rfl, rfl⟩
            clear HF y0 y1 y2 y3 y4 yf
            generalize w1.setCell ⟨G, 2, none⟩ (.int .i64 131) = w3 at *
            go_wp2_with fail
            change bodyPost Tryd.prog Tryd.f43 _ Exit.ret _ _
            go_ret
            exact DigQ.no HE.out (by decide) HR2.out HO2.out
      rw [if_neg hdig] at hd
      have d1 : decide ((y : Int) < 48) = false := decide_eq_false (by omega)
      have d2 : decide ((57 : Int) < (y : Int)) = false := decide_eq_false (by omega)
      have t1 : ((y : Int) == 13) = false := by simp; omega
      have t2 : decide ((y : Int) = 13) = false := decide_eq_false (by omega)
      obtain ⟨d, rfl⟩ : ∃ d, y = d + 48 := ⟨y - 48, by omega⟩
      have hd9 : d ≤ 9 := by omega
      rw [show d + 48 - 48 = d by omega] at hd
      have hy : ((d + 48 : Nat) : Int) = (d : Int) + 48 := by omega
      rw [hy] at HN d1 d2 t1 t2 hwc
      have hw8 : IntKind.u64.wrap ((d : Int) + 48 - 48) = (d : Int) := by rw [IntKind.wrap_u64]; omega
      clear hy hdig hx8 HX
      by_cases hz : first < p ∧ acc = 0
      · rw [if_pos hz] at hd
        have HE := Lib.hid (digE_no (l := bl b) hd (by decide))
        have hm0 : 0 < m := by have := HM.out; omega
        have n1 : decide ((0 : Int) < (m : Int)) = true := decide_eq_true (by omega)
        have n2 : decide (0 < m) = true := decide_eq_true (by omega)
        obtain ⟨hz1, rfl⟩ := hz
        clear hd
        go_wp2_with fail
        refine HN.out.mono ?_
        rintro en w1 ⟨rfl, hr, ho⟩
        obtain ⟨y0, y1, y2, y3, y4, yf⟩ := hr.rows
        have HF := Lib.hid (fail_yes w1 131 hr rfl)
        have HR2 := Lib.hid (hr.wr 131)
        have HO2 := Lib.hid (only_trans (only_trans HO.out ho) (only_set G 2 w1 (.int .i64 131)))
        clear hr ho HN
        go_wp2_with fail
        refine HF.out.mono ?_
        rintro en w2 ⟨rfl, rfl⟩
        clear HF y0 y1 y2 y3 y4 yf
        generalize w1.setCell ⟨G, 2, none⟩ (.int .i64 131) = w3 at *
        go_wp2_with fail
        change bodyPost Tryd.prog Tryd.f43 _ Exit.ret _ _
        go_ret
        exact DigQ.no HE.out (by decide) HR2.out HO2.out
      rw [if_neg hz] at hd
      have hmz : m = 0 ∧ (d = 0 ∧ least = 0 ∨ d ≠ 0) ∨ 0 < m ∧ acc ≠ 0 := by
        by_cases h1 : p = first
        · exact .inl ⟨by have := HM.out; omega, by rcases H4.out h1 with h | h <;> omega⟩
        · exact .inr ⟨by have := HM.out; omega, fun h2 => hz ⟨by omega, h2⟩⟩
      clear hz H4
      have hw1 : d ≤ most → IntKind.u64.wrap ((most : Int) - (d : Int)) = ((most - d : Nat) : Int) := fun _ => by rw [IntKind.wrap_u64]; omega
      have hw2 : IntKind.u64.wrap (((most - d : Nat) : Int).tdiv 10) = (((most - d) / 10 : Nat) : Int) := by rw [show ((most - d : Nat) : Int).tdiv 10 = (((most - d) / 10 : Nat) : Int) by rw [Int.tdiv_eq_ediv_of_nonneg (by omega)]; omega]; rw [IntKind.wrap_u64]; omega
      have HW1 := Lib.hid hw1
      clear hw1
      rcases hmz with ⟨hm0, ⟨hd0, hl0⟩ | hd0⟩ | ⟨hm0, ha0⟩
      · have n1 : decide ((0 : Int) < (m : Int)) = false := decide_eq_false (by omega)
        have n2 : decide (0 < m) = false := decide_eq_false (by omega)
        have n5 : ¬ 0 < m := by omega
        have n6 : decide (m = 0) = true := decide_eq_true (by omega)
        have n3 : ((m : Int) == 0) = true := by simp; omega
        have n4 : decide ((m : Int) = 0) = true := decide_eq_true (by omega)
        have k1 : decide ((0 : Int) < (least : Int)) = false := decide_eq_false (by omega)
        have k4 : ¬ 0 < least := by omega
        have k5 : decide (0 < least) = false := decide_eq_false (by omega)
        have k2 : ((d : Int) == 0) = true := by simp; omega
        have k3 : decide ((d : Int) = 0) = true := decide_eq_true (by omega)
        clear hm0 hl0 hd0
        by_cases hb : most < d
        · rw [if_pos (.inl hb)] at hd
          have HE := Lib.hid (digE_no (l := bl b) hd (by decide))
          have g1 : decide ((most : Int) < (d : Int)) = true := decide_eq_true (by omega)
          clear hd hw2 HW1
          go_wp2_with fail
          refine HN.out.mono ?_
          rintro en w1 ⟨rfl, hr, ho⟩
          obtain ⟨y0, y1, y2, y3, y4, yf⟩ := hr.rows
          have HF := Lib.hid (fail_yes w1 131 hr rfl)
          have HR2 := Lib.hid (hr.wr 131)
          have HO2 := Lib.hid (only_trans (only_trans HO.out ho) (only_set G 2 w1 (.int .i64 131)))
          clear hr ho HN
          go_wp2_with fail
          refine HF.out.mono ?_
          rintro en w2 ⟨rfl, rfl⟩
          clear HF y0 y1 y2 y3 y4 yf
          generalize w1.setCell ⟨G, 2, none⟩ (.int .i64 131) = w3 at *
          go_wp2_with fail
          change bodyPost Tryd.prog Tryd.f43 _ Exit.ret _ _
          go_ret
          exact DigQ.no HE.out (by decide) HR2.out HO2.out
        have g1 : decide ((most : Int) < (d : Int)) = false := decide_eq_false (by omega)
        have hw1 := HW1.out (by omega)
        by_cases hc : (most - d) / 10 < acc
        · rw [if_pos (.inr hc)] at hd
          have HE := Lib.hid (digE_no (l := bl b) hd (by decide))
          have g2 : decide ((((most - d) / 10 : Nat) : Int) < (acc : Int)) = true := decide_eq_true (by omega)
          clear hd
          go_wp2_with fail
          refine HN.out.mono ?_
          rintro en w1 ⟨rfl, hr, ho⟩
          obtain ⟨y0, y1, y2, y3, y4, yf⟩ := hr.rows
          have HF := Lib.hid (fail_yes w1 131 hr rfl)
          have HR2 := Lib.hid (hr.wr 131)
          have HO2 := Lib.hid (only_trans (only_trans HO.out ho) (only_set G 2 w1 (.int .i64 131)))
          clear hr ho HN
          go_wp2_with fail
          refine HF.out.mono ?_
          rintro en w2 ⟨rfl, rfl⟩
          clear HF y0 y1 y2 y3 y4 yf
          generalize w1.setCell ⟨G, 2, none⟩ (.int .i64 131) = w3 at *
          go_wp2_with fail
          change bodyPost Tryd.prog Tryd.f43 _ Exit.ret _ _
          go_ret
          exact DigQ.no HE.out (by decide) HR2.out HO2.out
        rw [if_neg (fun h => h.elim hb hc)] at hd
        have g2 : decide ((((most - d) / 10 : Nat) : Int) < (acc : Int)) = false := decide_eq_false (by omega)
        have HDD : Hid (digF ((bl b).length + 1 - (p + 1)) most first (bl b) (p + 1) (acc * 10 + d) = R) := Lib.hid (by rw [show (bl b).length + 1 - (p + 1) = (bl b).length - p by omega]; exact hd)
        have hnew : acc * 10 + d ≤ most := by omega
        have hw3 : IntKind.u64.wrap ((10 : Int) * (acc : Int)) = ((acc * 10 : Nat) : Int) := by rw [IntKind.wrap_u64]; omega
        have hw4 : IntKind.u64.wrap (((acc * 10 : Nat) : Int) + (d : Int)) = ((acc * 10 + d : Nat) : Int) := by rw [IntKind.wrap_u64]; omega
        have hmb : m ≤ 9000000000000000000 := by have := HM.out; omega
        clear hd hb hc
        go_wp2_with fail
        refine HN.out.mono ?_
        rintro en w1 ⟨rfl, hr, ho⟩
        obtain ⟨y0, y1, y2, y3, y4, yf⟩ := hr.rows
        have HR2 := Lib.hid hr
        have HO2 := Lib.hid (only_trans HO.out ho)
        have HPL := Lib.hid hr.place
        have HPL0 := Lib.hid HI.out.place
        clear hr ho HN
        go_wp2_with fail
        go_roundw
        case rel => exact ⟨p + 1, acc * 10 + d, m + 1, by go_num, by go_num, by show _ = _; rw [HM.out]; omega, by omega, hnew, HR2, HDD, HO2, Lib.hid (fun e => absurd e (by omega))⟩
        case measure => rw [HPL.out, HPL0.out]; have := HL.out; omega
      · have n1 : decide ((0 : Int) < (m : Int)) = false := decide_eq_false (by omega)
        have n2 : decide (0 < m) = false := decide_eq_false (by omega)
        have n5 : ¬ 0 < m := by omega
        have n6 : decide (m = 0) = true := decide_eq_true (by omega)
        have n3 : ((m : Int) == 0) = true := by simp; omega
        have n4 : decide ((m : Int) = 0) = true := decide_eq_true (by omega)
        have k1 : ((d : Int) == 0) = false := by simp; omega
        have k2 : decide ((d : Int) = 0) = false := decide_eq_false (by omega)
        have k3 : ¬ d = 0 := hd0
        clear hm0 hd0
        by_cases hb : most < d
        · rw [if_pos (.inl hb)] at hd
          have HE := Lib.hid (digE_no (l := bl b) hd (by decide))
          have g1 : decide ((most : Int) < (d : Int)) = true := decide_eq_true (by omega)
          clear hd hw2 HW1
          go_wp2_with fail
          refine HN.out.mono ?_
          rintro en w1 ⟨rfl, hr, ho⟩
          obtain ⟨y0, y1, y2, y3, y4, yf⟩ := hr.rows
          have HF := Lib.hid (fail_yes w1 131 hr rfl)
          have HR2 := Lib.hid (hr.wr 131)
          have HO2 := Lib.hid (only_trans (only_trans HO.out ho) (only_set G 2 w1 (.int .i64 131)))
          clear hr ho HN
          go_wp2_with fail
          refine HF.out.mono ?_
          rintro en w2 ⟨rfl, rfl⟩
          clear HF y0 y1 y2 y3 y4 yf
          generalize w1.setCell ⟨G, 2, none⟩ (.int .i64 131) = w3 at *
          go_wp2_with fail
          change bodyPost Tryd.prog Tryd.f43 _ Exit.ret _ _
          go_ret
          exact DigQ.no HE.out (by decide) HR2.out HO2.out
        have g1 : decide ((most : Int) < (d : Int)) = false := decide_eq_false (by omega)
        have hw1 := HW1.out (by omega)
        by_cases hc : (most - d) / 10 < acc
        · rw [if_pos (.inr hc)] at hd
          have HE := Lib.hid (digE_no (l := bl b) hd (by decide))
          have g2 : decide ((((most - d) / 10 : Nat) : Int) < (acc : Int)) = true := decide_eq_true (by omega)
          clear hd
          go_wp2_with fail
          refine HN.out.mono ?_
          rintro en w1 ⟨rfl, hr, ho⟩
          obtain ⟨y0, y1, y2, y3, y4, yf⟩ := hr.rows
          have HF := Lib.hid (fail_yes w1 131 hr rfl)
          have HR2 := Lib.hid (hr.wr 131)
          have HO2 := Lib.hid (only_trans (only_trans HO.out ho) (only_set G 2 w1 (.int .i64 131)))
          clear hr ho HN
          go_wp2_with fail
          refine HF.out.mono ?_
          rintro en w2 ⟨rfl, rfl⟩
          clear HF y0 y1 y2 y3 y4 yf
          generalize w1.setCell ⟨G, 2, none⟩ (.int .i64 131) = w3 at *
          go_wp2_with fail
          change bodyPost Tryd.prog Tryd.f43 _ Exit.ret _ _
          go_ret
          exact DigQ.no HE.out (by decide) HR2.out HO2.out
        rw [if_neg (fun h => h.elim hb hc)] at hd
        have g2 : decide ((((most - d) / 10 : Nat) : Int) < (acc : Int)) = false := decide_eq_false (by omega)
        have HDD : Hid (digF ((bl b).length + 1 - (p + 1)) most first (bl b) (p + 1) (acc * 10 + d) = R) := Lib.hid (by rw [show (bl b).length + 1 - (p + 1) = (bl b).length - p by omega]; exact hd)
        have hnew : acc * 10 + d ≤ most := by omega
        have hw3 : IntKind.u64.wrap ((10 : Int) * (acc : Int)) = ((acc * 10 : Nat) : Int) := by rw [IntKind.wrap_u64]; omega
        have hw4 : IntKind.u64.wrap (((acc * 10 : Nat) : Int) + (d : Int)) = ((acc * 10 + d : Nat) : Int) := by rw [IntKind.wrap_u64]; omega
        have hmb : m ≤ 9000000000000000000 := by have := HM.out; omega
        clear hd hb hc
        go_wp2_with fail
        refine HN.out.mono ?_
        rintro en w1 ⟨rfl, hr, ho⟩
        obtain ⟨y0, y1, y2, y3, y4, yf⟩ := hr.rows
        have HR2 := Lib.hid hr
        have HO2 := Lib.hid (only_trans HO.out ho)
        have HPL := Lib.hid hr.place
        have HPL0 := Lib.hid HI.out.place
        clear hr ho HN
        go_wp2_with fail
        go_roundw
        case rel => exact ⟨p + 1, acc * 10 + d, m + 1, by go_num, by go_num, by show _ = _; rw [HM.out]; omega, by omega, hnew, HR2, HDD, HO2, Lib.hid (fun e => absurd e (by omega))⟩
        case measure => rw [HPL.out, HPL0.out]; have := HL.out; omega
      · have n1 : decide ((0 : Int) < (m : Int)) = true := decide_eq_true (by omega)
        have n2 : decide (0 < m) = true := decide_eq_true (by omega)
        have n6 : decide (m = 0) = false := decide_eq_false (by omega)
        have n7 : ¬ m = 0 := by omega
        have n8 : ¬ acc = 0 := ha0
        have n3 : ((m : Int) == 0) = false := by simp; omega
        have n4 : decide ((m : Int) = 0) = false := decide_eq_false (by omega)
        have k1 : ((acc : Int) == 0) = false := by simp; omega
        have k2 : decide ((acc : Int) = 0) = false := decide_eq_false (by omega)
        clear hm0 ha0
        by_cases hb : most < d
        · rw [if_pos (.inl hb)] at hd
          have HE := Lib.hid (digE_no (l := bl b) hd (by decide))
          have g1 : decide ((most : Int) < (d : Int)) = true := decide_eq_true (by omega)
          clear hd hw2 HW1
          go_wp2_with fail
          refine HN.out.mono ?_
          rintro en w1 ⟨rfl, hr, ho⟩
          obtain ⟨y0, y1, y2, y3, y4, yf⟩ := hr.rows
          have HF := Lib.hid (fail_yes w1 131 hr rfl)
          have HR2 := Lib.hid (hr.wr 131)
          have HO2 := Lib.hid (only_trans (only_trans HO.out ho) (only_set G 2 w1 (.int .i64 131)))
          clear hr ho HN
          go_wp2_with fail
          refine HF.out.mono ?_
          rintro en w2 ⟨rfl, rfl⟩
          clear HF y0 y1 y2 y3 y4 yf
          generalize w1.setCell ⟨G, 2, none⟩ (.int .i64 131) = w3 at *
          go_wp2_with fail
          change bodyPost Tryd.prog Tryd.f43 _ Exit.ret _ _
          go_ret
          exact DigQ.no HE.out (by decide) HR2.out HO2.out
        have g1 : decide ((most : Int) < (d : Int)) = false := decide_eq_false (by omega)
        have hw1 := HW1.out (by omega)
        by_cases hc : (most - d) / 10 < acc
        · rw [if_pos (.inr hc)] at hd
          have HE := Lib.hid (digE_no (l := bl b) hd (by decide))
          have g2 : decide ((((most - d) / 10 : Nat) : Int) < (acc : Int)) = true := decide_eq_true (by omega)
          clear hd
          go_wp2_with fail
          refine HN.out.mono ?_
          rintro en w1 ⟨rfl, hr, ho⟩
          obtain ⟨y0, y1, y2, y3, y4, yf⟩ := hr.rows
          have HF := Lib.hid (fail_yes w1 131 hr rfl)
          have HR2 := Lib.hid (hr.wr 131)
          have HO2 := Lib.hid (only_trans (only_trans HO.out ho) (only_set G 2 w1 (.int .i64 131)))
          clear hr ho HN
          go_wp2_with fail
          refine HF.out.mono ?_
          rintro en w2 ⟨rfl, rfl⟩
          clear HF y0 y1 y2 y3 y4 yf
          generalize w1.setCell ⟨G, 2, none⟩ (.int .i64 131) = w3 at *
          go_wp2_with fail
          change bodyPost Tryd.prog Tryd.f43 _ Exit.ret _ _
          go_ret
          exact DigQ.no HE.out (by decide) HR2.out HO2.out
        rw [if_neg (fun h => h.elim hb hc)] at hd
        have g2 : decide ((((most - d) / 10 : Nat) : Int) < (acc : Int)) = false := decide_eq_false (by omega)
        have HDD : Hid (digF ((bl b).length + 1 - (p + 1)) most first (bl b) (p + 1) (acc * 10 + d) = R) := Lib.hid (by rw [show (bl b).length + 1 - (p + 1) = (bl b).length - p by omega]; exact hd)
        have hnew : acc * 10 + d ≤ most := by omega
        have hw3 : IntKind.u64.wrap ((10 : Int) * (acc : Int)) = ((acc * 10 : Nat) : Int) := by rw [IntKind.wrap_u64]; omega
        have hw4 : IntKind.u64.wrap (((acc * 10 : Nat) : Int) + (d : Int)) = ((acc * 10 + d : Nat) : Int) := by rw [IntKind.wrap_u64]; omega
        have hmb : m ≤ 9000000000000000000 := by have := HM.out; omega
        clear hd hb hc
        go_wp2_with fail
        refine HN.out.mono ?_
        rintro en w1 ⟨rfl, hr, ho⟩
        obtain ⟨y0, y1, y2, y3, y4, yf⟩ := hr.rows
        have HR2 := Lib.hid hr
        have HO2 := Lib.hid (only_trans HO.out ho)
        have HPL := Lib.hid hr.place
        have HPL0 := Lib.hid HI.out.place
        clear hr ho HN
        go_wp2_with fail
        go_roundw
        case rel => exact ⟨p + 1, acc * 10 + d, m + 1, by go_num, by go_num, by show _ = _; rw [HM.out]; omega, by omega, hnew, HR2, HDD, HO2, Lib.hid (fun e => absurd e (by omega))⟩
        case measure => rw [HPL.out, HPL0.out]; have := HL.out; omega
    · have HE : Hid (digE (bl b) R = 130) := Lib.hid (digE_no (l := bl b) (x := acc) (y := p) (by have hd := HD.out; rw [show (bl b).length + 1 - p = 0 + 1 by have := HL.out; omega] at hd; unfold digF at hd; rw [List.getElem?_eq_none (by omega)] at hd; exact hd) (by decide))
      have HN := Lib.hid (next_end wr HI.out (by have := HL.out; omega))
      go_wp2_with fail
      refine HN.out.mono ?_
      rintro en w1 ⟨rfl, hr, ho⟩
      obtain ⟨y0, y1, y2, y3, y4, yf⟩ := hr.rows
      have HR2 := Lib.hid hr
      have HO2 := Lib.hid (only_trans HO.out ho)
      clear hr ho HN
      go_wp2_with fail
      change bodyPost Tryd.prog Tryd.f43 _ Exit.ret _ _
      go_ret
      exact DigQ.no HE.out (by decide) HR2.out HO2.out
end
end Go.Proofs.YtglicojojpggmaaDoor
