/- The digits of a number that are taken. -/
import Derived.Test.YtglicojojpggmaaDoorInp
import Derived.WalkMore
namespace Go.Proofs.YtglicojojpggmaaDoor
open Go Go.RowKit
/-- Digits from a place on: why there are none, the number, the place behind. -/
def digF : Nat → Nat → Nat → List UInt8 → Nat → Nat → Int × Nat × Nat
  | 0, _, _, _, a, acc => (130, acc, a)
  | f + 1, most, first, l, a, acc => match l[a]? with
    | none => (130, acc, a)
    | some x => if x.toNat < 48 ∨ 57 < x.toNat then (if a = first then (131, acc, a) else (0, acc, a))
      else if first < a ∧ acc = 0 then (131, acc, a)
      else if most < x.toNat - 48 ∨ (most - (x.toNat - 48)) / 10 < acc then (131, acc, a)
      else digF f most first l (a + 1) (acc * 10 + (x.toNat - 48))
def digR (most : Nat) (l : List UInt8) (a : Nat) : Int × Nat × Nat := digF (l.length + 1 - a) most a l a 0
section
variable {W : World} {G : Nat} {A : Option Addr} {n c : Nat} {l : List UInt8} {a : Nat} {tx it li : Int}
def posOf (G : Nat) (W : World) : Nat := match W.cell? ⟨G, 1, none⟩ with
  | some (.int _ z) => z.toNat
  | _ => 0
theorem TakeQ.no {R : Int × Nat × Nat} {k : Int} {acc p : Nat} {w w' : World} {v : Value} {b : Nat} (h : (k, acc, p) = R) (hk : k ≠ 0) (ho : Only G w w') : TakeQ w G A n c l R.1 v b tx it li (.panicked (stopP k)) w' := by
  subst h
  exact ⟨.inr ⟨hk, rfl⟩, ho⟩
theorem TakeQ.yes {R : Int × Nat × Nat} {acc p : Nat} {w w' : World} (h : (0, acc, p) = R) (hi : Inp w' G A n c l p tx it li) (ho : Only G w w') : TakeQ w G A n c l R.1 (.int .u64 R.2.1) R.2.2 tx it li (.returned (.int .u64 acc)) w' := by
  subst h
  exact ⟨.inl ⟨rfl, rfl, hi⟩, ho⟩
theorem Inp.place (h : Inp W G A n c l a tx it li) : posOf G W = a := by
  unfold posOf
  rw [h.rows.2.1]
  simp
set_option maxRecDepth 100000 in
set_option maxHeartbeats 8000000 in
theorem digits_any (w : World) (most : Nat) (h : Inp w G A n c l a tx it li) (hm : most ≤ 9223372036854775808) :
    Calls Tryd.prog 80 #[.pointer (some ⟨G, 0, none⟩), .int .u64 most] w (TakeQ w G A n c l (digR most l a).1 (.int .u64 (digR most l a).2.1) (digR most l a).2.2 tx it li) := by
  have H := Lib.hid h
  have hmx := h.max
  have hps := h.pos
  have HL := Lib.hid h.len
  obtain ⟨z0, z1, z2, z3, z4, zf⟩ := h.rows
  obtain ⟨R, hR⟩ : ∃ R, digR most l a = R := ⟨_, rfl⟩
  rw [hR]
  have HR := Lib.hid hR
  clear h hR
  go_enter Tryd.func80, Tryd.ntmps80
  go_wp2_with fail
  go_step3
  go_wp2_with fail
  go_step3
  go_wp2_with fail
  go_loopw [5] (fun v W => ∃ (p acc : Nat), v = .int .u64 acc ∧ a ≤ p ∧ acc ≤ most ∧ Hid (Inp W G A n c l p tx it li) ∧ Hid (digF (l.length + 1 - p) most a l p acc = R) ∧ Hid (Only G w W)) (fun _ W => n - posOf G W)
  case atStart => exact ⟨a, 0, rfl, Nat.le_refl _, Nat.zero_le _, H, Lib.hid (by rw [← HR.out]; rfl), Lib.hid (only_drew G w 0)⟩
  case round =>
    clear z0 z1 z2 z3 z4 zf HR H
    obtain ⟨p, acc, rfl, hap, hac, HI, HD, HO⟩ := hrel
    have hpn := HI.out.pos
    by_cases hp : p < l.length
    · obtain ⟨x, hx⟩ : ∃ x, l[p] = x := ⟨_, rfl⟩
      have HP := Lib.hid (peek_yes wr HI.out hp)
      rw [hx] at HP
      have hd := HD.out
      rw [show l.length + 1 - p = (l.length - p) + 1 by omega] at hd
      unfold digF at hd
      rw [List.getElem?_eq_getElem hp, hx] at hd
      simp only at hd
      have hx8 := x.toNat_lt
      generalize x.toNat = y at HP hd hx8
      clear HD hx
      by_cases hdig : y < 48 ∨ 57 < y
      · rw [if_pos hdig] at hd
        by_cases hpa : p = a
        · rw [if_pos hpa] at hd
          have HDD := Lib.hid hd
          have e1 : decide ((p : Int) = (a : Int)) = true := decide_eq_true (by omega)
          have e2 : ((p : Int) == (a : Int)) = true := by simp [hpa]
          subst hpa
          clear hd
          rcases hdig with h1 | h1
          · have d1 : decide ((y : Int) < 48) = true := decide_eq_true (by omega)
            go_wp2_with fail
            refine HP.out.mono ?_
            rintro e w1 ⟨rfl, q, rfl⟩
            obtain ⟨z0, z1, z2, z3, z4, zf⟩ := (HI.out.drew q).rows
            have HOQ := Lib.hid (only_trans HO.out (only_drew G wr q))
            clear HP
            go_wp2_with fail
            exact post_panic (P := Tryd.prog) (fn := Tryd.f80) rfl (TakeQ.no HDD.out (by decide) HOQ.out)
          · have d1 : decide ((y : Int) < 48) = false := decide_eq_false (by omega)
            have d2 : decide ((57 : Int) < (y : Int)) = true := decide_eq_true (by omega)
            go_wp2_with fail
            refine HP.out.mono ?_
            rintro e w1 ⟨rfl, q, rfl⟩
            obtain ⟨z0, z1, z2, z3, z4, zf⟩ := (HI.out.drew q).rows
            have HOQ := Lib.hid (only_trans HO.out (only_drew G wr q))
            clear HP
            go_wp2_with fail
            exact post_panic (P := Tryd.prog) (fn := Tryd.f80) rfl (TakeQ.no HDD.out (by decide) HOQ.out)
        · rw [if_neg hpa] at hd
          have HDD := Lib.hid hd
          have e1 : decide ((p : Int) = (a : Int)) = false := decide_eq_false (by omega)
          have e2 : ((p : Int) == (a : Int)) = false := by simp; omega
          clear hd
          rcases hdig with h1 | h1
          · have d1 : decide ((y : Int) < 48) = true := decide_eq_true (by omega)
            go_wp2_with fail
            refine HP.out.mono ?_
            rintro e w1 ⟨rfl, q, rfl⟩
            obtain ⟨z0, z1, z2, z3, z4, zf⟩ := (HI.out.drew q).rows
            have HOQ := Lib.hid (only_trans HO.out (only_drew G wr q))
            clear HP
            go_wp2_with fail
            change bodyPost Tryd.prog Tryd.f80 _ Exit.ret _ _
            go_ret
            exact TakeQ.yes HDD.out (HI.out.drew q) HOQ.out
          · have d1 : decide ((y : Int) < 48) = false := decide_eq_false (by omega)
            have d2 : decide ((57 : Int) < (y : Int)) = true := decide_eq_true (by omega)
            go_wp2_with fail
            refine HP.out.mono ?_
            rintro e w1 ⟨rfl, q, rfl⟩
            obtain ⟨z0, z1, z2, z3, z4, zf⟩ := (HI.out.drew q).rows
            have HOQ := Lib.hid (only_trans HO.out (only_drew G wr q))
            clear HP
            go_wp2_with fail
            change bodyPost Tryd.prog Tryd.f80 _ Exit.ret _ _
            go_ret
            exact TakeQ.yes HDD.out (HI.out.drew q) HOQ.out
      rw [if_neg hdig] at hd
      have d1 : decide ((y : Int) < 48) = false := decide_eq_false (by omega)
      have d2 : decide ((57 : Int) < (y : Int)) = false := decide_eq_false (by omega)
      by_cases hz : a < p ∧ acc = 0
      · rw [if_pos hz] at hd
        obtain ⟨hz1, rfl⟩ := hz
        have HDD := Lib.hid hd
        have e1 : decide ((a : Int) < (p : Int)) = true := decide_eq_true (by omega)
        clear hd
        go_wp2_with fail
        refine HP.out.mono ?_
        rintro e w1 ⟨rfl, q, rfl⟩
        obtain ⟨z0, z1, z2, z3, z4, zf⟩ := (HI.out.drew q).rows
        have HOQ := Lib.hid (only_trans HO.out (only_drew G wr q))
        clear HP
        go_wp2_with fail
        exact post_panic (P := Tryd.prog) (fn := Tryd.f80) rfl (TakeQ.no HDD.out (by decide) HOQ.out)
      rw [if_neg hz] at hd
      obtain ⟨d, rfl⟩ : ∃ d, y = d + 48 := ⟨y - 48, by omega⟩
      have hd9 : d ≤ 9 := by omega
      rw [show d + 48 - 48 = d by omega] at hd
      have hy : ((d + 48 : Nat) : Int) = (d : Int) + 48 := by omega
      rw [hy] at HP d1 d2
      have hw8 : IntKind.u8.wrap ((d : Int) + 48 - 48) = (d : Int) := by rw [IntKind.wrap_u8]; omega
      clear hy hdig hx8
      by_cases hb : most < d
      · rw [if_pos (.inl hb)] at hd
        have HDD := Lib.hid hd
        have g1 : decide ((most : Int) < (d : Int)) = true := decide_eq_true (by omega)
        clear hd
        by_cases hap2 : a < p
        · have e1 : decide ((a : Int) < (p : Int)) = true := decide_eq_true (by omega)
          have hacc : acc ≠ 0 := fun h => hz ⟨hap2, h⟩
          have e2 : ((acc : Int) == 0) = false := by simp; omega
          have e3 : decide ((acc : Int) = 0) = false := decide_eq_false (by omega)
          clear hz
          go_wp2_with fail
          refine HP.out.mono ?_
          rintro e w1 ⟨rfl, q, rfl⟩
          obtain ⟨z0, z1, z2, z3, z4, zf⟩ := (HI.out.drew q).rows
          have HOQ := Lib.hid (only_trans HO.out (only_drew G wr q))
          clear HP
          go_wp2_with fail
          exact post_panic (P := Tryd.prog) (fn := Tryd.f80) rfl (TakeQ.no HDD.out (by decide) HOQ.out)
        · have e1 : decide ((a : Int) < (p : Int)) = false := decide_eq_false (by omega)
          clear hz
          go_wp2_with fail
          refine HP.out.mono ?_
          rintro e w1 ⟨rfl, q, rfl⟩
          obtain ⟨z0, z1, z2, z3, z4, zf⟩ := (HI.out.drew q).rows
          have HOQ := Lib.hid (only_trans HO.out (only_drew G wr q))
          clear HP
          go_wp2_with fail
          exact post_panic (P := Tryd.prog) (fn := Tryd.f80) rfl (TakeQ.no HDD.out (by decide) HOQ.out)
      have g1 : decide ((most : Int) < (d : Int)) = false := decide_eq_false (by omega)
      have hw1 : IntKind.u64.wrap ((most : Int) - (d : Int)) = ((most - d : Nat) : Int) := by rw [IntKind.wrap_u64]; omega
      have hw2 : IntKind.u64.wrap (((most - d : Nat) : Int).tdiv 10) = (((most - d) / 10 : Nat) : Int) := by rw [show ((most - d : Nat) : Int).tdiv 10 = (((most - d) / 10 : Nat) : Int) by rw [Int.tdiv_eq_ediv_of_nonneg (by omega)]; omega]; rw [IntKind.wrap_u64]; omega
      by_cases hc : (most - d) / 10 < acc
      · rw [if_pos (.inr hc)] at hd
        have HDD := Lib.hid hd
        have g2 : decide ((((most - d) / 10 : Nat) : Int) < (acc : Int)) = true := decide_eq_true (by omega)
        clear hd
        by_cases hap2 : a < p
        · have e1 : decide ((a : Int) < (p : Int)) = true := decide_eq_true (by omega)
          have hacc : acc ≠ 0 := fun h => hz ⟨hap2, h⟩
          have e2 : ((acc : Int) == 0) = false := by simp; omega
          have e3 : decide ((acc : Int) = 0) = false := decide_eq_false (by omega)
          clear hz
          go_wp2_with fail
          refine HP.out.mono ?_
          rintro e w1 ⟨rfl, q, rfl⟩
          obtain ⟨z0, z1, z2, z3, z4, zf⟩ := (HI.out.drew q).rows
          have HOQ := Lib.hid (only_trans HO.out (only_drew G wr q))
          clear HP
          go_wp2_with fail
          exact post_panic (P := Tryd.prog) (fn := Tryd.f80) rfl (TakeQ.no HDD.out (by decide) HOQ.out)
        · have e1 : decide ((a : Int) < (p : Int)) = false := decide_eq_false (by omega)
          clear hz
          go_wp2_with fail
          refine HP.out.mono ?_
          rintro e w1 ⟨rfl, q, rfl⟩
          obtain ⟨z0, z1, z2, z3, z4, zf⟩ := (HI.out.drew q).rows
          have HOQ := Lib.hid (only_trans HO.out (only_drew G wr q))
          clear HP
          go_wp2_with fail
          exact post_panic (P := Tryd.prog) (fn := Tryd.f80) rfl (TakeQ.no HDD.out (by decide) HOQ.out)
      rw [if_neg (fun h => h.elim hb hc)] at hd
      have g2 : decide ((((most - d) / 10 : Nat) : Int) < (acc : Int)) = false := decide_eq_false (by omega)
      have HDD : Hid (digF (l.length + 1 - (p + 1)) most a l (p + 1) (acc * 10 + d) = R) := Lib.hid (by rw [show l.length + 1 - (p + 1) = l.length - p by omega]; exact hd)
      have hnew : acc * 10 + d ≤ most := by omega
      clear hd
      have hw3 : IntKind.u64.wrap ((acc : Int) * 10) = ((acc * 10 : Nat) : Int) := by rw [IntKind.wrap_u64]; omega
      have hw4 : IntKind.u64.wrap (((acc * 10 : Nat) : Int) + (d : Int)) = ((acc * 10 + d : Nat) : Int) := by rw [IntKind.wrap_u64]; omega
      by_cases hap2 : a < p
      · have e1 : decide ((a : Int) < (p : Int)) = true := decide_eq_true (by omega)
        have hacc : acc ≠ 0 := fun h => hz ⟨hap2, h⟩
        have e2 : ((acc : Int) == 0) = false := by simp; omega
        have e3 : decide ((acc : Int) = 0) = false := decide_eq_false (by omega)
        clear hz
        go_wp2_with fail
        refine HP.out.mono ?_
        rintro e w1 ⟨rfl, q, rfl⟩
        obtain ⟨z0, z1, z2, z3, z4, zf⟩ := (HI.out.drew q).rows
        have hi := (HI.out.drew q).at (p + 1) (by have := HL.out; omega)
        have ho := only_trans HO.out (only_trans (only_drew G wr q) (only_set G 1 (wr.drewN q) (.int .i64 ((p + 1 : Nat) : Int))))
        have hpl := hi.place
        have hpl0 := HI.out.place
        rw [show ((p + 1 : Nat) : Int) = (p : Int) + 1 by omega] at hi ho hpl
        have HI2 := Lib.hid hi
        have HO2 := Lib.hid ho
        have HPL := Lib.hid hpl
        have HPL0 := Lib.hid hpl0
        clear HP hi ho hpl hpl0
        go_wp2_with fail
        go_roundw
        case rel => exact ⟨p + 1, acc * 10 + d, by go_num, by omega, hnew, HI2, HDD, HO2⟩
        case measure => rw [HPL.out, HPL0.out]; have := HL.out; omega
      · have e1 : decide ((a : Int) < (p : Int)) = false := decide_eq_false (by omega)
        clear hz
        go_wp2_with fail
        refine HP.out.mono ?_
        rintro e w1 ⟨rfl, q, rfl⟩
        obtain ⟨z0, z1, z2, z3, z4, zf⟩ := (HI.out.drew q).rows
        have hi := (HI.out.drew q).at (p + 1) (by have := HL.out; omega)
        have ho := only_trans HO.out (only_trans (only_drew G wr q) (only_set G 1 (wr.drewN q) (.int .i64 ((p + 1 : Nat) : Int))))
        have hpl := hi.place
        have hpl0 := HI.out.place
        rw [show ((p + 1 : Nat) : Int) = (p : Int) + 1 by omega] at hi ho hpl
        have HI2 := Lib.hid hi
        have HO2 := Lib.hid ho
        have HPL := Lib.hid hpl
        have HPL0 := Lib.hid hpl0
        clear HP hi ho hpl hpl0
        go_wp2_with fail
        go_roundw
        case rel => exact ⟨p + 1, acc * 10 + d, by go_num, by omega, hnew, HI2, HDD, HO2⟩
        case measure => rw [HPL.out, HPL0.out]; have := HL.out; omega
    · have HDD : Hid ((130, acc, p) = R) := Lib.hid (by have hd := HD.out; rw [show l.length + 1 - p = 0 + 1 by have := HL.out; omega] at hd; unfold digF at hd; rw [List.getElem?_eq_none (by omega)] at hd; exact hd)
      have HP := Lib.hid (peek_no wr HI.out (by have := HL.out; omega))
      go_wp2_with fail
      refine HP.out.mono ?_
      rintro e w1 ⟨rfl, q, rfl⟩
      exact post_panic (P := Tryd.prog) (fn := Tryd.f80) rfl (TakeQ.no HDD.out (by decide) (only_trans HO.out (only_drew G wr q)))
end
end Go.Proofs.YtglicojojpggmaaDoor
