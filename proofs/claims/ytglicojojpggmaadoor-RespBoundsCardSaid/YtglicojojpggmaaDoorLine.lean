/- A text in a line of its own that is taken. -/
import Derived.Test.YtglicojojpggmaaDoorRParse
namespace Go.Proofs.YtglicojojpggmaaDoor
open Go Go.RowKit
/-- Where a line ends, or why it doesn't. -/
def lnF : Nat → Nat → Nat → List UInt8 → Nat → Int × Nat
  | 0, _, _, _, p => (130, p)
  | f + 1, tx, a, l, p => match l[p]? with
    | none => (130, p)
    | some x => if x.toNat = 13 then (0, p) else if x.toNat = 10 then (131, p) else if tx ≤ p - a then (131, p) else lnF f tx a l (p + 1)
def lnR (tx : Nat) (l : List UInt8) (a : Nat) : Int × Nat := lnF (l.length + 1 - a) tx a l a
/-- Why a line is not taken. -/
def lineE (tx : Nat) (l : List UInt8) (a : Nat) : Int := if (lnR tx l a).1 ≠ 0 then (lnR tx l a).1 else textE l a ((lnR tx l a).2 - a)
theorem lnF_le {tx a : Nat} {l : List UInt8} : ∀ (f p : Nat) {q : Nat}, lnF f tx a l p = (0, q) → p ≤ q ∧ q < l.length ∧ (a ≤ p → p - a ≤ tx → q - a ≤ tx)
  | 0, _, _, h => by simp [lnF] at h
  | f + 1, p, q, h => by
    unfold lnF at h
    split at h
    · simp at h
    · rename_i x hx
      have hp : p < l.length := by
        rcases Nat.lt_or_ge p l.length with h' | h'
        · exact h'
        · rw [List.getElem?_eq_none h'] at hx; cases hx
      split at h
      · cases h
        exact ⟨Nat.le_refl _, hp, fun _ h => h⟩
      · split at h
        · simp at h
        · split at h
          · simp at h
          · have := lnF_le f (p + 1) h
            exact ⟨by omega, this.2.1, fun h1 h2 => this.2.2 (by omega) (by omega)⟩
section
variable {W : World} {G : Nat} {A : Option Addr} {n c : Nat} {l : List UInt8} {a : Nat} {it li : Int}
set_option maxRecDepth 100000 in
set_option maxHeartbeats 8000000 in
theorem line_anyP (w : World) (tx : Nat) (h : Inp w G A n c l a (tx : Nat) it li) (htx : tx ≤ 1000000000) :
    Calls Tryd.prog 66 #[.pointer (some ⟨G, 0, none⟩)] w (TakeQ w G A n c l (lineE tx l a) (.string (cutT l a ((lnR tx l a).2 - a))) (a + ((lnR tx l a).2 - a) + 2) ((tx : Int) - (((lnR tx l a).2 - a : Nat) : Int)) it li) := by
  have H := Lib.hid h
  have hmx := h.max
  have hps := h.pos
  have HL := Lib.hid h.len
  obtain ⟨z0, z1, z2, z3, z4, zf⟩ := h.rows
  have HLE : Hid (lineE tx l a = if (lnR tx l a).1 ≠ 0 then (lnR tx l a).1 else textE l a ((lnR tx l a).2 - a)) := Lib.hid rfl
  obtain ⟨E, hE⟩ : ∃ E, lineE tx l a = E := ⟨_, rfl⟩
  rw [hE] at HLE ⊢
  have HBD := Lib.hid (fun (q : Nat) (h : lnF (l.length + 1 - a) tx a l a = (0, q)) => lnF_le _ _ h)
  obtain ⟨R, hR⟩ : ∃ R, lnR tx l a = R := ⟨_, rfl⟩
  rw [hR] at HLE ⊢
  unfold lnR at hR
  rw [hR] at HBD
  have HR := Lib.hid hR
  clear h hR hE
  go_enter Tryd.func66, Tryd.ntmps66
  go_wp2_with fail
  go_loopw [] (fun W => ∃ p : Nat, a ≤ p ∧ Hid (Inp W G A n c l p (tx : Nat) it li) ∧ Hid (lnF (l.length + 1 - p) tx a l p = R) ∧ Hid (Only G w W)) (fun W => n - posOf G W)
  case atStart => exact ⟨a, Nat.le_refl _, H, HR, Lib.hid (only_drew G w 0)⟩
  case round =>
    clear z0 z1 z2 z3 z4 zf HR H
    obtain ⟨p, hap, HI, HD, HO⟩ := hrel
    have hpn := HI.out.pos
    by_cases hp : p < l.length
    rotate_left
    · have HDD : Hid (R = (130, p)) := Lib.hid (by have hd := HD.out; rw [show l.length + 1 - p = 0 + 1 by have := HL.out; omega] at hd; unfold lnF at hd; rw [List.getElem?_eq_none (by omega)] at hd; exact hd.symm)
      have HP := Lib.hid (peek_no wr HI.out (by have := HL.out; omega))
      go_wp2_with fail
      refine HP.out.mono ?_
      rintro e w1 ⟨rfl, q, rfl⟩
      have HEK : Hid (E = 130) := Lib.hid (by rw [HLE.out, HDD.out]; exact if_pos (show (130 : Int) ≠ 0 by decide))
      exact post_panic (P := Tryd.prog) (fn := Tryd.f66) rfl ⟨.inr ⟨by rw [HEK.out]; decide, by rw [HEK.out]⟩, only_trans HO.out (only_drew G wr q)⟩
    obtain ⟨x, hx⟩ : ∃ x, l[p] = x := ⟨_, rfl⟩
    have HP := Lib.hid (peek_yes wr HI.out hp)
    rw [hx] at HP
    have HPQ : Hid (∀ q, Calls Tryd.prog 61 #[.pointer (some ⟨G, 0, none⟩)] (wr.drewN q) fun e w' => e = .returned (.int .u8 x.toNat) ∧ ∃ m, w' = (wr.drewN q).drewN m) := Lib.hid (fun q => by have := peek_yes (wr.drewN q) (HI.out.drew q) hp; rw [hx] at this; exact this)
    have hd := HD.out
    rw [show l.length + 1 - p = (l.length - p) + 1 by omega] at hd
    unfold lnF at hd
    rw [List.getElem?_eq_getElem hp, hx] at hd
    simp only at hd
    have hx8 := x.toNat_lt
    generalize x.toNat = y at HP HPQ hd hx8
    clear HD hx
    by_cases h13 : y = 13
    · rw [if_pos h13] at hd
      have HDD := Lib.hid hd.symm
      have t1 : ((y : Int) != 13) = false := by simp; omega
      have t2 : decide ((y : Int) = 13) = true := decide_eq_true (by omega)
      clear hd h13
      have hbd := HBD.out p (by rw [HDD.out])
      have hpa : p - a ≤ tx := hbd.2.2 (Nat.le_refl _) (by omega)
      go_wp2_with fail
      refine HP.out.mono ?_
      rintro e w1 ⟨rfl, q, rfl⟩
      have hi := (HI.out.drew q).at a (by omega)
      have HTX := Lib.hid (text_any _ (p - a) hi (by omega) (by omega) (by omega))
      have HO2 := Lib.hid (only_trans (only_trans HO.out (only_drew G wr q)) (only_set G 1 (wr.drewN q) (.int .i64 ((a : Nat) : Int))))
      obtain ⟨y0, y1, y2, y3, y4, yf⟩ := (HI.out.drew q).rows
      have hw1 : IntKind.i64.wrap ((p : Int) - (a : Int)) = ((p - a : Nat) : Int) := by rw [IntWalk.i64_in _ (by omega)]; omega
      have hw2 : (p : Int) - (a : Int) = ((p - a : Nat) : Int) := by omega
      clear HP HPQ hi hbd HBD
      go_wp2_with fail
      have HTE : Hid (E = textE l a (p - a)) := Lib.hid (by rw [HLE.out, HDD.out]; exact if_neg (by simp))
      have HRK : Hid (R.2 = p) := Lib.hid (by rw [HDD.out])
      rw [HRK.out]
      refine HTX.out.mono ?_
      rintro e w2 ⟨⟨he, rfl, hi2⟩ | ⟨he, rfl⟩, ho2⟩
      · have HI2 := Lib.hid hi2
        have HO3 := Lib.hid (only_trans HO2.out ho2)
        have HE2 : Hid (E = 0) := Lib.hid (HTE.out.trans he)
        clear hi2 ho2 he HTX
        go_wp2_with fail
        go_ret
        try rw [HRK.out]
        exact ⟨.inl ⟨HE2.out, rfl, HI2.out⟩, HO3.out⟩
      · exact post_panic (P := Tryd.prog) (fn := Tryd.f66) rfl ⟨.inr ⟨by rw [HTE.out]; exact he, by rw [HTE.out]⟩, only_trans HO2.out ho2⟩
    rw [if_neg h13] at hd
    have t1 : ((y : Int) != 13) = true := by simp; omega
    have t2 : decide ((y : Int) = 13) = false := decide_eq_false (by omega)
    clear h13
    have hw1 : IntKind.i64.wrap ((p : Int) - (a : Int)) = ((p - a : Nat) : Int) := by rw [IntWalk.i64_in _ (by omega)]; omega
    by_cases h10 : y = 10
    · rw [if_pos h10] at hd
      have HEK : Hid (E = 131) := Lib.hid (by rw [HLE.out, hd.symm]; exact if_pos (show (131 : Int) ≠ 0 by decide))
      have t3 : ((y : Int) == 10) = true := by simp; omega
      have t4 : decide ((y : Int) = 10) = true := decide_eq_true (by omega)
      clear h10
      clear hd HBD
      go_wp2_with fail
      refine HP.out.mono ?_
      rintro e w1 ⟨rfl, q, hq⟩
      have HI1 : Hid (Inp w1 G A n c l p (tx : Nat) it li) := Lib.hid (by rw [hq]; exact HI.out.drew q)
      have HO1 : Hid (Only G w w1) := Lib.hid (by rw [hq]; exact only_trans HO.out (only_drew G wr q))
      have HPQ2 : Hid (∀ q2, Calls Tryd.prog 61 #[.pointer (some ⟨G, 0, none⟩)] (w1.drewN q2) fun e w' => e = .returned (.int .u8 y) ∧ ∃ m, w' = (w1.drewN q2).drewN m) := Lib.hid (fun q2 => by rw [hq, drew_two]; exact HPQ.out _)
      obtain ⟨y0, y1, y2, y3, y4, yf⟩ := HI1.out.rows
      clear HP HPQ hq
      go_wp2_with fail
      go_quiet ((go_at_call 61; exact Calls.quiet_of (HPQ2.out _)))
      generalize nq = q2
      go_wp2_with fail
      exact post_panic (P := Tryd.prog) (fn := Tryd.f66) rfl ⟨.inr ⟨by rw [HEK.out]; decide, by rw [HEK.out]⟩, only_trans HO1.out (only_drew G w1 q2)⟩
    rw [if_neg h10] at hd
    have t3 : ((y : Int) == 10) = false := by simp; omega
    have t4 : decide ((y : Int) = 10) = false := decide_eq_false (by omega)
    clear h10
    by_cases hpt : tx ≤ p - a
    · rw [if_pos hpt] at hd
      have HEK : Hid (E = 131) := Lib.hid (by rw [HLE.out, hd.symm]; exact if_pos (show (131 : Int) ≠ 0 by decide))
      have t5 : decide ((tx : Int) ≤ ((p - a : Nat) : Int)) = true := decide_eq_true (by omega)
      have t6 : decide (tx ≤ p - a) = true := decide_eq_true hpt
      clear hpt
      clear hd HBD
      go_wp2_with fail
      refine HP.out.mono ?_
      rintro e w1 ⟨rfl, q, hq⟩
      have HI1 : Hid (Inp w1 G A n c l p (tx : Nat) it li) := Lib.hid (by rw [hq]; exact HI.out.drew q)
      have HO1 : Hid (Only G w w1) := Lib.hid (by rw [hq]; exact only_trans HO.out (only_drew G wr q))
      have HPQ2 : Hid (∀ q2, Calls Tryd.prog 61 #[.pointer (some ⟨G, 0, none⟩)] (w1.drewN q2) fun e w' => e = .returned (.int .u8 y) ∧ ∃ m, w' = (w1.drewN q2).drewN m) := Lib.hid (fun q2 => by rw [hq, drew_two]; exact HPQ.out _)
      obtain ⟨y0, y1, y2, y3, y4, yf⟩ := HI1.out.rows
      clear HP HPQ hq
      go_wp2_with fail
      go_quiet ((go_at_call 61; exact Calls.quiet_of (HPQ2.out _)))
      generalize nq = q2
      go_wp2_with fail
      exact post_panic (P := Tryd.prog) (fn := Tryd.f66) rfl ⟨.inr ⟨by rw [HEK.out]; decide, by rw [HEK.out]⟩, only_trans HO1.out (only_drew G w1 q2)⟩
    rw [if_neg hpt] at hd
    have t5 : decide ((tx : Int) ≤ ((p - a : Nat) : Int)) = false := decide_eq_false (by omega)
    have t6 : decide (tx ≤ p - a) = false := decide_eq_false hpt
    have HDD : Hid (lnF (l.length + 1 - (p + 1)) tx a l (p + 1) = R) := Lib.hid (by rw [show l.length + 1 - (p + 1) = l.length - p by omega]; exact hd)
    clear hd hpt
    go_wp2_with fail
    refine HP.out.mono ?_
    rintro e w1 ⟨rfl, q, hq⟩
    have HI1 : Hid (Inp w1 G A n c l p (tx : Nat) it li) := Lib.hid (by rw [hq]; exact HI.out.drew q)
    have HO1 : Hid (Only G w w1) := Lib.hid (by rw [hq]; exact only_trans HO.out (only_drew G wr q))
    have HPQ2 : Hid (∀ q2, Calls Tryd.prog 61 #[.pointer (some ⟨G, 0, none⟩)] (w1.drewN q2) fun e w' => e = .returned (.int .u8 y) ∧ ∃ m, w' = (w1.drewN q2).drewN m) := Lib.hid (fun q2 => by rw [hq, drew_two]; exact HPQ.out _)
    obtain ⟨y0, y1, y2, y3, y4, yf⟩ := HI1.out.rows
    clear HP HPQ hq
    go_wp2_with fail
    go_quiet ((go_at_call 61; exact Calls.quiet_of (HPQ2.out _)))
    generalize nq = q2
    have hi := (HI1.out.drew q2).at (p + 1) (by have := HL.out; omega)
    have ho := only_trans HO1.out (only_trans (only_drew G w1 q2) (only_set G 1 (w1.drewN q2) (.int .i64 ((p + 1 : Nat) : Int))))
    have hpl := hi.place
    have hpl0 := HI.out.place
    rw [show ((p + 1 : Nat) : Int) = (p : Int) + 1 by omega] at hi ho hpl
    have HI2 := Lib.hid hi
    have HO2 := Lib.hid ho
    have HPL := Lib.hid hpl
    have HPL0 := Lib.hid hpl0
    clear hi ho hpl hpl0
    go_wp2_with fail
    go_roundw
    case rel => exact ⟨p + 1, by omega, HI2, HDD, HO2⟩
    case measure => rw [HPL.out, HPL0.out]; have := HL.out; omega
end
end Go.Proofs.YtglicojojpggmaaDoor
