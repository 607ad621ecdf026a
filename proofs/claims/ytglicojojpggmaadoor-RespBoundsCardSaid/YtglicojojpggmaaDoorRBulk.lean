/- A text with its length ahead, that the document's reader takes. -/
import Derived.Test.YtglicojojpggmaaDoorRText
namespace Go.Proofs.YtglicojojpggmaaDoor
open Go Go.RowKit
/-- What is wrong behind a text with its length ahead. -/
def bulkE (l : List UInt8) (a tx : Nat) : Int :=
  if expE l a 36 ≠ 0 then expE l a 36
  else if lenE tx l (a + 1) ≠ 0 then lenE tx l (a + 1)
  else textE l ((digR tx l (a + 1)).2.2 + 2) (digR tx l (a + 1)).2.1
section
variable {W w w' : World} {G : Nat} {b : ByteArray} {a most : Nat} {e tx it : Int}
theorem rlen_any (w : World) (a most : Nat) (h : RI w G b a 0 tx it) (hm : most ≤ 9223372036854775808) :
    Calls Tryd.prog 43 #[.pointer (some ⟨G, 0, none⟩), .int .u64 0, .int .i64 0, .int .u64 0, .int .u64 most] w (DigQ w G b most (digR most (bl b) a) tx it) := by
  have h1 := rdigits_any w 0 a a 0 most h hm (Nat.zero_le _) (Nat.le_refl _) (.inl rfl) (fun _ => .inl rfl)
  rw [Nat.sub_self] at h1
  exact h1
set_option maxRecDepth 100000 in
set_option maxHeartbeats 8000000 in
theorem rbulk_any (w : World) (tx : Nat) (h : RI w G b a 0 (tx : Nat) it) (ht : tx ≤ 1048576) :
    Calls Tryd.prog 44 #[.pointer (some ⟨G, 0, none⟩)] w (TextQ w G b (bulkE (bl b) a tx) (cutT (bl b) ((digR tx (bl b) (a + 1)).2.2 + 2) (digR tx (bl b) (a + 1)).2.1) ((digR tx (bl b) (a + 1)).2.2 + 2 + (digR tx (bl b) (a + 1)).2.1 + 2) ((tx : Int) - ((digR tx (bl b) (a + 1)).2.1 : Nat)) it) := by
  have HW := Lib.hid (want_any w 36 h (by decide))
  have h0 : wantE (bl b) 0 a 36 = expE (bl b) a 36 := if_neg (by simp)
  rw [h0] at HW
  have hcv : IntKind.u64.wrap (tx : Int) = (tx : Int) := by rw [IntKind.wrap_u64]; omega
  clear h h0
  by_cases h1 : expE (bl b) a 36 = 0
  · rw [h1] at HW
    have HE1 : Hid (bulkE (bl b) a tx = if lenE tx (bl b) (a + 1) ≠ 0 then lenE tx (bl b) (a + 1) else textE (bl b) ((digR tx (bl b) (a + 1)).2.2 + 2) (digR tx (bl b) (a + 1)).2.1) := Lib.hid (if_neg (by rw [h1]; decide))
    clear h1
    go_enter Tryd.func44, Tryd.ntmps44
    go_wp2_with fail
    refine HW.out.mono ?_
    rintro en w1 ⟨rfl, ⟨a1, hr1, ha1⟩, ho1⟩
    obtain rfl := ha1 rfl
    obtain ⟨y0, y1, y2, y3, y4, yf⟩ := hr1.rows
    have HO1 := Lib.hid ho1
    have HD := Lib.hid (rlen_any w1 (a + 1) tx hr1 (by omega))
    have hdl := digR_le (most := tx) (l := bl b) (a := a + 1)
    have HDL : Hid (lenE tx (bl b) (a + 1) = 0 → (digR tx (bl b) (a + 1)).2.1 ≤ tx) := Lib.hid (fun h => hdl (by
      unfold lenE at h
      by_cases h2 : (digR tx (bl b) (a + 1)).1 = 0
      · exact h2
      · rw [if_pos h2] at h
        exact h))
    have HLE : Hid (digE (bl b) (digR tx (bl b) (a + 1)) = lenE tx (bl b) (a + 1)) := Lib.hid rfl
    clear hr1 ho1 hdl HW ha1
    generalize digR tx (bl b) (a + 1) = D at *
    generalize lenE tx (bl b) (a + 1) = LE at *
    go_wp2_with fail
    refine HD.out.mono ?_
    rintro en w2 ⟨⟨k, a2, rfl, hk, hr2, hka⟩, ho2⟩
    rw [HLE.out] at hr2 hka
    have HO2 := Lib.hid (only_trans HO1.out ho2)
    have hcw : IntKind.i64.wrap (k : Int) = (k : Int) := IntWalk.i64_in _ (by omega)
    clear ho2 HD y0 y1 y2 y3 y4 yf
    by_cases hz : LE = 0
    · obtain ⟨rfl, rfl⟩ := hka hz
      subst hz
      have HE2 : Hid (bulkE (bl b) a tx = textE (bl b) (D.2.2 + 2) D.2.1) := Lib.hid (by rw [HE1.out, if_neg (by simp)])
      have HT := Lib.hid (rtext_any w2 D.2.1 hr2 (by omega) (by omega) (by omega))
      clear hka hr2 HLE HDL HE1
      go_wp2_with fail
      refine HT.out.mono ?_
      rintro en w3 ⟨⟨u, a3, t, rfl, hr3, hu⟩, ho3⟩
      have HR3 := Lib.hid hr3
      have HU := Lib.hid hu
      have HO3 := Lib.hid (only_trans HO2.out ho3)
      clear hr3 hu ho3 HT
      go_wp2_with fail
      go_ret
      exact ⟨⟨u, a3, t, rfl, by rw [HE2.out]; exact HR3.out, fun h => HU.out (HE2.out.symm.trans h)⟩, HO3.out⟩
    · have HE2 : Hid (bulkE (bl b) a tx = LE) := Lib.hid (by rw [HE1.out, if_pos hz])
      have HR2 := Lib.hid hr2
      have HT := Lib.hid (rtext_stop w2 k hr2 hz)
      have HZ := Lib.hid hz
      clear hka hr2 hz HLE HDL HE1
      go_wp2_with fail
      refine HT.out.mono ?_
      rintro en w3 ⟨rfl, q, rfl⟩
      clear HT
      go_wp2_with fail
      go_ret
      exact ⟨⟨_, a2, _, rfl, by rw [HE2.out]; exact HR2.out.drew q, fun h => absurd (HE2.out.symm.trans h) HZ.out⟩, only_trans HO2.out (only_drew G w2 q)⟩
  · have HE1 : Hid (bulkE (bl b) a tx = expE (bl b) a 36) := Lib.hid (if_pos h1)
    have HZ := Lib.hid h1
    generalize expE (bl b) a 36 = E at *
    clear h1
    go_enter Tryd.func44, Tryd.ntmps44
    go_wp2_with fail
    refine HW.out.mono ?_
    rintro en w1 ⟨rfl, ⟨a1, hr1, ha1⟩, ho1⟩
    obtain ⟨y0, y1, y2, y3, y4, yf⟩ := hr1.rows
    have HO1 := Lib.hid ho1
    have HR1 := Lib.hid hr1
    have HD := Lib.hid (rdigits_stop w1 0 0 0 tx hr1 HZ.out)
    clear hr1 ho1 HW ha1
    go_wp2_with fail
    refine HD.out.mono ?_
    rintro en w2 ⟨rfl, rfl⟩
    have HT := Lib.hid (rtext_stop w2 0 HR1.out HZ.out)
    clear HD
    go_wp2_with fail
    refine HT.out.mono ?_
    rintro en w3 ⟨rfl, q, rfl⟩
    clear HT
    go_wp2_with fail
    go_ret
    exact ⟨⟨_, a1, _, rfl, by rw [HE1.out]; exact HR1.out.drew q, fun h => absurd (HE1.out.symm.trans h) HZ.out⟩, only_trans HO1.out (only_drew G w2 q)⟩
end
end Go.Proofs.YtglicojojpggmaaDoor
