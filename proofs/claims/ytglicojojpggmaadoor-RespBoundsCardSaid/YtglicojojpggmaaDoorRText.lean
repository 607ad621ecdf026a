/- A text that the document's reader takes. -/
import Derived.Test.YtglicojojpggmaaDoorRDig
namespace Go.Proofs.YtglicojojpggmaaDoor
open Go Go.RowKit
theorem extract_cut (b : ByteArray) (a k : Nat) : b.extract a (a + k) = cutT (bl b) a k := by
  apply bl_inj
  unfold cutT
  rw [show bl (ofL ((List.drop a (bl b)).take k)) = (List.drop a (bl b)).take k from rfl]
  rw [bl, ByteArray.data_extract, Array.toList_extract, List.extract_eq_take_drop, Nat.add_sub_cancel_left]
/-- How a text is taken. -/
def TextQ (w : World) (G : Nat) (b : ByteArray) (E : Int) (s : ByteArray) (p : Nat) (tx it : Int) (en : Ending) (w' : World) : Prop :=
  (∃ (u : ByteArray) (a' : Nat) (t : Int), en = .returned (.string u) ∧ RI w' G b a' E t it ∧ (E = 0 → u = s ∧ a' = p ∧ t = tx)) ∧ Only G w w'
theorem wantE_endE {l : List UInt8} {p a' : Nat} (ha : wantE l 0 p 13 = 0 → a' = p + 1) : wantE l (wantE l 0 p 13) a' 10 = endE l p := by
  have h0 : wantE l 0 p 13 = expE l p 13 := if_neg (by simp)
  rw [h0] at *
  unfold endE wantE
  by_cases h : expE l p 13 = 0
  · rw [if_neg (by simpa using h), if_neg (by simpa using h), ha h]
  · rw [if_pos h, if_pos h]
theorem wantE_next {l : List UInt8} {p : Nat} (h : endE l p = 0) : wantE l 0 p 13 = 0 := by
  have h0 : wantE l 0 p 13 = expE l p 13 := if_neg (by simp)
  rw [h0]
  unfold endE at h
  by_cases h2 : expE l p 13 = 0
  · exact h2
  · rw [if_pos h2] at h
    exact h
section
variable {W w w' : World} {G : Nat} {b : ByteArray} {a most : Nat} {e tx it : Int}
set_option maxRecDepth 100000 in
set_option maxHeartbeats 8000000 in
theorem rtext_stop (w : World) (k : Nat) (h : RI w G b a e tx it) (he : e ≠ 0) :
    Calls Tryd.prog 69 #[.pointer (some ⟨G, 0, none⟩), .int .i64 k] w fun en w' => en = .returned (.string ⟨#[]⟩) ∧ ∃ q, w' = w.drewN q := by
  have h1 : (e == 0) = false := by simpa using he
  have h2 : decide (e = 0) = false := decide_eq_false he
  have h3 : (e != 0) = true := by simpa using he
  obtain ⟨z0, z1, z2, z3, z4, zf⟩ := h.rows
  clear h
  go_enter Tryd.func69, Tryd.ntmps69
  go_wp2_with fail
  go_quiet (fail)
  go_wp2_with fail
  go_ret
  exact ⟨rfl, _, rfl⟩
set_option maxRecDepth 100000 in
set_option maxHeartbeats 8000000 in
theorem rdigits_stop (w : World) (n many least most : Int) (h : RI w G b a e tx it) (he : e ≠ 0) :
    Calls Tryd.prog 43 #[.pointer (some ⟨G, 0, none⟩), .int .u64 n, .int .i64 many, .int .u64 least, .int .u64 most] w fun en w' => en = .returned (.int .u64 0) ∧ w' = w := by
  have h1 : (e == 0) = false := by simpa using he
  have h2 : decide (e = 0) = false := decide_eq_false he
  have h3 : (e != 0) = true := by simpa using he
  obtain ⟨z0, z1, z2, z3, z4, zf⟩ := h.rows
  clear h
  go_enter Tryd.func43, Tryd.ntmps43
  go_wp2_with fail
  refine wp_loop_rounds 1 ?_
  rw [rounds_succ]
  go_wp2_with fail
  go_ret
  exact ⟨rfl, rfl⟩
set_option maxRecDepth 100000 in
set_option maxHeartbeats 8000000 in
theorem rtext_any (w : World) (k : Nat) (h : RI w G b a 0 tx it) (hk : k ≤ 1000000000) (ht0 : -1000000000 ≤ tx) (ht1 : tx ≤ 1000000000) :
    Calls Tryd.prog 69 #[.pointer (some ⟨G, 0, none⟩), .int .i64 k] w (TextQ w G b (textE (bl b) a k) (cutT (bl b) a k) (a + k + 2) (tx - k) it) := by
  have H := Lib.hid h
  have hmx := h.max
  have hps := h.pos
  have hl := bl_len b
  obtain ⟨z0, z1, z2, z3, z4, zf⟩ := h.rows
  have hw1 : IntKind.i64.wrap ((b.size : Int) - (a : Int)) = (b.size : Int) - (a : Int) := IntWalk.i64_in _ (by omega)
  by_cases hlt : b.size - a < k
  · have HE : Hid (textE (bl b) a k = 130) := Lib.hid (by unfold textE; rw [if_pos (by rw [hl]; exact hlt)])
    have d : decide ((b.size : Int) - (a : Int) < (k : Int)) = true := decide_eq_true (by omega)
    clear h hl
    go_enter Tryd.func69, Tryd.ntmps69
    go_wp2_with fail
    go_quiet (fail)
    generalize nq = q
    have HF := Lib.hid (fail_yes (w.drewN q) 130 (H.out.drew q) rfl)
    go_wp2_with fail
    refine HF.out.mono ?_
    rintro en w1 ⟨rfl, rfl⟩
    have HR := Lib.hid ((H.out.drew q).wr 130)
    have HO := Lib.hid (only_trans (only_drew G w q) (only_set G 2 (w.drewN q) (.int .i64 130)))
    clear HF z0 z1 z2 z3 z4 zf
    generalize (w.drewN q).setCell ⟨G, 2, none⟩ (.int .i64 130) = w2 at *
    obtain ⟨y0, y1, y2, y3, y4, yf⟩ := HR.out.rows
    go_wp2_with fail
    go_ret
    exact ⟨⟨_, a, tx, rfl, by rw [HE.out]; exact HR.out, fun h => absurd (HE.out.symm.trans h) (by decide)⟩, HO.out⟩
  · have HE : Hid (textE (bl b) a k = endE (bl b) (a + k)) := Lib.hid (by unfold textE; rw [if_neg (by rw [hl]; exact hlt)])
    have d : decide ((b.size : Int) - (a : Int) < (k : Int)) = false := decide_eq_false (by omega)
    have hw2 : IntKind.i64.wrap ((a : Int) + (k : Int)) = (a : Int) + (k : Int) := IntWalk.i64_in _ (by omega)
    have b0 : (0 : Int) ≤ (a : Int) := by omega
    have b1 : (a : Int) ≤ (a : Int) + (k : Int) := by omega
    have b2 : (a : Int) + (k : Int) ≤ (b.size : Int) := by omega
    clear h hl
    go_enter Tryd.func69, Tryd.ntmps69
    go_wp2_with fail
    go_quiet (fail)
    generalize nq = q1
    go_wp2_with fail
    go_quiet (fail)
    generalize nq = q2
    rw [show (⟨#[]⟩ : ByteArray) = ⟨#[]⟩ from rfl]
    obtain ⟨u, hu⟩ : ∃ u, b.extract a (a + k) = u := ⟨_, rfl⟩
    rw [hu]
    have HU : Hid (u = cutT (bl b) a k) := Lib.hid (by rw [← hu]; exact extract_cut b a k)
    have hi := ((H.out.drew (q1 + q2)).at (a + k) (by omega)).txs (tx - k)
    have ho := only_trans (only_trans (only_drew G w (q1 + q2)) (only_set G 1 (w.drewN (q1 + q2)) (.int .i64 ((a + k : Nat) : Int)))) (only_set G 3 ((w.drewN (q1 + q2)).setCell ⟨G, 1, none⟩ (.int .i64 ((a + k : Nat) : Int))) (.int .i64 (tx - k)))
    rw [show ((a + k : Nat) : Int) = (a : Int) + (k : Int) by omega] at hi ho
    have HO := Lib.hid ho
    have HI := Lib.hid hi
    have H1 := Lib.hid (want_any _ 13 hi (by decide))
    clear hi ho hu
    go_wp2_with fail
    refine H1.out.mono ?_
    rintro en w2 ⟨rfl, ⟨a2, hr2, ha2⟩, ho2⟩
    have H2 := Lib.hid (want_any _ 10 hr2 (by decide))
    have HA2 := Lib.hid ha2
    have HO2 := Lib.hid (only_trans HO.out ho2)
    clear hr2 ha2 ho2 H1
    go_wp2_with fail
    refine H2.out.mono ?_
    rintro en w3 ⟨rfl, ⟨a3, hr3, ha3⟩, ho3⟩
    rw [wantE_endE HA2.out] at hr3 ha3
    have HR3 := Lib.hid hr3
    have HA3 := Lib.hid ha3
    have HO3 := Lib.hid (only_trans HO2.out ho3)
    clear hr3 ha3 ho3 H2
    go_wp2_with fail
    go_ret
    refine ⟨⟨u, a3, _, rfl, by rw [HE.out]; exact HR3.out, fun h0 => ⟨HU.out, ?_, rfl⟩⟩, HO3.out⟩
    rw [HE.out] at h0
    have h1 := HA2.out (wantE_next h0)
    have h2 := HA3.out h0
    omega
end
end Go.Proofs.YtglicojojpggmaaDoor
