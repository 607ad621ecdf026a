/- The document's reader: its next byte, a byte that must be there. -/
import Derived.Test.YtglicojojpggmaaDoorLen
namespace Go.Proofs.YtglicojojpggmaaDoor
open Go Go.RowKit
/-- The document's reader in block G: the text, how far it was read, what is wrong, what is left of the bounds. -/
structure RI (W : World) (G : Nat) (b : ByteArray) (a : Nat) (e : Int) (tx it : Int) : Prop where
  z : W.heap[G]? = some (.cells #[.string b, .int .i64 a, .int .i64 e, .int .i64 tx, .int .i64 it] 89 (0, 0))
  pos : a ≤ b.size
  max : b.size ≤ 9000000000000000000
section
variable {W : World} {G : Nat} {b : ByteArray} {a : Nat} {e tx it : Int}
theorem RI.rows (h : RI W G b a e tx it) : W.cell? ⟨G, 0, none⟩ = some (.string b) ∧ W.cell? ⟨G, 1, none⟩ = some (.int .i64 a) ∧ W.cell? ⟨G, 2, none⟩ = some (.int .i64 e) ∧ W.cell? ⟨G, 3, none⟩ = some (.int .i64 tx) ∧ W.cell? ⟨G, 4, none⟩ = some (.int .i64 it) ∧ ∀ j, W.frozen? ⟨G, j, none⟩ = false := by
  refine ⟨?_, ?_, ?_, ?_, ?_, fun j => ?_⟩
  · simp only [World.cell?, h.z]; rfl
  · simp only [World.cell?, h.z]; rfl
  · simp only [World.cell?, h.z]; rfl
  · simp only [World.cell?, h.z]; rfl
  · simp only [World.cell?, h.z]; rfl
  · simp [World.frozen?, h.z]
theorem RI.drew (h : RI W G b a e tx it) (q : Nat) : RI (W.drewN q) G b a e tx it := ⟨h.z, h.pos, h.max⟩
theorem RI.at (h : RI W G b a e tx it) (c : Nat) (hc : c ≤ b.size) : RI (W.setCell ⟨G, 1, none⟩ (.int .i64 c)) G b c e tx it := ⟨row_set h.z, hc, h.max⟩
theorem RI.wr (h : RI W G b a e tx it) (k : Int) : RI (W.setCell ⟨G, 2, none⟩ (.int .i64 k)) G b a k tx it := ⟨row_set h.z, h.pos, h.max⟩
theorem RI.txs (h : RI W G b a e tx it) (k : Int) : RI (W.setCell ⟨G, 3, none⟩ (.int .i64 k)) G b a e k it := ⟨row_set h.z, h.pos, h.max⟩
theorem RI.its (h : RI W G b a e tx it) (k : Int) : RI (W.setCell ⟨G, 4, none⟩ (.int .i64 k)) G b a e tx k := ⟨row_set h.z, h.pos, h.max⟩
theorem bl_len (b : ByteArray) : (bl b).length = b.size := by rw [Array.length_toList]; rfl
set_option maxRecDepth 100000 in
set_option maxHeartbeats 4000000 in
theorem fail_yes (w : World) (k : Int) (h : RI w G b a e tx it) (he : e = 0) : Calls Tryd.prog 68 #[.pointer (some ⟨G, 0, none⟩), .int .i64 k] w fun en w' => en = .returned (.tuple #[]) ∧ w' = w.setCell ⟨G, 2, none⟩ (.int .i64 k) := by
  subst he
  obtain ⟨z0, z1, z2, z3, z4, zf⟩ := h.rows
  clear h
  go_enter Tryd.func68, Tryd.ntmps68
  go_wp2_with fail
  go_end0
  exact ⟨rfl, rfl⟩
set_option maxRecDepth 100000 in
set_option maxHeartbeats 4000000 in
theorem fail_no (w : World) (k : Int) (h : RI w G b a e tx it) (he : e ≠ 0) : Calls Tryd.prog 68 #[.pointer (some ⟨G, 0, none⟩), .int .i64 k] w fun en w' => en = .returned (.tuple #[]) ∧ w' = w := by
  have h1 : (e == 0) = false := by simpa using he
  have h2 : decide (e = 0) = false := decide_eq_false he
  obtain ⟨z0, z1, z2, z3, z4, zf⟩ := h.rows
  clear h
  go_enter Tryd.func68, Tryd.ntmps68
  go_wp2_with fail
  go_end0
  exact ⟨rfl, rfl⟩
set_option maxRecDepth 100000 in
set_option maxHeartbeats 4000000 in
theorem next_stop (w : World) (h : RI w G b a e tx it) (he : e ≠ 0) : Calls Tryd.prog 67 #[.pointer (some ⟨G, 0, none⟩)] w fun en w' => en = .returned (.int .u8 0) ∧ ∃ q, w' = w.drewN q := by
  have h1 : (e == 0) = false := by simpa using he
  have h2 : decide (e = 0) = false := decide_eq_false he
  have h3 : (e != 0) = true := by simpa using he
  obtain ⟨z0, z1, z2, z3, z4, zf⟩ := h.rows
  clear h
  go_enter Tryd.func67, Tryd.ntmps67
  go_wp2_with fail
  go_quiet (fail)
  go_wp2_with fail
  go_ret
  exact ⟨rfl, _, rfl⟩
set_option maxRecDepth 100000 in
set_option maxHeartbeats 4000000 in
theorem next_end (w : World) (h : RI w G b a 0 tx it) (ha : ¬ a < b.size) : Calls Tryd.prog 67 #[.pointer (some ⟨G, 0, none⟩)] w fun en w' => en = .returned (.int .u8 0) ∧ RI w' G b a 130 tx it ∧ Only G w w' := by
  have H := Lib.hid h
  have hmx := h.max
  have d : decide ((b.size : Int) ≤ (a : Int)) = true := decide_eq_true (by omega)
  have d2 : decide (b.size ≤ a) = true := decide_eq_true (by omega)
  obtain ⟨z0, z1, z2, z3, z4, zf⟩ := h.rows
  clear h
  go_enter Tryd.func67, Tryd.ntmps67
  go_wp2_with fail
  go_quiet (fail)
  generalize nq = q
  have HF := Lib.hid (fail_yes (w.drewN q) 130 (H.out.drew q) rfl)
  go_wp2_with fail
  refine HF.out.mono ?_
  rintro en w1 ⟨rfl, rfl⟩
  have HR := Lib.hid ((H.out.drew q).wr 130)
  have HO := Lib.hid (only_trans (only_drew G w q) (only_set G 2 (w.drewN q) (.int .i64 130)))
  clear HF
  generalize (w.drewN q).setCell ⟨G, 2, none⟩ (.int .i64 130) = w2 at *
  obtain ⟨y0, y1, y2, y3, y4, yf⟩ := HR.out.rows
  go_wp2_with fail
  go_ret
  exact ⟨rfl, HR.out, HO.out⟩
set_option maxRecDepth 100000 in
set_option maxHeartbeats 4000000 in
theorem next_yes (w : World) (h : RI w G b a 0 tx it) (ha : a < (bl b).length) : Calls Tryd.prog 67 #[.pointer (some ⟨G, 0, none⟩)] w fun en w' => en = .returned (.int .u8 (bl b)[a].toNat) ∧ RI w' G b (a + 1) 0 tx it ∧ Only G w w' := by
  have H := Lib.hid h
  have hmx := h.max
  have hl := bl_len b
  have ha2 : a < b.size := by omega
  have d : decide ((b.size : Int) ≤ (a : Int)) = false := decide_eq_false (by omega)
  have d2 : decide (b.size ≤ a) = false := decide_eq_false (by omega)
  obtain ⟨z0, z1, z2, z3, z4, zf⟩ := h.rows
  obtain ⟨x, hx⟩ : ∃ x, (bl b)[a] = x := ⟨_, rfl⟩
  have hbx : b[a] = x := by rw [← hx]; rfl
  rw [hx]
  have HX := Lib.hid hbx
  clear h hl hbx hx
  go_enter Tryd.func67, Tryd.ntmps67
  go_wp2_with fail
  go_quiet (fail)
  generalize nq = q
  go_wp2_with fail
  have hw : IntKind.i64.wrap ((a : Int) + 1 - 1) = (a : Int) := by rw [Int.add_sub_cancel]; exact IntWalk.i64_in _ (by omega)
  have hs1 : (a : Int) + 1 - 1 = (a : Int) := by omega
  have hlt : (a : Int) < (b.size : Int) := by omega
  have h0 : (0 : Int) ≤ (a : Int) := by omega
  go_quiet (fail)
  generalize nq = q2
  clear hw hs1
  go_wp2_with fail
  have HR := Lib.hid (((H.out.drew q).at (a + 1) (by omega)).drew q2)
  have HO := Lib.hid (only_trans (only_trans (only_drew G w q) (only_set G 1 (w.drewN q) (.int .i64 ((a + 1 : Nat) : Int)))) (only_drew G ((w.drewN q).setCell ⟨G, 1, none⟩ (.int .i64 ((a + 1 : Nat) : Int))) q2))
  rw [show ((a + 1 : Nat) : Int) = (a : Int) + 1 by omega] at HR HO
  go_ret
  exact ⟨by rw [← HX.out]; rfl, HR.out, HO.out⟩
/-- What is wrong behind a byte that must be there. -/
def wantE (l : List UInt8) (e : Int) (a : Nat) (c : UInt8) : Int := if e ≠ 0 then e else expE l a c
/-- How a reading leaves the reader. -/
def WantQ (w : World) (G : Nat) (b : ByteArray) (k : Int) (p : Nat) (tx it : Int) (v : Value) (en : Ending) (w' : World) : Prop :=
  en = .returned v ∧ (∃ a', RI w' G b a' k tx it ∧ (k = 0 → a' = p)) ∧ Only G w w'
theorem u8_neq {x y : UInt8} (h : y ≠ x) : ((y.toNat : Int) == (x.toNat : Int)) = false := by
  have : y.toNat ≠ x.toNat := fun e => h (UInt8.toNat_inj.1 e)
  simp
  omega
set_option maxRecDepth 100000 in
set_option maxHeartbeats 4000000 in
theorem want_any (w : World) (c : UInt8) (h : RI w G b a e tx it) (hc : c ≠ 0) : Calls Tryd.prog 42 #[.pointer (some ⟨G, 0, none⟩), .int .u8 c.toNat] w (WantQ w G b (wantE (bl b) e a c) (a + 1) tx it (.tuple #[])) := by
  have H := Lib.hid h
  have hz : ((0 : Int) != (c.toNat : Int)) = true := by
    have := u8_ne (x := c) (y := 0) (fun e => hc e.symm)
    simpa using this
  have hz1 : decide ((0 : Int) = (c.toNat : Int)) = false := by
    have := u8_ne (x := c) (y := 0) (fun e => hc e.symm)
    simpa using this
  by_cases he : e = 0
  · subst he
    by_cases ha : a < (bl b).length
    · have HN := Lib.hid (next_yes w h ha)
      by_cases hx : (bl b)[a] = c
      · have HE : Hid (wantE (bl b) 0 a c = 0) := Lib.hid (by unfold wantE expE; rw [if_neg (by simp), List.getElem?_eq_getElem ha]; simp [hx])
        rw [hx] at HN
        clear h hz hz1 hx
        go_enter Tryd.func42, Tryd.ntmps42
        go_wp2_with fail
        refine HN.out.mono ?_
        rintro en w1 ⟨rfl, hr, ho⟩
        have HR := Lib.hid hr
        have HO := Lib.hid ho
        clear hr ho HN
        go_wp2_with fail
        go_end0
        exact ⟨rfl, ⟨a + 1, by rw [HE.out]; exact HR.out, fun _ => rfl⟩, HO.out⟩
      · have HE : Hid (wantE (bl b) 0 a c = 131) := Lib.hid (by unfold wantE expE; rw [if_neg (by simp), List.getElem?_eq_getElem ha]; exact if_neg hx)
        have hne := u8_ne hx
        generalize (bl b)[a] = y at HN hne
        clear h hz hz1 hx
        go_enter Tryd.func42, Tryd.ntmps42
        go_wp2_with fail
        refine HN.out.mono ?_
        rintro en w1 ⟨rfl, hr, ho⟩
        have HF := Lib.hid (fail_yes w1 131 hr rfl)
        have HR := Lib.hid (hr.wr 131)
        have HO := Lib.hid (only_trans ho (only_set G 2 w1 (.int .i64 131)))
        clear hr ho HN
        go_wp2_with fail
        refine HF.out.mono ?_
        rintro en w2 ⟨rfl, rfl⟩
        go_wp2_with fail
        go_end0
        exact ⟨rfl, ⟨a + 1, by rw [HE.out]; exact HR.out, fun _ => rfl⟩, HO.out⟩
    · have HN := Lib.hid (next_end w h (by have := bl_len b; omega))
      have HE : Hid (wantE (bl b) 0 a c = 130) := Lib.hid (by unfold wantE expE; rw [if_neg (by simp), List.getElem?_eq_none (by omega)])
      clear h
      go_enter Tryd.func42, Tryd.ntmps42
      go_wp2_with fail
      refine HN.out.mono ?_
      rintro en w1 ⟨rfl, hr, ho⟩
      have HF := Lib.hid (fail_no w1 131 hr (by decide))
      have HR := Lib.hid hr
      have HO := Lib.hid ho
      clear hr ho HN
      go_wp2_with fail
      refine HF.out.mono ?_
      rintro en w2 ⟨rfl, rfl⟩
      go_wp2_with fail
      go_end0
      exact ⟨rfl, ⟨a, by rw [HE.out]; exact HR.out, fun h => absurd (HE.out.symm.trans h) (by decide)⟩, HO.out⟩
  · have HN := Lib.hid (next_stop w h he)
    have HE : Hid (wantE (bl b) e a c = e) := Lib.hid (if_pos he)
    have HZ := Lib.hid he
    clear h he
    go_enter Tryd.func42, Tryd.ntmps42
    go_wp2_with fail
    refine HN.out.mono ?_
    rintro en w1 ⟨rfl, q, rfl⟩
    have HF := Lib.hid (fail_no (w.drewN q) 131 (H.out.drew q) HZ.out)
    clear HN
    go_wp2_with fail
    refine HF.out.mono ?_
    rintro en w2 ⟨rfl, rfl⟩
    go_wp2_with fail
    go_end0
    exact ⟨rfl, ⟨a, by rw [HE.out]; exact H.out.drew q, fun h => absurd (HE.out.symm.trans h) HZ.out⟩, only_drew G w q⟩
end
end Go.Proofs.YtglicojojpggmaaDoor
