/- An input that is read: its next byte, a byte that must be there, or a panic that says why not. -/
import Derived.Test.YtglicojojpggmaaDoorRReq
import Derived.Recover
namespace Go.Proofs.YtglicojojpggmaaDoor
open Go Go.RowKit
/-- What is thrown where nothing whole is read. -/
abbrev stopP (k : Int) : List PanicEntry := [{ v := .iface 84 (.agg #[.int .i64 k]), recovered := false }]
theorem post_panic {P : Program} {fn : Func} {R : Ending → World → Prop} {chain : List PanicEntry} {a : Act} {w : World} (hd : a.defers = []) (h : R (.panicked chain) w) : bodyPost P fn R (.panic chain) a w := ⟨hd, h⟩
/-- An input: block G holds the bytes, how far they were read, and what is left of the bounds. -/
structure Inp (W : World) (G : Nat) (A : Option Addr) (n c : Nat) (l : List UInt8) (a : Nat) (tx it li : Int) : Prop where
  z : W.heap[G]? = some (.cells #[.slice A n c, .int .i64 a, .int .i64 tx, .int .i64 it, .int .i64 li] 86 (0, 0))
  rd : Rd W A l
  len : l.length = n
  cap : n ≤ c
  nil : A = none → c = 0
  ne : ∀ ad, A = some ad → ad.block ≠ G
  max : n ≤ 9000000000000000000
  pos : a ≤ n
/-- Only this block was turned. -/
abbrev Only (G : Nat) (w w' : World) : Prop := w.grownBy w' (some G)
theorem only_drew (G : Nat) (w : World) (q : Nat) : Only G w (w.drewN q) := ⟨rfl, rfl, rfl, Nat.le_refl _, fun _ _ _ => rfl⟩
theorem only_set (G o : Nat) (w : World) (u : Value) : Only G w (w.setCell ⟨G, o, none⟩ u) :=
  ⟨rfl, rfl, rfl, by simp [World.setCell], fun k _ hk => Below.heap_setCell w ⟨G, o, none⟩ u k (fun e => hk (by rw [e]))⟩
theorem only_trans {G : Nat} {a b c : World} (h : Only G a b) (k : Only G b c) : Only G a c :=
  ⟨k.os.trans h.os, k.tape.trans h.tape, k.output.trans h.output, Nat.le_trans h.size k.size, fun j hj hn => (k.block j (Nat.lt_of_lt_of_le hj h.size) hn).trans (h.block j hj hn)⟩
theorem row_set {W : World} {g j : Nat} {cs : Array Value} {v : Value} {t : TypeId} (h : W.heap[g]? = some (.cells cs t (0, 0))) : (W.setCell ⟨g, j, none⟩ v).heap[g]? = some (.cells (cs.setIfInBounds j v) t (0, 0)) := by
  have hlt := lt_of_block h
  have h' : W.heap[g] = .cells cs t (0, 0) := by simpa [Array.getElem?_eq_getElem hlt] using h
  show (W.heap.modify g _)[g]? = _
  rw [Array.getElem?_eq_getElem (by simpa using hlt), Array.getElem_modify_self, h']
  rfl
section
variable {W : World} {G : Nat} {A : Option Addr} {n c : Nat} {l : List UInt8} {a : Nat} {tx it li : Int}
theorem Inp.drew (h : Inp W G A n c l a tx it li) (q : Nat) : Inp (W.drewN q) G A n c l a tx it li := ⟨h.z, h.rd, h.len, h.cap, h.nil, h.ne, h.max, h.pos⟩
theorem Inp.rows (h : Inp W G A n c l a tx it li) : W.cell? ⟨G, 0, none⟩ = some (.slice A n c) ∧ W.cell? ⟨G, 1, none⟩ = some (.int .i64 a) ∧ W.cell? ⟨G, 2, none⟩ = some (.int .i64 tx) ∧ W.cell? ⟨G, 3, none⟩ = some (.int .i64 it) ∧ W.cell? ⟨G, 4, none⟩ = some (.int .i64 li) ∧ ∀ j, W.frozen? ⟨G, j, none⟩ = false := by
  refine ⟨?_, ?_, ?_, ?_, ?_, fun j => ?_⟩
  · simp only [World.cell?, h.z]; rfl
  · simp only [World.cell?, h.z]; rfl
  · simp only [World.cell?, h.z]; rfl
  · simp only [World.cell?, h.z]; rfl
  · simp only [World.cell?, h.z]; rfl
  · simp [World.frozen?, h.z]
theorem Inp.at (h : Inp W G A n c l a tx it li) (b : Nat) (hb : b ≤ n) : Inp (W.setCell ⟨G, 1, none⟩ (.int .i64 b)) G A n c l b tx it li :=
  ⟨row_set h.z, fun h0 => by
    obtain ⟨g, off, e, hlt, hc⟩ := h.rd h0
    exact ⟨g, off, e, by simpa [World.setCell] using hlt, fun j hj => (World.cell?_setCell_other W ⟨G, 1, none⟩ ⟨g, off + j, none⟩ _ (fun e2 => h.ne _ e (by injection e2 with e3; exact e3.symm))).trans (hc j hj)⟩, h.len, h.cap, h.nil, h.ne, h.max, hb⟩
set_option maxRecDepth 100000 in
set_option maxHeartbeats 4000000 in
theorem peek_no (w : World) (h : Inp w G A n c l a tx it li) (ha : a = n) : Calls Tryd.prog 61 #[.pointer (some ⟨G, 0, none⟩)] w fun e w' => e = .panicked (stopP 130) ∧ ∃ q, w' = w.drewN q := by
  obtain ⟨z0, z1, _, _, _, _⟩ := h.rows
  have d : decide ((n : Int) ≤ (a : Int)) = true := decide_eq_true (by omega)
  subst ha
  clear h
  go_enter Tryd.func61, Tryd.ntmps61
  go_wp2_with fail
  go_quiet (fail)
  go_wp2_with fail
  exact post_panic rfl ⟨rfl, _, rfl⟩
set_option maxRecDepth 100000 in
set_option maxHeartbeats 4000000 in
theorem peek_yes (w : World) (h : Inp w G A n c l a tx it li) (ha : a < l.length) : Calls Tryd.prog 61 #[.pointer (some ⟨G, 0, none⟩)] w fun e w' => e = .returned (.int .u8 l[a].toNat) ∧ ∃ q, w' = w.drewN q := by
  obtain ⟨z0, z1, _, _, _, _⟩ := h.rows
  obtain ⟨g, off, rfl, hlt, hc⟩ := h.rd (by omega)
  have hca := hc a ha
  have hn := h.len
  have hcap := h.cap
  have hmx := h.max
  have han : a < n := by omega
  obtain ⟨x, hx⟩ : ∃ x, l[a] = x := ⟨_, rfl⟩
  rw [hx] at hca ⊢
  have d : decide ((n : Int) ≤ (a : Int)) = false := decide_eq_false (by omega)
  clear h hc hn hx
  go_enter Tryd.func61, Tryd.ntmps61
  go_wp2_with fail
  go_quiet (fail)
  go_wp2_with fail
  go_quiet (fail)
  go_wp2_with fail
  go_ret
  exact ⟨rfl, _, drew_two _ _ _⟩
/-- Why a byte is not there, 0 where it is. -/
def expE (l : List UInt8) (a : Nat) (x : UInt8) : Int := match l[a]? with
  | none => 130
  | some y => if y = x then 0 else 131
theorem u8_ne {x y : UInt8} (h : y ≠ x) : ((y.toNat : Int) != (x.toNat : Int)) = true := by
  have : y.toNat ≠ x.toNat := fun e => h (UInt8.toNat_inj.1 e)
  simp only [bne_iff_ne, ne_eq]
  omega
/-- What taking answers: a value and where the input is then, or a panic. -/
def TakeQ (w : World) (G : Nat) (A : Option Addr) (n c : Nat) (l : List UInt8) (r : Int) (v : Value) (a : Nat) (tx it li : Int) (e : Ending) (w' : World) : Prop :=
  ((r = 0 ∧ e = .returned v ∧ Inp w' G A n c l a tx it li) ∨ (r ≠ 0 ∧ e = .panicked (stopP r))) ∧ Only G w w'
set_option maxRecDepth 100000 in
set_option maxHeartbeats 4000000 in
theorem expect_any (w : World) (x : UInt8) (h : Inp w G A n c l a tx it li) : Calls Tryd.prog 62 #[.pointer (some ⟨G, 0, none⟩), .int .u8 x.toNat] w (TakeQ w G A n c l (expE l a x) (.tuple #[]) (a + 1) tx it li) := by
  have H := Lib.hid h
  have hmx := h.max
  have hps := h.pos
  by_cases ha : a < l.length
  · have HP := Lib.hid (peek_yes w h ha)
    have han : a < n := by have := h.len; omega
    by_cases hx : l[a] = x
    · have HE : Hid (expE l a x = 0) := Lib.hid (by unfold expE; rw [List.getElem?_eq_getElem ha]; simp [hx])
      rw [hx] at HP
      clear h hx
      go_enter Tryd.func62, Tryd.ntmps62
      go_wp2_with fail
      refine HP.out.mono ?_
      rintro e w1 ⟨rfl, q, rfl⟩
      obtain ⟨z0, z1, z2, z3, z4, zf⟩ := (H.out.drew q).rows
      have HI := Lib.hid ((H.out.drew q).at (a + 1) (by omega))
      have HO := Lib.hid (only_trans (only_drew G w q) (only_set G 1 (w.drewN q) (.int .i64 ((a + 1 : Nat) : Int))))
      clear HP
      rw [show ((a + 1 : Nat) : Int) = (a : Int) + 1 by omega] at HI HO
      go_wp2_with fail
      go_end0
      exact ⟨.inl ⟨HE.out, rfl, HI.out⟩, HO.out⟩
    · have HE : Hid (expE l a x = 131) := Lib.hid (by unfold expE; rw [List.getElem?_eq_getElem ha]; simp [hx])
      have hne := u8_ne hx
      generalize l[a] = y at HP hne
      clear h hx
      go_enter Tryd.func62, Tryd.ntmps62
      go_wp2_with fail
      refine HP.out.mono ?_
      rintro e w1 ⟨rfl, q, rfl⟩
      clear HP
      go_wp2_with fail
      exact post_panic rfl ⟨.inr ⟨by rw [HE.out]; decide, by rw [HE.out]⟩, only_drew G w q⟩
  · have HP := Lib.hid (peek_no w h (by have := h.len; omega))
    have HE : Hid (expE l a x = 130) := Lib.hid (by unfold expE; rw [List.getElem?_eq_none (by omega)])
    clear h
    go_enter Tryd.func62, Tryd.ntmps62
    go_wp2_with fail
    refine HP.out.mono ?_
    rintro e w1 ⟨rfl, q, rfl⟩
    exact post_panic rfl ⟨.inr ⟨by rw [HE.out]; decide, by rw [HE.out]⟩, only_drew G w q⟩
/-- Why a line's end is not there, 0 where it is. -/
def endE (l : List UInt8) (a : Nat) : Int := if expE l a 13 ≠ 0 then expE l a 13 else expE l (a + 1) 10
set_option maxRecDepth 100000 in
set_option maxHeartbeats 4000000 in
theorem end_any (w : World) (h : Inp w G A n c l a tx it li) : Calls Tryd.prog 76 #[.pointer (some ⟨G, 0, none⟩)] w (TakeQ w G A n c l (endE l a) (.tuple #[]) (a + 2) tx it li) := by
  have H1 := Lib.hid (expect_any w 13 h)
  clear h
  go_enter Tryd.func76, Tryd.ntmps76
  go_wp2_with fail
  refine H1.out.mono ?_
  rintro e w1 ⟨⟨he, rfl, hi⟩ | ⟨he, rfl⟩, ho⟩
  · have HO := Lib.hid ho
    have HE := Lib.hid he
    have H2 := Lib.hid (expect_any w1 10 hi)
    clear hi ho he H1
    go_wp2_with fail
    refine H2.out.mono ?_
    rintro e w2 ⟨⟨he2, rfl, hi2⟩ | ⟨he2, rfl⟩, ho2⟩
    · have HI2 := Lib.hid hi2
      have HO2 := Lib.hid (only_trans HO.out ho2)
      have HE2 : Hid (endE l a = 0) := Lib.hid (by unfold endE; rw [if_neg (by rw [HE.out]; decide)]; exact he2)
      clear hi2 ho2 he2 H2
      go_wp2_with fail
      go_end0
      exact ⟨.inl ⟨HE2.out, rfl, HI2.out⟩, HO2.out⟩
    · have HE2 : Hid (endE l a = expE l (a + 1) 10) := Lib.hid (by unfold endE; rw [if_neg (by rw [HE.out]; decide)])
      exact post_panic rfl ⟨.inr ⟨by rw [HE2.out]; exact he2, by rw [HE2.out]⟩, only_trans HO.out ho2⟩
  · have HE2 : Hid (endE l a = expE l a 13) := Lib.hid (by unfold endE; rw [if_pos he])
    exact post_panic rfl ⟨.inr ⟨by rw [HE2.out]; exact he, by rw [HE2.out]⟩, ho⟩
end
end Go.Proofs.YtglicojojpggmaaDoor
