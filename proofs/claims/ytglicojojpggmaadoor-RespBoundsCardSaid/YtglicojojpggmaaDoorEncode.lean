/- A reply's bytes, by the program. -/
import Derived.Test.YtglicojojpggmaaDoorPut
import Derived.Laws.EntriesVeiled
namespace Go.Proofs.YtglicojojpggmaaDoor
open Go Go.RowKit
mutual
/-- The bounds of what may stand in memory, of a reply and all in it. -/
def fitR : Rp → Prop
  | .mk k n t l => Fits (.mk k n t l) ∧ fitL l
def fitL : List Rp → Prop
  | [] => True
  | r :: l => fitR r ∧ fitL l
end
mutual
theorem RpL.fit {P : Nat → Prop} {W : World} : ∀ (l : List Rp) (A : Option Addr), RpL P W l A → fitL l
  | [], _, _ => by rw [fitL]; trivial
  | r :: l, A, h => by
    rw [RpL] at h
    obtain ⟨b, o, _, _, _, ha, hr⟩ := h
    rw [fitL]
    exact ⟨RpA.fit r b o ha, RpL.fit l _ hr⟩
theorem RpA.fit {P : Nat → Prop} {W : World} : ∀ (r : Rp) (b o : Nat), RpA P W r b o → fitR r
  | .mk k n t l, b, o, h => by
    rw [RpA] at h
    obtain ⟨A, c, _, _, _, _, h4, _, _, h7⟩ := h
    rw [fitR]
    exact ⟨h4, RpL.fit l A h7⟩
end
theorem RpK.fit {P : Nat → Prop} {W : World} {r : Rp} {A : Option Addr} {c : Nat} (h : RpK P W r A c) : fitR r := by
  obtain ⟨h1, _, _, h4⟩ := h
  cases r
  rw [fitR]
  exact ⟨h1, RpL.fit _ _ h4⟩
mutual
theorem may_ok : ∀ (r : Rp) (d it tx : Int) (p : Int × Int), fitR r → mayF r d it tx = some p → 0 ≤ it → okR r ∧ ((encR r).length : Int) ≤ 40 + 40 * (it - p.1) + (tx - p.2)
  | .mk k n t l, d, it, tx, p, hfit, h, h0 => by
    have hb := bl_len t
    rw [fitR] at hfit
    obtain ⟨⟨g1, g2, g3, g4, g5, g6⟩, hfl⟩ := hfit
    simp only [Rp.num, Rp.kind, Rp.text, Rp.kids] at g1 g2 g3 g4 g5 g6
    rw [mayF] at h
    rw [okR, encR]
    by_cases c1 : k ≠ 3 ∧ n ≠ 0
    · rw [if_pos c1] at h; cases h
    rw [if_neg c1] at h
    by_cases c2 : k ≠ 5 ∧ 0 < l.length
    · rw [if_pos c2] at h; cases h
    rw [if_neg c2] at h
    by_cases c3 : tx - t.size < 0
    · rw [if_pos c3] at h; cases h
    rw [if_neg c3] at h
    have hl : k ≠ 5 → okL l := fun h5 => by
      have : l = [] := List.eq_nil_of_length_eq_zero (by have := fun h => c2 ⟨h5, h⟩; omega)
      rw [this, okL]
      trivial
    by_cases c4 : k = 0 ∨ k = 3
    · rw [if_pos c4] at h
      by_cases c5 : t.size = 0
      · rw [if_pos c5] at h
        cases h
        refine ⟨⟨by omega, by omega, hl (by omega)⟩, ?_⟩
        rcases c4 with c4 | c4
        · simp only [c4, show ¬ (0 : Int) = 1 by decide, show ¬ (0 : Int) = 2 by decide, show ¬ (0 : Int) = 3 by decide, show ¬ (0 : Int) = 4 by decide, show ¬ (0 : Int) = 5 by decide, if_false, layL_len, List.length_cons, List.length_nil]
          omega
        · simp only [c4, show ¬ (3 : Int) = 1 by decide, show ¬ (3 : Int) = 2 by decide, if_false, if_true, layL_len]
          have := itL_len n g1 g2
          omega
      · rw [if_neg c5] at h; cases h
    rw [if_neg c4] at h
    by_cases c5 : k = 4
    · rw [if_pos c5] at h
      cases h
      refine ⟨⟨by omega, by omega, hl (by omega)⟩, ?_⟩
      simp only [c5, show ¬ (4 : Int) = 1 by decide, show ¬ (4 : Int) = 2 by decide, show ¬ (4 : Int) = 3 by decide, if_false, if_true, layL_len, List.length_append, hb, crlf, List.length_cons, List.length_nil]
      have := itL_len (t.size : Int) (by omega) (by omega)
      omega
    rw [if_neg c5] at h
    by_cases c6 : k = 1 ∨ k = 2
    · rw [if_pos c6] at h
      by_cases c7 : lineB (bl t) = true
      · rw [if_pos c7] at h
        cases h
        refine ⟨⟨by omega, by omega, hl (by omega)⟩, ?_⟩
        rcases c6 with c6 | c6
        · simp only [c6, if_true, layL_len, hb]
          omega
        · simp only [c6, show ¬ (2 : Int) = 1 by decide, if_false, if_true, layL_len, hb]
          omega
      · rw [if_neg c7] at h; cases h
    rw [if_neg c6] at h
    by_cases c7 : k = 5
    · rw [if_pos c7] at h
      by_cases c8 : t.size ≠ 0 ∨ d = 0 ∨ it - l.length < 0
      · rw [if_pos c8] at h; cases h
      rw [if_neg c8] at h
      have hk := mayL_ok l (d - 1) _ _ p hfl h (by omega) (by omega)
      refine ⟨⟨by omega, by omega, hk.1⟩, ?_⟩
      simp only [c7, show ¬ (5 : Int) = 1 by decide, show ¬ (5 : Int) = 2 by decide, show ¬ (5 : Int) = 3 by decide, show ¬ (5 : Int) = 4 by decide, if_false, if_true, layL_len, List.length_append]
      have := itL_len (l.length : Int) (by omega) (by omega)
      omega
    · rw [if_neg c7] at h; cases h
theorem mayL_ok : ∀ (l : List Rp) (d it tx : Int) (p : Int × Int), fitL l → mayL l d it tx = some p → 0 ≤ it → 0 ≤ tx → okL l ∧ ((encL l).length : Int) ≤ 40 * l.length + 40 * (it - p.1) + (tx - p.2)
  | [], d, it, tx, p, _, h, h0, h1 => by
    rw [mayL] at h
    cases h
    rw [okL, encL]
    refine ⟨trivial, ?_⟩
    simp
  | r :: l, d, it, tx, p, hfit, h, h0, h1 => by
    rw [fitL] at hfit
    rw [mayL] at h
    split at h
    · cases h
    · rename_i q hq
      have a := mayF_le r d it tx q hq h0
      have b := may_ok r d it tx q hfit.1 hq h0
      have c := mayL_ok l d q.1 q.2 p hfit.2 h a.1 a.2.2.1
      rw [okL, encL, List.length_append, List.length_cons]
      refine ⟨⟨b.1, c.1⟩, ?_⟩
      omega
end
theorem mk_run (t : TypeId) (w : World) : (Instr.makeMap t none).run Tryd.prog w = .ok (.map (some w.heap.size)) (w.alloc (.map #[] 0)) := rfl
theorem putMap_same {w : World} {b : Nat} {o o' : Obj} (h : w.heap[b]? = some o) : (putMap w b o').heap[b]? = some o' := by
  have := lt_of_block' h
  simp [putMap, this]
theorem putMap_below {B : Nat} {a w : World} {b : Nat} {o' : Obj} (h : Below B a w) (hb : B ≤ b) : Below B a (putMap w b o') :=
  h.trans ⟨rfl, rfl, rfl, by simp [putMap], fun k hk => by simp only [putMap]; rw [Array.getElem?_setIfInBounds_ne (by omega)]⟩
theorem putMap_size (w : World) (b : Nat) (o' : Obj) : (putMap w b o').heap.size = w.heap.size := by simp [putMap]
/-- What stands when the table is made. -/
structure E6 (w1 X : World) (O : Nat) : Prop where
  o : X.heap[O]? = some (.cells #[.slice none 0 0] 25 (0, 0))
  pv : X.heap[O + 1]? = some (.cells #[.nilFunc] 95 (0, 0))
  mp : X.heap[O + 1 + 1]? = some (.map #[kindE O (O + 1) 0 47, kindE O (O + 1) 1 48, kindE O (O + 1) 2 49, kindE O (O + 1) 3 50, kindE O (O + 1) 4 52, kindE O (O + 1) 5 53] 6)
  sz : X.heap.size = O + 3
  bel : Below O w1 X
theorem table_made (w1 : World) (O : Nat) (hO : w1.heap.size = O) : ∃ X0 X1 X2 X3 X4 X5 X6, X0 = ((w1.alloc (.cells #[.slice none 0 0] 25)).alloc (.cells #[.nilFunc] 95)).alloc (.map #[] 0) ∧ (Instr.mapUpdate 97 (.map (some (O + 1 + 1))) (.int .i64 0) (.func (.func 47) #[] #[.pointer (some ⟨O, 0, none⟩)])).run Tryd.prog X0 = .ok () X1 ∧ (Instr.mapUpdate 97 (.map (some (O + 1 + 1))) (.int .i64 1) (.func (.func 48) #[] #[.pointer (some ⟨O, 0, none⟩)])).run Tryd.prog X1 = .ok () X2 ∧ (Instr.mapUpdate 97 (.map (some (O + 1 + 1))) (.int .i64 2) (.func (.func 49) #[] #[.pointer (some ⟨O, 0, none⟩)])).run Tryd.prog X2 = .ok () X3 ∧ (Instr.mapUpdate 97 (.map (some (O + 1 + 1))) (.int .i64 3) (.func (.func 50) #[] #[.pointer (some ⟨O, 0, none⟩)])).run Tryd.prog X3 = .ok () X4 ∧ (Instr.mapUpdate 97 (.map (some (O + 1 + 1))) (.int .i64 4) (.func (.func 52) #[] #[.pointer (some ⟨O, 0, none⟩)])).run Tryd.prog X4 = .ok () X5 ∧ (Instr.mapUpdate 97 (.map (some (O + 1 + 1))) (.int .i64 5) (.func (.func 53) #[] #[.pointer (some ⟨O, 0, none⟩), .pointer (some ⟨O + 1, 0, none⟩)])).run Tryd.prog X5 = .ok () X6 ∧ E6 w1 X6 O := by
  subst hO
  have a0 := heap_alloc_new w1 (.cells #[.slice none 0 0] 25)
  have b0 := below_new w1 (.cells #[.slice none 0 0] 25)
  have s0 : (w1.alloc (.cells #[.slice none 0 0] 25)).heap.size = w1.heap.size + 1 := by simp
  generalize w1.alloc (.cells #[.slice none 0 0] 25) = w2 at *
  have a1 := heap_alloc_new w2 (.cells #[.nilFunc] 95)
  have b1 := below_new w2 (.cells #[.nilFunc] 95)
  have s1 : (w2.alloc (.cells #[.nilFunc] 95)).heap.size = w1.heap.size + 2 := by simp [s0]
  generalize w2.alloc (.cells #[.nilFunc] 95) = w3 at *
  have a2 : (w3.alloc (.map #[] 0)).heap[w3.heap.size]? = some (.map #[] 0) := by
    show (w3.heap.push _)[w3.heap.size]? = _
    simp
  have b2 := below_new w3 (.map #[] 0)
  have s2 : (w3.alloc (.map #[] 0)).heap.size = w1.heap.size + 3 := by simp [s1]
  generalize w3.alloc (.map #[] 0) = X0 at *
  rw [s0] at a1 b1
  rw [s1] at a2 b2
  generalize hO : w1.heap.size = O at *
  have o0 : X0.heap[O]? = some (.cells #[.slice none 0 0] 25 (0, 0)) := (b2.block _ (by omega)).trans ((b1.block _ (by omega)).trans a0)
  have p0 : X0.heap[O + 1]? = some (.cells #[.nilFunc] 95 (0, 0)) := (b2.block _ (by omega)).trans a1
  have m0 : X0.heap[O + 1 + 1]? = some (.map #[] 0) := a2
  have bb : Below O w1 X0 := (b0.trans (b1.mono (by omega))).trans (b2.mono (by omega))
  have r0 := put_num Tryd.underlying97 Tryd.underlying38 m0 (.func (.func 47) #[] #[.pointer (some ⟨O, 0, none⟩)]) (k := 0) rfl
  have m1 := putMap_same m0 (o' := .map #[kindE O (O + 1) 0 47] 1)
  have r1 := put_num Tryd.underlying97 Tryd.underlying38 m1 (.func (.func 48) #[] #[.pointer (some ⟨O, 0, none⟩)]) (k := 1) rfl
  have m2 := putMap_same m1 (o' := .map #[kindE O (O + 1) 0 47, kindE O (O + 1) 1 48] 2)
  have r2 := put_num Tryd.underlying97 Tryd.underlying38 m2 (.func (.func 49) #[] #[.pointer (some ⟨O, 0, none⟩)]) (k := 2) rfl
  have m3 := putMap_same m2 (o' := .map #[kindE O (O + 1) 0 47, kindE O (O + 1) 1 48, kindE O (O + 1) 2 49] 3)
  have r3 := put_num Tryd.underlying97 Tryd.underlying38 m3 (.func (.func 50) #[] #[.pointer (some ⟨O, 0, none⟩)]) (k := 3) rfl
  have m4 := putMap_same m3 (o' := .map #[kindE O (O + 1) 0 47, kindE O (O + 1) 1 48, kindE O (O + 1) 2 49, kindE O (O + 1) 3 50] 4)
  have r4 := put_num Tryd.underlying97 Tryd.underlying38 m4 (.func (.func 52) #[] #[.pointer (some ⟨O, 0, none⟩)]) (k := 4) rfl
  have m5 := putMap_same m4 (o' := .map #[kindE O (O + 1) 0 47, kindE O (O + 1) 1 48, kindE O (O + 1) 2 49, kindE O (O + 1) 3 50, kindE O (O + 1) 4 52] 5)
  have r5 := put_num Tryd.underlying97 Tryd.underlying38 m5 (.func (.func 53) #[] #[.pointer (some ⟨O, 0, none⟩), .pointer (some ⟨O + 1, 0, none⟩)]) (k := 5) rfl
  have m6 := putMap_same m5 (o' := .map #[kindE O (O + 1) 0 47, kindE O (O + 1) 1 48, kindE O (O + 1) 2 49, kindE O (O + 1) 3 50, kindE O (O + 1) 4 52, kindE O (O + 1) 5 53] 6)
  have ho : ∀ (W : World) (o : Obj), Below (O + 1 + 1) W (putMap W (O + 1 + 1) o) := fun W o => putMap_below (Below.refl _ _) (Nat.le_refl _)
  have h6 := (((((ho X0 (.map #[kindE O (O + 1) 0 47] 1)).trans (ho _ (.map #[kindE O (O + 1) 0 47, kindE O (O + 1) 1 48] 2))).trans (ho _ (.map #[kindE O (O + 1) 0 47, kindE O (O + 1) 1 48, kindE O (O + 1) 2 49] 3))).trans (ho _ (.map #[kindE O (O + 1) 0 47, kindE O (O + 1) 1 48, kindE O (O + 1) 2 49, kindE O (O + 1) 3 50] 4))).trans (ho _ (.map #[kindE O (O + 1) 0 47, kindE O (O + 1) 1 48, kindE O (O + 1) 2 49, kindE O (O + 1) 3 50, kindE O (O + 1) 4 52] 5))).trans (ho _ (.map #[kindE O (O + 1) 0 47, kindE O (O + 1) 1 48, kindE O (O + 1) 2 49, kindE O (O + 1) 3 50, kindE O (O + 1) 4 52, kindE O (O + 1) 5 53] 6))
  exact ⟨X0, _, _, _, _, _, _, rfl, r0, r1, r2, r3, r4, r5, (h6.block _ (by omega)).trans o0, (h6.block _ (by omega)).trans p0, m6, by simp only [putMap_size]; exact s2, bb.trans (h6.mono (by omega))⟩
theorem enc_start {w1 X : World} {O : Nat} (h : E6 w1 X O) (hO : w1.heap.size = O) (ht : TAB w1) :
    (∀ j, (X.alloc (.cells #[.map (some (O + 1 + 1))] 97)).frozen? ⟨O + 1, j, none⟩ = false) ∧ (X.alloc (.cells #[.map (some (O + 1 + 1))] 97)).cell? ⟨O + 1, 0, none⟩ = some .nilFunc ∧
    EV ((X.alloc (.cells #[.map (some (O + 1 + 1))] 97)).setCell ⟨O + 1, 0, none⟩ (.func (.func 54) #[] #[.pointer (some ⟨X.heap.size, 0, none⟩)])) O (O + 4) none 0 [] ∧
    EE ((X.alloc (.cells #[.map (some (O + 1 + 1))] 97)).setCell ⟨O + 1, 0, none⟩ (.func (.func 54) #[] #[.pointer (some ⟨X.heap.size, 0, none⟩)])) O (O + 4) (O + 1) X.heap.size (O + 1 + 1) ∧
    Below O w1 ((X.alloc (.cells #[.map (some (O + 1 + 1))] 97)).setCell ⟨O + 1, 0, none⟩ (.func (.func 54) #[] #[.pointer (some ⟨X.heap.size, 0, none⟩)])) := by
  obtain ⟨ho, hp, hm, hz, hb⟩ := h
  have a7 := heap_alloc_new X (.cells #[.map (some (O + 1 + 1))] 97)
  have b7 := below_new X (.cells #[.map (some (O + 1 + 1))] 97)
  have s7 : (X.alloc (.cells #[.map (some (O + 1 + 1))] 97)).heap.size = O + 4 := by simp [hz]
  generalize X.alloc (.cells #[.map (some (O + 1 + 1))] 97) = Y at *
  have ho7 := (b7.block _ (by omega)).trans ho
  have hp7 := (b7.block _ (by omega)).trans hp
  have hm7 := (b7.block _ (by omega)).trans hm
  rw [hz] at a7 b7 ⊢
  have hbY : Below O w1 Y := hb.trans (b7.mono (by omega))
  have hbZ : Below O w1 (Y.setCell ⟨O + 1, 0, none⟩ (.func (.func 54) #[] #[.pointer (some ⟨O + 3, 0, none⟩)])) := hbY.setCell (p := ⟨O + 1, 0, none⟩) (by simp) _
  have so : ∀ b, b ≠ O + 1 → (Y.setCell ⟨O + 1, 0, none⟩ (.func (.func 54) #[] #[.pointer (some ⟨O + 3, 0, none⟩)])).heap[b]? = Y.heap[b]? := fun b hb => Below.heap_setCell Y ⟨O + 1, 0, none⟩ _ b (by simpa using hb)
  have hlt := tab_lt ht
  refine ⟨fun j => free_row hp7 j, cell_one hp7, ⟨(so _ (by omega)).trans ho7, World.ownsRow_nil _ _ _ _, by omega, by simp [World.setCell, s7], by omega, tab_zero ht (hbZ.block _ (by omega))⟩, ⟨row_set hp7, (so _ (by omega)).trans a7, (so _ (by omega)).trans hm7, ⟨by omega, by omega⟩, ⟨by omega, by omega⟩, ⟨by omega, by omega⟩⟩, hbZ⟩
/-- How a reply's bytes are told. -/
def EncEnd (w : World) (r : Rp) (e : Ending) (w' : World) : Prop := ∃ v, e = .returned (.tuple #[v, .int .i64 (chkR r)]) ∧ OwnB w' w.heap.size v (if chkR r = 0 then encR r else []) ∧ Below w.heap.size w w'
theorem chk_ok {r : Rp} (h : chkR r = 0) (hf : fitR r) : okR r ∧ (encR r).length ≤ 10000000 := by
  unfold chkR at h
  cases hm : mayF r 100 65536 1048576 with
  | none => rw [hm] at h; exact absurd h (by decide)
  | some p =>
    have h1 := mayF_le r 100 65536 1048576 p hm (by decide)
    have h2 := may_ok r 100 65536 1048576 p hf hm (by decide)
    exact ⟨h2.1, by omega⟩
set_option maxRecDepth 100000 in
set_option maxHeartbeats 8000000 in
theorem encode_any (P : Nat → Prop) (r : Rp) (A : Option Addr) (c : Nat) (w : World) (hk : RpK P w r A c) (ht : TAB w) :
    Calls Tryd.prog 22 #[.agg (rpV r A c)] w (EncEnd w r) := by
  have hb0 := below_new w (.cells (rpV r A c) 41)
  have s0 : (w.alloc (.cells (rpV r A c) 41)).heap.size = w.heap.size + 1 := by simp
  have hk0 : RpK (fun b => b < w.heap.size) (w.alloc (.cells (rpV r A c) 41)) r A c := hk.imp hb0.size (fun b _ h => ⟨hb0.block b h, h⟩)
  have HCK := Lib.hid (check_any _ r A c _ hk0)
  have HFT := Lib.hid hk.fit
  have HK0 := Lib.hid hk0
  have hx0 := heap_alloc_new w (.cells (rpV r A c) 41)
  have HX0 := Lib.hid hx0
  have HB0 := Lib.hid hb0
  have HT := Lib.hid (tab_below ht hb0)
  have HS0 := Lib.hid s0
  obtain ⟨E, hE⟩ : ∃ E, chkR r = E := ⟨_, rfl⟩
  have HE := Lib.hid hE
  rw [hE] at HCK
  clear hk ht hb0 hk0 s0 hE hx0
  by_cases hz : E = 0
  rotate_left
  · have z1 : (E != 0) = true := by simpa using hz
    have z2 : decide (E = 0) = false := decide_eq_false hz
    have HQ : Hid (∀ w', Below w.heap.size w w' → EncEnd w r (.returned (.tuple #[.slice none 0 0, .int .i64 E])) w') := Lib.hid (fun w' hb => ⟨_, by rw [HE.out], by rw [HE.out, if_neg hz]; exact World.ownsRow_nil _ _ _ _, hb⟩)
    clear hz
    go_enter Tryd.func22, Tryd.ntmps22
    go_wp2_with fail
    refine HCK.out.mono ?_
    rintro e w1 ⟨rfl, hb1⟩
    have HB1 := Lib.hid (HB0.out.trans (hb1.mono (by have := HS0.out; omega)))
    clear hb1 HCK
    go_wp2_with fail
    go_ret2
    exact HQ.out _ HB1.out
  subst hz
  have hq : ∀ v w', OwnB w' w.heap.size v (encR r) → Below w.heap.size w w' → EncEnd w r (.returned (.tuple #[v, .int .i64 0])) w' := fun v w' h1 h2 => ⟨v, by rw [HE.out], by rw [HE.out, if_pos rfl]; exact h1, h2⟩
  have HQ := Lib.hid hq
  clear hq
  go_enter Tryd.func22, Tryd.ntmps22
  go_wp2_with fail
  refine HCK.out.mono ?_
  rintro e w1 ⟨rfl, hb1⟩
  have HK1 := Lib.hid (HK0.out.imp (Q := fun b => b < w.heap.size) hb1.size (fun b h1 h2 => ⟨hb1.block b h2, h1⟩))
  have HX1 := Lib.hid ((hb1.block _ (by have := HS0.out; omega)).trans HX0.out)
  have HB1 := Lib.hid (HB0.out.trans (hb1.mono (by have := HS0.out; omega)))
  have HT1 := Lib.hid (tab_below HT.out hb1)
  have HSZ : Hid (w.heap.size < w1.heap.size) := Lib.hid (by have := hb1.size; have := HS0.out; omega)
  clear hb1 HCK HK0 HX0 HB0 HT HS0
  obtain ⟨X0, X1, X2, X3, X4, X5, X6, rfl, r0, r1, r2, r3, r4, r5, h6⟩ := table_made w1 w1.heap.size rfl
  have H6 := Lib.hid h6
  clear h6
  have hmf : ∀ (fn : Fn) (first cap : Array Value) (w : World), (Instr.makeFunc fn first cap).run Tryd.prog w = .ok (.func fn first cap) w := fun _ _ _ _ => rfl
  have hmm := mk_run
  obtain ⟨f7, c7, hev, hee, hbl⟩ := enc_start H6.out rfl HT1.out
  have HEV := Lib.hid hev
  have HEE := Lib.hid hee
  have HBL := Lib.hid hbl
  have hk8 := HK1.out.imp (Q := fun b => b < w1.heap.size + 4 ∧ b ≠ w1.heap.size) hbl.size (fun b h1 h2 => ⟨hbl.block b h2, by omega, by omega⟩)
  have hok := chk_ok HE.out HFT.out
  have HPC := Lib.hid (put_all (hgt r) r A c _ [] none 0 _ _ _ _ _ (Nat.le_refl _) hok.1 hev hee hk8 (by simp; omega))
  have hbx8 := (hbl.block _ (by have := HSZ.out; omega)).trans HX1.out
  obtain ⟨X8, hX8⟩ : ∃ X8, (X6.alloc (.cells #[.map (some (w1.heap.size + 1 + 1))] 97)).setCell ⟨w1.heap.size + 1, 0, none⟩ (.func (.func 54) #[] #[.pointer (some ⟨X6.heap.size, 0, none⟩)]) = X8 := ⟨_, rfl⟩
  have p8 := cell_one hee.pv
  have x0 : ((X6.alloc (.cells #[.map (some (w1.heap.size + 1 + 1))] 97)).setCell ⟨w1.heap.size + 1, 0, none⟩ (.func (.func 54) #[] #[.pointer (some ⟨X6.heap.size, 0, none⟩)])).cell? ⟨w.heap.size, 0, none⟩ = some (.int .i64 r.kind) := by simp only [World.cell?, hbx8]; rfl
  have x1 : ((X6.alloc (.cells #[.map (some (w1.heap.size + 1 + 1))] 97)).setCell ⟨w1.heap.size + 1, 0, none⟩ (.func (.func 54) #[] #[.pointer (some ⟨X6.heap.size, 0, none⟩)])).cell? ⟨w.heap.size, 1, none⟩ = some (.int .i64 r.num) := by simp only [World.cell?, hbx8]; rfl
  have x2 : ((X6.alloc (.cells #[.map (some (w1.heap.size + 1 + 1))] 97)).setCell ⟨w1.heap.size + 1, 0, none⟩ (.func (.func 54) #[] #[.pointer (some ⟨X6.heap.size, 0, none⟩)])).cell? ⟨w.heap.size, 2, none⟩ = some (.string r.text) := by simp only [World.cell?, hbx8]; rfl
  have x3 : ((X6.alloc (.cells #[.map (some (w1.heap.size + 1 + 1))] 97)).setCell ⟨w1.heap.size + 1, 0, none⟩ (.func (.func 54) #[] #[.pointer (some ⟨X6.heap.size, 0, none⟩)])).cell? ⟨w.heap.size, 3, none⟩ = some (.slice A r.kids.length c) := by simp only [World.cell?, hbx8]; rfl
  rw [hX8] at p8 x0 x1 x2 x3 HPC HBL
  have HX8 := Lib.hid hX8
  clear hev hee hbl hk8 hok hbx8 hX8 HEV HEE H6 HK1 HX1 HFT HE
  go_upto_region 8 with (fail)
  rw [HX8.out]
  clear HX8 r0 r1 r2 r3 r4 r5 f7 c7
  go_wp2_with fail
  refine HPC.out.mono ?_
  rintro e w9 ⟨rfl, ⟨A9, c9, h9⟩, ha9⟩
  rw [List.nil_append] at h9
  obtain ⟨e9, f9⟩ := h9.cell
  have HQ9 := Lib.hid (HQ.out _ w9 (OwnB.down h9.own (by have := HSZ.out; omega)) (HB1.out.trans ((HBL.out.mono (by have := HSZ.out; omega)).trans ⟨ha9.os, ha9.tape, ha9.output, ha9.size, fun k hk => ha9.block k (by have := HSZ.out; omega) (by have := HSZ.out; omega)⟩)))
  clear h9 ha9 HPC HQ p8 x0 x1 x2 x3
  go_wp2_with fail
  go_ret2
  exact HQ9.out
end Go.Proofs.YtglicojojpggmaaDoor
