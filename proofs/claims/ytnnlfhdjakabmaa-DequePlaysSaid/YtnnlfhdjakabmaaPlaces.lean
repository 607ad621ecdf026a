/- The texts of a span; a text at a place; only a span stays. -/
import Derived.Test.YtnnlfhdjakabmaaCalls
namespace Go.Proofs.Ytnnlfhdjakabmaa
open Go Go.RowKit
open Go.Shelf
/-- The texts of a span. -/
def rangeL (l : List ByteArray) (f u : Int) : List ByteArray := (l.drop (spanF l.length f u).1.toNat).take ((spanF l.length f u).2.toNat - (spanF l.length f u).1.toNat)
theorem rangeL_len (l : List ByteArray) (f u : Int) : (rangeL l f u).length ≤ l.length := by
  unfold rangeL
  rw [List.length_take, List.length_drop]
  omega
theorem dq_len {D : Nat} {r : Option Nat} {l : List ByteArray} {w : World} (h : Dq D r l w) : l.length ≤ 500000 := by
  obtain ⟨v, N, f, ys, -, hi⟩ := h
  have := hi.len
  have := hi.cap
  omega
set_option maxHeartbeats 1000000 in
theorem range_any (D : Nat) (r : Option Nat) (l : List ByteArray) (f u : Int) (w : World) (h : Dq D r l w) (f1 : -9223372036854775808 ≤ f) (f2 : f ≤ 9223372036854775807) (u1 : -9223372036854775808 ≤ u) (u2 : u ≤ 9223372036854775807) :
    Calls Try.prog 29 #[.pointer (some ⟨D, 0, none⟩), .int .i64 f, .int .i64 u] w (TextsQ w (rangeL l f u)) := by
  have hlen := dq_len h
  have HNO := Lib.hid (none_any D r l w h)
  have hsp := spanF_le l.length f u (by omega)
  obtain ⟨a, ha⟩ : ∃ a : Nat, (a : Int) = (spanF l.length f u).1 := ⟨(spanF l.length f u).1.toNat, by omega⟩
  obtain ⟨b, hb⟩ : ∃ b : Nat, (b : Int) = (spanF l.length f u).2 := ⟨(spanF l.length f u).2.toNat, by omega⟩
  have hSP := span_any l.length f u w (by omega) (by omega) f1 f2 u1 u2
  rw [← ha, ← hb] at hSP
  have HSP := Lib.hid hSP
  have HT := Lib.hid (texts_any D a b r l w h (by omega) (by omega))
  have HR : Hid ((l.drop a).take (b - a) = rangeL l f u) := Lib.hid (by unfold rangeL; rw [← ha, ← hb]; simp)
  obtain ⟨v, N, f0, ys, -, hi⟩ := h
  have h3 := hi.c3
  clear hi hsp hSP ha hb
  go_enter Try.func29, Try.ntmps29
  go_wp2_with fail
  refine HNO.out.mono ?_
  rintro e w' ⟨rfl, rfl⟩
  go_wp2_with fail
  refine HSP.out.mono ?_
  rintro e w' ⟨rfl, rfl⟩
  go_wp2_with fail
  refine HT.out.mono ?_
  rintro e w2 ⟨v2, rfl, ho, hb⟩
  rw [HR.out] at ho
  have HO := Lib.hid ho
  have HB := Lib.hid hb
  clear ho hb
  go_wp2
  go_ret
  exact ⟨_, rfl, HO.out, HB.out⟩
theorem range_nil (f u : Int) (w : World) : Calls Try.prog 29 #[.pointer none, .int .i64 f, .int .i64 u] w fun e w' => e = .returned (.slice none 0 0) ∧ w' = w := by
  go_enter Try.func29, Try.ntmps29
  go_wp2_with fail
  refine (none_nil w).mono ?_
  rintro e w' ⟨rfl, rfl⟩
  go_wp2
  go_ret
  exact ⟨rfl, rfl⟩
theorem set_dq {D B n : Nat} {r : Option Nat} {l xs : List ByteArray} {v : Value} {w : World} (h : Dq D r l w) (hl : xs.length = n) (hn : n ≤ 500000) (ho : w.ownsRow B 9 1 v n (cellsS xs)) :
    Dq D v.ownBlock xs (((w.setCell ⟨D, 1, none⟩ v).setCell ⟨D, 2, none⟩ (.int .i64 0)).setCell ⟨D, 3, none⟩ (.int .i64 n)) ∧ Keeps D none w (((w.setCell ⟨D, 1, none⟩ v).setCell ⟨D, 2, none⟩ (.int .i64 0)).setCell ⟨D, 3, none⟩ (.int .i64 n)) := by
  obtain ⟨v0, N0, f0, ys0, -, hi⟩ := h
  have hbox := hi.box
  have hne : ∀ k, v.ownBlock = some k → k ≠ D := by
    rintro k hk rfl
    rcases ho.2 with ⟨rfl, _⟩ | ⟨g, cap, cur, rfl, hb, hg, _⟩
    · cases hk
    · cases hk
      rw [hbox] at hg
      cases hg
  have hset : ∀ (W : World) (j : Nat) (u : Value), W.ownsRow 0 9 1 v n (cellsS xs) → (W.setCell ⟨D, j, none⟩ u).ownsRow 0 9 1 v n (cellsS xs) := fun W j u hW => ownsRow_setCell_other hW (a := ⟨D, j, none⟩) (fun e => hne D e rfl) u
  refine ⟨⟨v, n, 0, cellsS xs, rfl, ⟨?_, hset _ _ _ (hset _ _ _ (hset _ _ _ (own_down ho (Nat.zero_le _)))), by omega, by omega, fun i hi2 => ?_, hn⟩⟩, ⟨rfl, rfl, rfl, by simp [World.setCell], fun k hk hkD _ => ?_⟩⟩
  · simp [World.setCell, Array.getElem?_modify, hbox, hl]
  · rw [Nat.zero_add, Nat.mod_eq_of_lt (by omega)]
    simp [cellsS, hi2]
  · exact (Below.heap_setCell _ ⟨D, 3, none⟩ _ k hkD).trans ((Below.heap_setCell _ ⟨D, 2, none⟩ _ k hkD).trans (Below.heap_setCell _ ⟨D, 1, none⟩ _ k hkD))
theorem set_any (D B n : Nat) (r : Option Nat) (l xs : List ByteArray) (v : Value) (w : World) (h : Dq D r l w) (hl : xs.length = n) (hn : n ≤ 500000) (ho : w.ownsRow B 9 1 v n (cellsS xs)) :
    Calls Try.prog 44 #[.pointer (some ⟨D, 0, none⟩), v] w fun e w' => e = .returned (.tuple #[]) ∧ Dq D v.ownBlock xs w' ∧ Keeps D none w w' := by
  have HS := Lib.hid (set_dq h hl hn ho)
  obtain ⟨A, c, rfl, -⟩ := own_rdV ho
  obtain ⟨v0, N0, f0, ys0, -, hi⟩ := h
  obtain ⟨A0, c0, rfl⟩ := hi.form
  have h1 := hi.c1
  have h2 := hi.c2
  have h3 := hi.c3
  have hf1 := hi.fr 1
  have hf2 := hi.fr 2
  have hf3 := hi.fr 3
  clear ho hi hl
  go_enter Try.func44, Try.ntmps44
  go_wp2
  go_end0
  exact ⟨rfl, HS.out⟩
def KeepQ (D : Nat) (l' : List ByteArray) (w : World) (e : Ending) (w' : World) : Prop := e = .returned (.tuple #[]) ∧ ∃ r', Dq D r' l' w' ∧ Keeps D none w w' ∧ ∀ k, r' = some k → w.heap.size ≤ k
theorem keep_any (D : Nat) (r : Option Nat) (l : List ByteArray) (f u : Int) (w : World) (h : Dq D r l w) (f1 : -9223372036854775808 ≤ f) (f2 : f ≤ 9223372036854775807) (u1 : -9223372036854775808 ≤ u) (u2 : u ≤ 9223372036854775807) :
    Calls Try.prog 32 #[.pointer (some ⟨D, 0, none⟩), .int .i64 f, .int .i64 u] w (KeepQ D (rangeL l f u) w) := by
  have hlen := dq_len h
  have HNO := Lib.hid (none_any D r l w h)
  have HRA := Lib.hid (range_any D r l f u w h f1 f2 u1 u2)
  have HD := Lib.hid h
  clear h
  go_enter Try.func32, Try.ntmps32
  go_wp2_with fail
  refine HNO.out.mono ?_
  rintro e w' ⟨rfl, rfl⟩
  go_wp2_with fail
  refine HRA.out.mono ?_
  rintro e w2 ⟨v, rfl, ho, hb⟩
  have HO := Lib.hid ho
  have HB := Lib.hid hb
  have HD2 := Lib.hid (HD.out.below hb)
  have HLT := Lib.hid fun k e => (ho.lt k e).1
  clear ho hb
  go_wp2_with fail
  refine (set_any D w'.heap.size _ r l (rangeL l f u) v w2 HD2.out rfl (by have := rangeL_len l f u; omega) HO.out).mono ?_
  rintro e w3 ⟨rfl, hd, hk⟩
  have HQ : Hid (∃ r', Dq D r' (rangeL l f u) w3 ∧ Keeps D none w' w3 ∧ ∀ k, r' = some k → w'.heap.size ≤ k) := Lib.hid ⟨_, hd, (Keeps.of_below HB.out).trans hk (Next.refl _ _), HLT.out⟩
  clear hd hk
  go_wp2
  go_end0
  exact ⟨rfl, HQ.out⟩
theorem keep_nil (f u : Int) (w : World) : Calls Try.prog 32 #[.pointer none, .int .i64 f, .int .i64 u] w fun e w' => e = .returned (.tuple #[]) ∧ w' = w := by
  go_enter Try.func32, Try.ntmps32
  go_wp2_with fail
  refine (none_nil w).mono ?_
  rintro e w' ⟨rfl, rfl⟩
  go_wp2
  first
    | (go_ret; exact ⟨rfl, rfl⟩)
    | (go_end0; exact ⟨rfl, rfl⟩)
    | (refine bodyPost_ret (results_none rfl _ _ _) rfl ?_; exact ⟨rfl, rfl⟩)
set_option maxHeartbeats 1000000 in
theorem at_yes (D i : Nat) (r : Option Nat) (l : List ByteArray) (a : Int) (w : World) (h : Dq D r l w) (f1 : -9223372036854775808 ≤ a) (f2 : a ≤ 9223372036854775807) (hp : placeF l.length a = ((i : Int), true)) (hi : i < l.length) :
    Calls Try.prog 28 #[.pointer (some ⟨D, 0, none⟩), .int .i64 a] w fun e w' => e = .returned (.tuple #[.string l[i], .bool true]) ∧ ∃ q, w' = w.drewN q := by
  have hlen := dq_len h
  have HLE := Lib.hid (len_any D r l w h)
  have hpl := place_any l.length a w (by omega) (by omega) f1 f2
  rw [hp] at hpl
  have HPL := Lib.hid hpl
  obtain ⟨v, N, f, ys, -, hq⟩ := h
  have hN := hq.len
  have hcap := hq.cap
  have hfst := hq.fst
  obtain ⟨g, c, rfl, -, -, -, -, hrow, -⟩ := row_form hq.row (by omega)
  have h1 := hq.c1
  have h2 := hq.c2
  obtain ⟨x, hx⟩ : ∃ x, (f + i) % N = x := ⟨_, rfl⟩
  have hxN : x < N := by rw [← hx]; exact md_lt (by omega)
  have hcs := hrow x _ (by have := hq.item i hi; rwa [hx] at this)
  have HX := Lib.hid hx
  have hx0 : (0 : Int) ≤ (x : Int) := by omega
  have hx1 : (x : Int) < (N : Int) := by omega
  generalize l[i] = t at *
  clear hq hrow hx hp hpl
  go_enter Try.func28, Try.ntmps28
  go_wp2_with fail
  refine HLE.out.mono ?_
  rintro e w' ⟨rfl, rfl⟩
  go_wp2_with fail
  refine HPL.out.mono ?_
  rintro e w' ⟨rfl, rfl⟩
  go_wp2_with fail
  go_quiet ((go_at_call 41; exact Calls.quiet_of (slot_x D f i N c x (some ⟨g, 0, none⟩) _ h1 h2 (by omega) (by omega) (by omega) (by omega) HX.out)))
  go_wp2
  go_ret2
  exact ⟨rfl, _, rfl⟩
end Go.Proofs.Ytnnlfhdjakabmaa
