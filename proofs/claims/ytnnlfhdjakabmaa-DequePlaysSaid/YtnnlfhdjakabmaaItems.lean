/- The items of a deque: the iterator's contract. -/
import Derived.Test.YtnnlfhdjakabmaaRange
import Derived.Test.YtnnlfhdjakabmaaEnds
namespace Go.Proofs.Ytnnlfhdjakabmaa
open Go Go.RowKit
open Go.Shelf
attribute [local go_sem] Oper.semAt_some
theorem items_any (D a b : Nat) (w : World) :
    Calls Try.prog 56 #[.pointer (some ⟨D, 0, none⟩), .int .i64 a, .int .i64 b] w fun e w' => e = .returned (.func (.func 59) #[] #[.pointer (some ⟨w.heap.size + 1, 0, none⟩), .pointer (some ⟨w.heap.size + 2, 0, none⟩), .pointer (some ⟨w.heap.size, 0, none⟩)]) ∧ w' = ((w.alloc (.cells #[.pointer (some ⟨D, 0, none⟩)] 31)).alloc (.cells #[.int .i64 a] 3)).alloc (.cells #[.int .i64 b] 3) := by
  go_enter Try.func56, Try.ntmps56
  go_wp2
  go_ret
  exact ⟨rfl, rfl⟩
/-- Where blocks below B but for this one are as they were. -/
def Same1 (B C : Nat) (w W : World) : Prop := (∀ k, k < B → k ≠ C → W.heap[k]? = w.heap[k]?) ∧ w.heap.size ≤ W.heap.size
theorem Same1.refl (B C : Nat) (w : World) : Same1 B C w w := ⟨fun _ _ _ => rfl, Nat.le_refl _⟩
theorem Same1.trans {B C : Nat} {w W V : World} (h : Same1 B C w W) (k : Same1 B C W V) : Same1 B C w V := ⟨fun i a b => (k.1 i a b).trans (h.1 i a b), Nat.le_trans h.2 k.2⟩
theorem Same1.drewN {B C : Nat} {w W : World} (h : Same1 B C w W) (q : Nat) : Same1 B C w (W.drewN q) := h
theorem slice_next {α : Type} {l : List α} {a k : Nat} (ha : a ≤ k) (hk : k < l.length) : (l.drop a).take (k + 1 - a) = (l.drop a).take (k - a) ++ [l[k]] := by
  rw [show k + 1 - a = (k - a) + 1 by omega, List.take_succ_eq_append_getElem (by rw [List.length_drop]; omega)]
  congr 2
  rw [List.getElem_drop]
  congr 1
  omega
set_option maxHeartbeats 4000000 in
theorem items_seq (n B C E D a b : Nat) (r : Option Nat) (l : List ByteArray) (w : World) (hn : 1 ≤ n) (hB : B = w.heap.size) (hC : C < B)
    (hE0 : w.heap[E]? = some (.cells #[.pointer (some ⟨D, 0, none⟩)] 31 (0, 0))) (hE1 : w.heap[E + 1]? = some (.cells #[.int .i64 a] 3 (0, 0))) (hE2 : w.heap[E + 2]? = some (.cells #[.int .i64 b] 3 (0, 0)))
    (hEC : C < E) (hD : Dq D r l w) (hDC : D ≠ C) (hrC : r ≠ some C) (hb : b ≤ l.length) (hab : a ≤ 1000000) :
    SeqC n Try.prog 59 #[.pointer (some ⟨E + 1, 0, none⟩), .pointer (some ⟨E + 2, 0, none⟩), .pointer (some ⟨E, 0, none⟩)] (fun x : ByteArray => #[.string x]) (Same1 B C) (fun _ _ => True) (fun xs => xs = (l.drop a).take (b - a)) (b - a + 1) w := by
  intro y J W hbel hJ hY h0
  have hW0 : Same1 B C w W := ⟨fun k hk _ => hbel.block k (by omega), hbel.size⟩
  have hlb : l.length ≤ 500000 := by obtain ⟨v, N, f, ys, _, h⟩ := hD; have := h.len; have := h.cap; omega
  have hEB : E + 2 < B := by rw [hB]; exact (Array.getElem?_eq_some_iff.1 hE2).1
  have HW0 := Lib.hid hW0
  have HJ0 := Lib.hid h0
  have HE0 := Lib.hid hE0
  have HE2 := Lib.hid hE2
  have HDq := Lib.hid hD
  have HJ := Lib.hid hJ
  have HY := Lib.hid hY
  have hc1 := cell_of_one ((hW0.1 (E + 1) (by omega) (by omega)).trans hE1)
  clear hW0 h0 hE0 hE1 hE2 hD hJ hY hbel
  refine callsIn_of_wp Try.func59 rfl trivial ?_
  simp only [Try.ntmps59, List.size_toArray, List.length_cons, List.length_nil, Nat.reduceAdd, Nat.reduceSub, Array.replicate_succ, Array.replicate_zero, List.push_toArray, List.append_toArray, List.nil_append, List.cons_append]
  gi_wp2
  clear hc1
  gi_loopw [5] (fun z wr => ∃ k : Nat, z = .int .i64 k ∧ a ≤ k ∧ (k ≤ b ∨ k = a) ∧ Hid (J ((l.drop a).take (k - a)) wr) ∧ Hid (Same1 B C w wr)) (fun z _ => b - (intOf z).toNat)
  case atStart => exact ⟨a, rfl, Nat.le_refl _, .inr rfl, by rw [Nat.sub_self, List.take_zero]; exact HJ0, HW0⟩
  case round =>
    clear HJ0 HW0
    obtain ⟨k, rfl, hak, hkb, HJS, HW⟩ := hrel
    have hw2 := cell_of_one ((HW.out.1 (E + 2) (by omega) (by omega)).trans HE2.out)
    by_cases hlt : k < b
    · have hw0 := cell_of_one ((HW.out.1 E (by omega) (by omega)).trans HE0.out)
      have hdq : Dq D r l wr := HDq.out.frame (HW.out.1 D (by rw [hB]; exact HDq.out.lt.1) hDC) (fun j e => HW.out.1 j (by rw [hB]; exact (HDq.out.lt.2 j e).1) (fun e2 => hrC (by rw [e, e2])))
      obtain ⟨v, N, f, ys, -, hi⟩ := hdq
      have hN0 : 0 < N := by have := hi.len; omega
      have hfN : f < N := by have := hi.fst; omega
      have hcap := hi.cap
      obtain ⟨g, c, rfl, -, -, -, -, hrow, -⟩ := row_form hi.row hN0
      obtain ⟨x, hx⟩ : ∃ x, (f + k) % N = x := ⟨_, rfl⟩
      have hxN : x < N := by rw [← hx]; exact md_lt hN0
      have hit := hi.item k (by omega)
      rw [hx] at hit
      obtain ⟨s, hs⟩ : ∃ s, l[k]'(by omega) = s := ⟨_, rfl⟩
      rw [hs] at hit
      have hcs := hrow x _ hit
      have h1 := hi.c1
      have h2 := hi.c2
      have HNX := Lib.hid (slice_next (l := l) hak (by omega))
      rw [hs] at HNX
      have HX := Lib.hid hx
      have hx0 : (0 : Int) ≤ (x : Int) := by omega
      have hx1 : (x : Int) < (N : Int) := by omega
      have HJd : Hid (∀ q, J ((l.drop a).take (k - a)) (wr.drewN (1 + q))) := Lib.hid fun q => HJ.out _ wr (wr.drewN (1 + q)) none HJS.out ⟨rfl, rfl, rfl, Nat.le_refl _, fun _ _ _ => rfl⟩ (fun j e => by cases e)
      have HYd := Lib.hid fun q => HY.out _ s (wr.drewN (1 + q)) trivial (HJd.out q) (by rw [List.length_take, List.length_drop]; omega)
      clear hi hit hrow hx hs
      have hmo : Try.prog.follows .mixedOrders = true := by kernel_rfl
      gi_wp2_with fail
      gi_region_with_o (first
        | (refine ⟨trivial, (callsIn_wide.2 (slot_x D f k N c x (some ⟨g, 0, none⟩) wr.drew h1 h2 (by omega) (by omega) (by omega) (by omega) HX.out)).mono ?_⟩; rintro e w' ⟨rfl, q, rfl⟩; obtain ⟨fn, tmps, assign, body, hy, hR⟩ := HYd.out q; have HRr := Lib.hid hR; have HSq := Lib.hid (HW.out.drewN (1 + q)); have hcs' := (show (wr.drewN (1 + q)).cell? ⟨g, x, none⟩ = _ from hcs); have h1' := (show (wr.drewN (1 + q)).cell? ⟨D, 1, none⟩ = _ from h1); have hw0' := (show (wr.drewN (1 + q)).cell? ⟨E, 0, none⟩ = _ from hw0); clear hR)
        | (refine HRr.out.mono ?_; rintro e W3 ⟨rfl, hJ3, hk3⟩))
      all_goals
        have HJ3 := Lib.hid hJ3
        have HW3 := Lib.hid (HSq.out.trans hk3)
        clear hJ3 hk3 hy HRr HYd HJd hcs' h1' hw0' hcs h1 h2 hw0 hw2
        gi_wp2
        refine ⟨⟨k + 1, by go_num, by omega, by omega, ?_, HW3⟩, by simp [intOf]; omega⟩
        show J _ _
        rw [HNX.out]
        exact HJ3.out
    · have HE : Hid (J ((l.drop a).take (b - a)) wr) := by rw [show b - a = k - a by omega]; exact HJS
      gi_wp2
      go_end0
      exact ⟨⟨_, rfl⟩, _, rfl, HE.out⟩
end Go.Proofs.Ytnnlfhdjakabmaa
