/- All texts taken into a ring of another size. -/
import Derived.Test.YtnnlfhdjakabmaaTexts
namespace Go.Proofs.Ytnnlfhdjakabmaa
open Go Go.RowKit
section
variable {w : World} {ops : Array Oper} {o : Oper} {a : Act} {K : Act → World → Prop} {Q : Exit → Act → World → Prop} {E : Prop}
/-- Texts appended to an empty row with room, at a step of a region that draws. -/
theorem step_fits (hg : o.guard = none) (s x : Operand) (ho : o.op = .call { callee := .builtin .append, args := #[s, x], argTypes := #[29, 29] })
    (base g S : Nat) (hs : a.eval s = .slice (some ⟨g, 0, none⟩) 0 S) (hown : w.ownsRow base 9 1 (.slice (some ⟨g, 0, none⟩) 0 S) 0 []) (A : Option Addr) (n c : Nat) (m : List ByteArray) (hm : m.length = n) (hx : a.eval x = .slice A n c)
    (hr : RdV w A (cellsS m)) (hn : A = none → c = 0) (hc : n ≤ c) (hroom : n ≤ S)
    (hK : ∀ w', w'.ownsRow base 9 1 (.slice (some ⟨g, 0, none⟩) n S) n (cellsS m) → w.grownBy w' (some g) → K (a.put o.dst (.slice (some ⟨g, 0, none⟩) n S)) w') : if Region.wanted o (yielded ops a.tmps) = true then Oper.wp Try.prog o a w K Q else E := by
  have hw : Region.wanted o (yielded ops a.tmps) = true := by simp [Region.wanted, hg]
  rw [if_pos hw]
  obtain ⟨i0, hi, hz0, hz1, hz2⟩ := info_parts str_info
  cases A with
  | some ad =>
    obtain ⟨w', hrun, h1, h2⟩ := run_append_fits (P := Try.prog) w base 29 o.type 9 i0 1 Try.underlying29 hi hz1 g 0 S [] hown ad n c (cellsS m) (by rw [cellsS_len]; omega) hr.news (cellsS_one m) (by omega)
    rw [Nat.zero_add] at hrun h1
    rw [List.nil_append] at h1
    have h3 := hK w' h1 h2
    unfold Oper.wp
    simp [execOp, ho, resolve, invoke, builtin, hs, hx, hrun, Result.andThen]
    exact h3
  | none =>
    have hc0 := hn rfl
    subst hc0
    obtain rfl : n = 0 := by omega
    have hnil : m = [] := List.eq_nil_of_length_eq_zero hm
    subst hnil
    have hrun := run_append_owned_none (P := Try.prog) (w := w) base 29 o.type 9 i0 1 Try.underlying29 hi _ 0 [] hown
    have h3 := hK w hown ⟨rfl, rfl, rfl, Nat.le_refl _, fun _ _ _ => rfl⟩
    unfold Oper.wp
    simp [execOp, ho, resolve, invoke, builtin, hs, hx, hrun, Result.andThen]
    exact h3
end
theorem own_full {w : World} {base g n S : Nat} {xs : List Value} (h : w.ownsRow base 9 1 (.slice (some ⟨g, 0, none⟩) n S) n xs) : ∃ ys, w.ownsRow base 9 1 (.slice (some ⟨g, 0, none⟩) S S) S ys ∧ ys.take n = xs := by
  rcases h.2 with ⟨e, _⟩ | ⟨g', cap, cur, e, hb, hg, hn, hm, hc, ht⟩
  · cases e
  · cases e
    refine ⟨cur.toList, ⟨by rw [Array.length_toList, hc], .inr ⟨g, S, cur, rfl, hb, hg, Nat.le_refl _, hm, hc, ?_⟩⟩, by rw [← ht, Nat.mul_one]⟩
    rw [List.take_of_length_le (by rw [Array.length_toList, hc]; omega)]
theorem make_own (w : World) (S : Nat) (hS : S ≤ 500000) : (w.alloc (.cells (madeCells #[.string ⟨#[]⟩] S) 9)).ownsRow w.heap.size 9 1 (.slice (some ⟨w.heap.size, 0, none⟩) 0 S) 0 [] := by
  refine ⟨by simp, .inr ⟨w.heap.size, S, madeCells #[.string ⟨#[]⟩] S, rfl, Nat.le_refl _, heap_alloc_new w _, Nat.zero_le _, by simp only [maxLen]; omega, by rw [size_madeCells]; omega, by simp⟩⟩
theorem make_run (S : Nat) (hS : S ≤ 500000) (w : World) : (Instr.makeSlice 29 (.int .i64 0) (.int .i64 (S : Int))).run Try.prog w = .ok (.slice (some ⟨w.heap.size, 0, none⟩) 0 S) (w.alloc (.cells (madeCells #[.string ⟨#[]⟩] S) 9)) := by
  obtain ⟨i0, hi, hz0, hz1, hz2⟩ := info_parts str_info
  have h := run_make (P := Try.prog) w 29 9 i0 _ Try.underlying29 hi hz0 .i64 .i64 0 (S : Int) (by omega) (by omega) (by rw [hz2]; omega) (by omega)
  rw [hz1, Nat.mul_one] at h
  exact h
theorem lay_own (w w5 : World) (S : Nat) (hS : S ≤ 500000) (hb : Below (w.alloc (.cells (madeCells #[.string ⟨#[]⟩] S) 9)).drew.heap.size (w.alloc (.cells (madeCells #[.string ⟨#[]⟩] S) 9)).drew w5) : w5.ownsRow w.heap.size 9 1 (.slice (some ⟨w.heap.size, 0, none⟩) 0 S) 0 [] :=
  own_below (World.ownsRow.drew (make_own w S hS)) hb
theorem texts_zero (D n : Nat) (r : Option Nat) (l : List ByteArray) (w : World) (h : Dq D r l w) (hn : l.length = n) :
    Calls Try.prog 43 #[.pointer (some ⟨D, 0, none⟩), .int .i64 0, .int .i64 n] w fun e w' => ∃ A c, e = .returned (.slice A n c) ∧ n ≤ c ∧ (A = none → c = 0) ∧ RdV w' A (cellsS l) ∧ Below w.heap.size w w' := by
  refine (texts_any D 0 n r l w h (by omega) (by omega)).mono ?_
  rintro e w' ⟨v, rfl, ho, hb⟩
  rw [List.drop_zero, Nat.sub_zero, List.take_of_length_le (by omega), hn] at ho
  obtain ⟨A, c, rfl, h1, h2, _, h3⟩ := own_rdV ho
  exact ⟨A, c, rfl, h1, h2, h3, hb⟩
theorem lay_done {D g n S : Nat} {r : Option Nat} {l : List ByteArray} {w w6 : World} (h : Dq D r l w) (hn : l.length = n) (hnS : n ≤ S) (hS0 : 0 < S) (hSb : S ≤ 500000) (hb : Below w.heap.size w w6) (ho : w6.ownsRow w.heap.size 9 1 (.slice (some ⟨g, 0, none⟩) n S) n (cellsS l)) :
    ∃ ys, DqI D l (.slice (some ⟨g, 0, none⟩) S S) S 0 ys ((w6.setCell ⟨D, 1, none⟩ (.slice (some ⟨g, 0, none⟩) S S)).setCell ⟨D, 2, none⟩ (.int .i64 0)) ∧ Keeps D none w ((w6.setCell ⟨D, 1, none⟩ (.slice (some ⟨g, 0, none⟩) S S)).setCell ⟨D, 2, none⟩ (.int .i64 0)) ∧ w.heap.size ≤ g := by
  obtain ⟨v, N, f, ys0, -, hi⟩ := h
  have hDlt := hi.lt.1
  obtain ⟨ys, h1, h2⟩ := own_full ho
  have hgw := (ho.lt g rfl).1
  have hgD : g ≠ D := by omega
  have hbox := (hb.block D hDlt).trans hi.box
  refine ⟨ys, ⟨?_, ?_, by omega, .inl hS0, fun i hil => ?_, hSb⟩, ⟨hb.os, hb.tape, hb.output, by simp [World.setCell]; exact hb.size, fun k hk hkD _ => ?_⟩, hgw⟩
  · simp [World.setCell, Array.getElem?_modify, hbox, hn]
  · have h3 := ownsRow_setCell_other (own_down h1 (Nat.zero_le _)) (a := ⟨D, 1, none⟩) (by simp [Value.ownBlock]; exact hgD) (.slice (some ⟨g, 0, none⟩) S S)
    exact ownsRow_setCell_other h3 (a := ⟨D, 2, none⟩) (by simp [Value.ownBlock]; exact hgD) _
  · rw [Nat.zero_add, Nat.mod_eq_of_lt (by omega)]
    have h4 : (ys.take n)[i]? = (cellsS l)[i]? := by rw [h2]
    rw [List.getElem?_take_of_lt (by omega)] at h4
    rw [h4]
    simp [cellsS, hil]
  · exact (Below.heap_setCell _ ⟨D, 2, none⟩ _ k hkD).trans ((Below.heap_setCell _ ⟨D, 1, none⟩ _ k hkD).trans (hb.block k hk))
def LayQ (D S : Nat) (l : List ByteArray) (w : World) (e : Ending) (w' : World) : Prop := e = .returned (.tuple #[]) ∧ ∃ g ys, DqI D l (.slice (some ⟨g, 0, none⟩) S S) S 0 ys w' ∧ Keeps D none w w' ∧ w.heap.size ≤ g
set_option maxHeartbeats 2000000 in
theorem lay_any (D S : Nat) (r : Option Nat) (l : List ByteArray) (w : World) (h : Dq D r l w) (hlS : l.length ≤ S) (hS0 : 0 < S) (hSb : S ≤ 500000) :
    Calls Try.prog 53 #[.pointer (some ⟨D, 0, none⟩), .int .i64 S] w (LayQ D S l w) := by
  have HD := Lib.hid h
  obtain ⟨v, N, f, ys, -, hi⟩ := h
  have hDw := hi.lt.1
  have h1 := hi.c1
  have h2 := hi.c2
  have h3 := hi.c3
  have hf1 := hi.fr 1
  have hf2 := hi.fr 2
  obtain ⟨A0, c0, rfl⟩ := hi.form
  obtain ⟨n, hn⟩ : ∃ n, l.length = n := ⟨_, rfl⟩
  rw [hn] at h3 hlS
  have HN := Lib.hid hn
  have hmk := make_run S hSb
  have hMO := Lib.hid fun W => make_own W S hSb
  have hS1 : (0 : Int) ≤ (S : Int) := by omega
  have HDd := Lib.hid (HD.out.below (Below.refl _ w).drew)
  have hbA : Below w.heap.size w (w.alloc (.cells (madeCells #[.string ⟨#[]⟩] S) 9)).drew := (below_new w _).drew
  have HDa := Lib.hid (HD.out.below hbA)
  have HBA := Lib.hid hbA
  have hszA : (w.alloc (.cells (madeCells #[.string ⟨#[]⟩] S) 9)).drew.heap.size = w.heap.size + 1 := by simp [World.drew]
  have HSA := Lib.hid hszA
  clear hi hn hbA hszA
  go_enter Try.func53, Try.ntmps53
  go_wp2_with fail
  go_region_held3 (fun W => W.cell? ⟨D, 3, none⟩ = some (.int .i64 n))
    (first
      | exact h3
      | exact (HBA.out.cell (p := ⟨D, 3, none⟩) hDw).trans h3
      | exact (hbT.cell (p := ⟨D, 3, none⟩) hDw).trans h3
      | exact ((hbT.trans ((below_new w5 _).mono hbT.size)).cell (p := ⟨D, 3, none⟩) hDw).trans h3
      | exact (hbZ.cell (p := ⟨D, 3, none⟩) hDw).trans h3
      | exact (World.cell?_setCell_other _ ⟨D, 1, none⟩ ⟨D, 3, none⟩ _ (by simp)).trans ((hbZ.cell (p := ⟨D, 3, none⟩) hDw).trans h3)
      | fail)
    (first
      | (go_at_call 43; (with_reducible refine (texts_zero D n r l w.drew HDd.out HN.out).mono ?_); rintro e w5 ⟨A5, c5, rfl, k5, n5, hr5, hb5⟩; have hbT : Below w.heap.size w w5 := ((Below.refl _ w).drew).trans hb5)
      | (go_at_call 43; (with_reducible refine (texts_zero D n r l _ HDa.out HN.out).mono ?_); rintro e w5 ⟨A5, c5, rfl, k5, n5, hr5, hb5⟩; have hbT : Below w.heap.size w w5 := HBA.out.trans (hb5.mono HBA.out.size))
      | ((refine step_fits (by rfl) (.tmp 6) (.tmp 12) (by rfl) w.heap.size w.heap.size S (by rfl) (lay_own w w5 S hSb hb5) A5 n c5 l HN.out (by rfl) hr5 n5 k5 hlS ?_; intro w6 ho6 hg6; have hbZ : Below w.heap.size w w6 := hbT.grown hg6 hbT.size (fun k e => by cases e; exact Nat.le_refl _); have hc1 := (hbZ.cell (p := ⟨D, 1, none⟩) hDw).trans h1; have hfz := (hbZ.frozen (p := ⟨D, 1, none⟩) hDw).trans hf1))
      | ((refine step_fits (by rfl) (.tmp 6) (.tmp 12) (by rfl) w5.heap.size w5.heap.size S (by rfl) (make_own w5 S hSb) A5 n c5 l HN.out (by rfl) (hr5.below (below_new w5 _)) n5 k5 hlS ?_; intro w6 ho6 hg6; have hbZ : Below w.heap.size w w6 := (hbT.trans ((below_new w5 _).mono hbT.size)).grown hg6 (by simp; have := hbT.size; omega) (fun k e => by cases e; exact hbT.size); have hc1 := (hbZ.cell (p := ⟨D, 1, none⟩) hDw).trans h1; have hfz := (hbZ.frozen (p := ⟨D, 1, none⟩) hDw).trans hf1))
      | fail)
  all_goals
    have hc2 := (hbZ.cell (p := ⟨D, 2, none⟩) hDw).trans h2
    have hfz2 := (hbZ.frozen (p := ⟨D, 2, none⟩) hDw).trans hf2
    go_wp2
    go_end0
    first
      | exact ⟨rfl, _, lay_done HD.out HN.out hlS hS0 hSb hbZ ho6⟩
      | exact ⟨rfl, _, lay_done HD.out HN.out hlS hS0 hSb hbZ (own_down ho6 hbT.size)⟩
end Go.Proofs.Ytnnlfhdjakabmaa
