/- The blocks of padded bytes, one behind the other: the iterator's contract. -/
import Derived.Test.YtpomaabkgbaikaaDoorD1Range
import Derived.Test.YtpomaabkgbaikaaDoorD1Block
namespace Go.Proofs.YtpomaabkgbaikaaDoor.Dg
open Go Go.RowKit Go.Shelf
attribute [local go_sem] Oper.semAt_some

set_option maxRecDepth 100000 in
theorem blocks_any (A : Option Addr) (n c : Nat) (w : World) :
    Calls Tryd.prog 57 #[.slice A n c] w fun e w' => e = .returned (.func (.func 66) #[] #[.pointer (some ⟨w.heap.size, 0, none⟩)]) ∧ w' = w.alloc (.cells #[.slice A n c] 52) := by
  go_enter Tryd.func57, Tryd.ntmps57
  go_wp2
  go_ret
  exact ⟨rfl, rfl⟩
def Box (W : World) (C g o n : Nat) : Prop := W.heap[C]? = some (.cells #[.slice (some ⟨g, o, none⟩) n n] 52 (0, 0))
def leftB (C : Nat) (W : World) : Nat := match W.cell? ⟨C, 0, none⟩ with
  | some (.slice _ n _) => n
  | _ => 0
set_option maxRecDepth 100000 in
theorem Box.cell {W : World} {C g o n : Nat} (h : Box W C g o n) : W.cell? ⟨C, 0, none⟩ = some (.slice (some ⟨g, o, none⟩) n n) := by rw [cell_of_row W C 0 _ 52 (0, 0) h]; rfl
set_option maxRecDepth 100000 in
theorem Box.left {W : World} {C g o n : Nat} (h : Box W C g o n) : leftB C W = n := by rw [leftB, h.cell]
set_option maxRecDepth 100000 in
theorem Box.frozen {W : World} {C g o n : Nat} (h : Box W C g o n) : W.frozen? ⟨C, 0, none⟩ = false := frozen_of_row W C 0 _ 52 h
set_option maxRecDepth 100000 in
theorem grownBy_set (W : World) (C i : Nat) (v : Value) : W.grownBy (W.setCell ⟨C, i, none⟩ v) (some C) :=
  ⟨rfl, rfl, rfl, by simp [World.setCell], fun k _ hk => heap_setCell_other W _ k v (fun e => hk (by rw [e]))⟩
def pieceV (g m i : Nat) : Value := .slice (some ⟨g, 64 * i, none⟩) 64 (64 * m - 64 * i)

set_option maxHeartbeats 1000000 in
set_option maxRecDepth 100000 in
theorem blocks_seq (n C g m : Nat) (w : World) (hn : 1 ≤ n) (hm : m ≤ 20000) (hbox : Box w C g 0 (64 * m)) (Kp : World → World → Prop) (hKp : ∀ W W', Kp W W' → W'.heap[C]? = W.heap[C]?) :
    SeqC n Tryd.prog 66 #[.pointer (some ⟨C, 0, none⟩)] (fun i : Nat => #[pieceV g m i]) Kp (· < m) (fun xs => xs = List.range m) m C w := by
  intro l J W hb hJ hY h0
  have hC : C < w.heap.size := (Array.getElem?_eq_some_iff.1 hbox).1
  have hbox' : Box W C g 0 (64 * m) := (hb.block C hC).trans hbox
  refine callsIn_of_wp Tryd.func66 rfl trivial ?_
  simp only [Tryd.ntmps66, List.size_toArray, List.length_cons, List.length_nil, Nat.reduceAdd, Nat.reduceSub, Array.replicate_succ, Array.replicate_zero, List.push_toArray, List.append_toArray, List.nil_append, List.cons_append]
  gi_wp2
  gi_loopw [3] (fun _ wr => ∃ i o : Nat, i ≤ m ∧ Box wr C g o (64 * (m - i)) ∧ (i < m → o = 64 * i) ∧ J (List.range i) wr) (fun _ wr => leftB C wr)
  case atStart => exact ⟨0, 0, by omega, hbox', fun _ => rfl, h0⟩
  case round =>
    obtain ⟨i, o, hi, hx, ho, hJs⟩ := hrel
    by_cases hlt : i < m
    · obtain rfl := ho hlt
      obtain ⟨fn, tmps, assign, body, hy, hR⟩ := hY (List.range i) i wr hlt hJs (by simpa using hlt)
      have c0 := hx.cell
      have e0 : 64 * (m - i) = 64 * m - 64 * i := by omega
      have hge : (64 : Int) ≤ ((64 * (m - i) : Nat) : Int) := by omega
      have hge2 : 64 ≤ 64 * (m - i) := by omega
      have H0 := Lib.hid e0
      dsimp only [pieceV] at hy
      have HX := Lib.hid hx
      have HJ := Lib.hid hJs
      clear hx hJs
      gi_wp2
      refine hR.mono ?_
      rintro e W3 ⟨rfl, hJ3, hk3⟩
      have hx3 : Box W3 C g (64 * i) (64 * (m - i)) := (hKp _ _ hk3).trans HX.out
      have c3 := hx3.cell
      have f3 := hx3.frozen
      clear c0
      have hst : ∀ o', Box (W3.setCell ⟨C, 0, none⟩ (.slice (some ⟨g, o', none⟩) (64 * m - 64 * i - 64) (64 * m - 64 * i - 64))) C g o' (64 * m - 64 * i - 64) := fun o' => heap_setCell_same W3 C 0 _ 52 _ hx3
      have hJ4 : ∀ v, J (List.range (i + 1)) (W3.setCell ⟨C, 0, none⟩ v) := fun v => by
        rw [List.range_succ]
        exact hJ _ _ _ (some C) hJ3 (grownBy_set W3 C 0 v) (fun r e => by cases e; exact .inl rfl)
      have HB := Lib.hid hst
      have HJ4 := Lib.hid hJ4
      have HX3 := Lib.hid hx3
      clear hst hJ4 hx3
      by_cases hlast : i + 1 = m
      · have hcap : (64 * m - 64 * i : Nat) = 64 := by omega
        have HC := Lib.hid hcap
        clear hcap
        gi_wp2
        have e1 : 64 * (m - (i + 1)) = 64 * m - 64 * i - 64 := by omega
        refine ⟨⟨i + 1, 64 * i, by omega, by rw [e1]; exact HB.out _, by omega, HJ4.out _⟩, ?_⟩
        rw [(HB.out _).left, HX.out.left]
        omega
      · gi_wp2
        have e1 : 64 * (m - (i + 1)) = 64 * m - 64 * i - 64 := by omega
        refine ⟨⟨i + 1, 64 * i + 64, by omega, by rw [e1]; exact HB.out _, by omega, HJ4.out _⟩, ?_⟩
        rw [(HB.out _).left, HX.out.left]
        omega
    · obtain rfl : i = m := by omega
      have c0 := hx.cell
      rw [Nat.sub_self, Nat.mul_zero] at c0
      have HJ := Lib.hid hJs
      clear hx hJs hY hJ
      gi_wp2
      go_end0
      exact ⟨⟨_, rfl⟩, _, rfl, HJ.out⟩
end Go.Proofs.YtpomaabkgbaikaaDoor.Dg
