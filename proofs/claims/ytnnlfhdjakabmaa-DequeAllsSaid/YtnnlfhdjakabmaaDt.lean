/- What a deque tells and what is put to a place, seen from a base world. -/
import Derived.Test.YtnnlfhdjakabmaaDd
import Derived.Test.YtnnlfhdjakabmaaRDrop
namespace Go.Proofs.Ytnnlfhdjakabmaa
open Go Go.RowKit
open Go.Shelf
theorem at_ds_yes (w : World) (D i : Nat) (L : List ByteArray) (a : Int) (W : World) (h : DS w D L W) (f1 : -9223372036854775808 ≤ a) (f2 : a ≤ 9223372036854775807) (hp : placeF L.length a = ((i : Int), true)) (hi : i < L.length) :
    Calls Try.prog 28 #[.pointer (some ⟨D, 0, none⟩), .int .i64 a] W fun e W' => e = .returned (.tuple #[.string L[i], .bool true]) ∧ DS w D L W' := by
  obtain ⟨⟨r, hd, hf⟩, hb⟩ := h
  exact (at_yes D i r L a W hd f1 f2 hp hi).mono fun e W' ⟨he, q, hq⟩ => by
    subst hq
    have hb2 := below_any q (Below.refl W.heap.size W)
    exact ⟨he, ⟨r, hd.below hb2, hf⟩, hb.trans (hb2.mono hb.size)⟩
theorem at_ds_no (w : World) (D : Nat) (L : List ByteArray) (a : Int) (W : World) (h : DS w D L W) (f1 : -9223372036854775808 ≤ a) (f2 : a ≤ 9223372036854775807) (hp : placeF L.length a = (0, false)) :
    Calls Try.prog 28 #[.pointer (some ⟨D, 0, none⟩), .int .i64 a] W fun e W' => e = .returned (.tuple #[.string ⟨#[]⟩, .bool false]) ∧ DS w D L W' := by
  obtain ⟨⟨r, hd, hf⟩, hb⟩ := h
  exact (at_no D r L a W hd f1 f2 hp).mono fun e W' ⟨he, hq⟩ => by
    subst hq
    exact ⟨he, ⟨r, hd, hf⟩, hb⟩
theorem put_ds_yes (w : World) (D i : Nat) (L : List ByteArray) (a : Int) (t : ByteArray) (W : World) (h : DS w D L W) (ht : t.size ≤ 1048576) (f1 : -9223372036854775808 ≤ a) (f2 : a ≤ 9223372036854775807) (hp : placeF L.length a = ((i : Int), true)) :
    Calls Try.prog 31 #[.pointer (some ⟨D, 0, none⟩), .int .i64 a, .string t] W fun e W' => e = .returned (.int .i64 0) ∧ DS w D (L.set i t) W' := by
  obtain ⟨⟨r, hd, hf⟩, hb⟩ := h
  exact (put_yes D i r L a t W hd ht f1 f2 hp).mono fun e W' ⟨he, hd2, hk⟩ => ⟨he, ⟨r, hd2, hf⟩, hb.trans (hk.below hf hb.size)⟩
theorem put_ds_no (w : World) (D : Nat) (L : List ByteArray) (a : Int) (t : ByteArray) (W : World) (h : DS w D L W) (ht : t.size ≤ 1048576) (f1 : -9223372036854775808 ≤ a) (f2 : a ≤ 9223372036854775807) (hp : placeF L.length a = (0, false)) :
    Calls Try.prog 31 #[.pointer (some ⟨D, 0, none⟩), .int .i64 a, .string t] W fun e W' => e = .returned (.int .i64 4) ∧ DS w D L W' := by
  obtain ⟨⟨r, hd, hf⟩, hb⟩ := h
  exact (put_no D r L a t W hd ht f1 f2 hp).mono fun e W' ⟨he, hq⟩ => by
    subst hq
    exact ⟨he, ⟨r, hd, hf⟩, hb⟩
theorem range_ds (w : World) (D : Nat) (L : List ByteArray) (f u : Int) (W : World) (h : DS w D L W) (f1 : -9223372036854775808 ≤ f) (f2 : f ≤ 9223372036854775807) (u1 : -9223372036854775808 ≤ u) (u2 : u ≤ 9223372036854775807) :
    Calls Try.prog 29 #[.pointer (some ⟨D, 0, none⟩), .int .i64 f, .int .i64 u] W fun e W' => ∃ v, e = .returned v ∧ W'.ownsRow W.heap.size 9 1 v (rangeL L f u).length (cellsS (rangeL L f u)) ∧ Below W.heap.size W W' := by
  obtain ⟨⟨r, hd, hf⟩, hb⟩ := h
  exact range_any D r L f u W hd f1 f2 u1 u2
theorem cells_set (L : List ByteArray) (i : Nat) (t : ByteArray) : (cellsS L).set i (.string t) = cellsS (L.set i t) := by simp [cellsS, List.map_set]
end Go.Proofs.Ytnnlfhdjakabmaa
