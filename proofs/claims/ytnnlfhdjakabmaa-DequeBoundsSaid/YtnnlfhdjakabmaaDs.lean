/- A deque that a law has made: what its calls do. -/
import Derived.Test.YtnnlfhdjakabmaaFewIs
namespace Go.Proofs.Ytnnlfhdjakabmaa
open Go Go.RowKit
open Go.Shelf
/-- A deque that was made behind w, with these texts; all that was there before is as it was. -/
def DS (w : World) (D : Nat) (L : List ByteArray) (W : World) : Prop := (∃ r, Dq D r L W ∧ Far w.heap.size D r) ∧ Below w.heap.size w W
theorem DS.below {w W V : World} {D : Nat} {L : List ByteArray} (h : DS w D L W) (hb : Below W.heap.size W V) : DS w D L V := by
  obtain ⟨⟨r, hd, hf⟩, h2⟩ := h
  exact ⟨⟨r, hd.below hb, hf⟩, h2.trans (hb.mono h2.size)⟩
theorem new_ds (w : World) (A : Option Addr) (n c : Nat) (ls : List ByteArray) (W : World) (hb : Below w.heap.size w W) (hn : ls.length = n) (ha : RdV W A (cellsS ls)) (hlong : longB ls = false) (hfit : n ≤ 65536) :
    Calls Try.prog 19 #[.slice A n c] W fun e W' => ∃ D, e = .returned (.tuple #[.pointer (some ⟨D, 0, none⟩), .int .i64 0]) ∧ DS w D ls W' :=
  (new_yes A n c ls W hn ha hlong hfit).mono fun e W' ⟨D, he, r, hd, hb2, hf⟩ => ⟨D, he, ⟨r, hd, hf.mono hb.size⟩, hb.trans (hb2.mono hb.size)⟩
theorem ds_arg {w W : World} {D n : Nat} {r : Option Nat} {A : Option Addr} {ls : List ByteArray} (hf : Far w.heap.size D r) (hb : Below w.heap.size w W) (hn : ls.length = n) (ha : RdV w A (cellsS ls)) : ∀ ad, A = some ad → 0 < n → ad.block < W.heap.size ∧ ad.block ≠ D ∧ r ≠ some ad.block := by
  intro ad e h0
  obtain ⟨b, off, rfl, hlt, _⟩ := ha (by rw [cellsS_len]; omega)
  cases e
  have h1 := hf.1
  have h2 := hb.size
  exact ⟨by show b < _; omega, by show b ≠ _; omega, fun e2 => by have := hf.2 b e2; omega⟩
theorem front_ds (w : World) (D n c : Nat) (L : List ByteArray) (A : Option Addr) (ls : List ByteArray) (W : World) (h : DS w D L W) (hn : ls.length = n) (ha : RdV w A (cellsS ls)) (hlong : longB ls = false) (hfit : L.length + n ≤ 65536) :
    Calls Try.prog 20 #[.pointer (some ⟨D, 0, none⟩), .slice A n c] W fun e W' => e = .returned (.int .i64 0) ∧ DS w D (ls.reverse ++ L) W' := by
  obtain ⟨⟨r, hd, hf⟩, hb⟩ := h
  exact (front_yes D r L A n c ls W hd hn (ha.below hb) (ds_arg hf hb hn ha) hlong hfit).mono fun e W' ⟨he, r', hd', hk, hnx⟩ => ⟨he, ⟨r', hd', hf.next hnx hb.size⟩, hb.trans (hk.below hf hb.size)⟩
theorem back_ds (w : World) (D n c : Nat) (L : List ByteArray) (A : Option Addr) (ls : List ByteArray) (W : World) (h : DS w D L W) (hn : ls.length = n) (ha : RdV w A (cellsS ls)) (hlong : longB ls = false) (hfit : L.length + n ≤ 65536) :
    Calls Try.prog 24 #[.pointer (some ⟨D, 0, none⟩), .slice A n c] W fun e W' => e = .returned (.int .i64 0) ∧ DS w D (L ++ ls) W' := by
  obtain ⟨⟨r, hd, hf⟩, hb⟩ := h
  exact (back_yes D r L A n c ls W hd hn (ha.below hb) (ds_arg hf hb hn ha) hlong hfit).mono fun e W' ⟨he, r', hd', hk, hnx⟩ => ⟨he, ⟨r', hd', hf.next hnx hb.size⟩, hb.trans (hk.below hf hb.size)⟩
theorem popf_ds (w : World) (D : Nat) (L : List ByteArray) (t : ByteArray) (W : World) (h : DS w D (t :: L) W) :
    Calls Try.prog 26 #[.pointer (some ⟨D, 0, none⟩)] W fun e W' => e = .returned (.tuple #[.string t, .bool true]) ∧ DS w D L W' := by
  obtain ⟨⟨r, hd, hf⟩, hb⟩ := h
  exact (popf_yes D r L t W hd).mono fun e W' ⟨he, hd', hk⟩ => ⟨he, ⟨r, hd', hf⟩, hb.trans (hk.below hf hb.size)⟩
theorem popb_ds (w : World) (D : Nat) (L : List ByteArray) (t : ByteArray) (W : World) (h : DS w D (L ++ [t]) W) :
    Calls Try.prog 27 #[.pointer (some ⟨D, 0, none⟩)] W fun e W' => e = .returned (.tuple #[.string t, .bool true]) ∧ DS w D L W' := by
  obtain ⟨⟨r, hd, hf⟩, hb⟩ := h
  exact (popb_yes D r L t W hd).mono fun e W' ⟨he, hd', hk⟩ => ⟨he, ⟨r, hd', hf⟩, hb.trans (hk.below hf hb.size)⟩
theorem popf_ds0 (w : World) (D : Nat) (W : World) (h : DS w D [] W) :
    Calls Try.prog 26 #[.pointer (some ⟨D, 0, none⟩)] W fun e W' => e = .returned (.tuple #[.string ⟨#[]⟩, .bool false]) ∧ W' = W := by
  obtain ⟨⟨r, hd, hf⟩, hb⟩ := h
  exact popf_no D r W hd
theorem popb_ds0 (w : World) (D : Nat) (W : World) (h : DS w D [] W) :
    Calls Try.prog 27 #[.pointer (some ⟨D, 0, none⟩)] W fun e W' => e = .returned (.tuple #[.string ⟨#[]⟩, .bool false]) ∧ W' = W := by
  obtain ⟨⟨r, hd, hf⟩, hb⟩ := h
  exact popb_no D r W hd
theorem len_ds (w : World) (D n : Nat) (L : List ByteArray) (W : World) (h : DS w D L W) (hn : L.length = n) :
    Calls Try.prog 37 #[.pointer (some ⟨D, 0, none⟩)] W fun e W' => e = .returned (.int .i64 n) ∧ W' = W := by
  subst hn
  obtain ⟨⟨r, hd, hf⟩, hb⟩ := h
  exact len_any D r L W hd
theorem is_ds (w : World) (D : Nat) (L : List ByteArray) (A : Option Addr) (n c : Nat) (W : World) (h : DS w D L W) (hn : L.length = n) (ha : RdV W A (cellsS L)) :
    Calls Try.prog 22 #[.pointer (some ⟨D, 0, none⟩), .slice A n c] W fun e W' => e = .returned (.bool true) ∧ DS w D L W' ∧ Below W.heap.size W W' := by
  obtain ⟨⟨r, hd, hf⟩, hb⟩ := h
  exact (is_yes D r L A n c W hd hn ha).mono fun e W' ⟨he, hb2⟩ => ⟨he, ⟨⟨r, hd.below hb2, hf⟩, hb.trans (hb2.mono hb.size)⟩, hb2⟩
theorem place_span {n a i : Int} (hn : 0 ≤ n) (h : placeF n a = (i, true)) : spanF n a a = (i, i + 1) := by
  have h0 := placeF_lt h
  unfold placeF at h
  generalize hz : (if a < 0 then a + n else a) = z at h
  by_cases hc : n < 1 ∨ z < 0 ∨ n ≤ z
  · rw [if_pos hc] at h
    cases h
  · rw [if_neg hc] at h
    have h1 : z = i := congrArg Prod.fst h
    subst h1
    have hl : loF n a = z := by unfold loF; split at hz <;> (rename_i hh; first | (rw [if_pos hh]; omega) | (rw [if_neg hh]; omega))
    have hh : hiF n a = z := by unfold hiF; rw [hz]; omega
    exact span_is hl hh (.inr ⟨by omega, rfl, rfl⟩)
end Go.Proofs.Ytnnlfhdjakabmaa
