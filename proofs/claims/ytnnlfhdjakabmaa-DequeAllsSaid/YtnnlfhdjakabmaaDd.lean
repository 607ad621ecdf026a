/- Two deques that a law has made. -/
import Derived.Test.YtnnlfhdjakabmaaDs
namespace Go.Proofs.Ytnnlfhdjakabmaa
open Go Go.RowKit
open Go.Shelf
/-- Two deques behind w, with nothing in common. -/
def DD (w : World) (D C : Nat) (L M : List ByteArray) (W : World) : Prop := ∃ r s, Dq D r L W ∧ Far w.heap.size D r ∧ Dq C s M W ∧ Far w.heap.size C s ∧ C ≠ D ∧ s ≠ some D ∧ r ≠ some C ∧ (∀ k, r = some k → s ≠ some k) ∧ Below w.heap.size w W
theorem DD.one {w W : World} {D C : Nat} {L M : List ByteArray} (h : DD w D C L M W) : DS w D L W := by
  obtain ⟨r, s, h1, h2, -, -, -, -, -, -, hb⟩ := h
  exact ⟨⟨r, h1, h2⟩, hb⟩
theorem DD.two {w W : World} {D C : Nat} {L M : List ByteArray} (h : DD w D C L M W) : DS w C M W := by
  obtain ⟨r, s, -, -, h1, h2, -, -, -, -, hb⟩ := h
  exact ⟨⟨s, h1, h2⟩, hb⟩
theorem DD.below {w W V : World} {D C : Nat} {L M : List ByteArray} (h : DD w D C L M W) (hb : Below W.heap.size W V) : DD w D C L M V := by
  obtain ⟨r, s, h1, h2, h3, h4, a, b, c, d, h5⟩ := h
  exact ⟨r, s, h1.below hb, h2, h3.below hb, h4, a, b, c, d, h5.trans (hb.mono h5.size)⟩
theorem new_dd (w : World) (D : Nat) (L : List ByteArray) (A : Option Addr) (n c : Nat) (ls : List ByteArray) (W : World) (h : DS w D L W) (hn : ls.length = n) (ha : RdV W A (cellsS ls)) (hlong : longB ls = false) (hfit : n ≤ 65536) :
    Calls Try.prog 19 #[.slice A n c] W fun e W' => ∃ C, e = .returned (.tuple #[.pointer (some ⟨C, 0, none⟩), .int .i64 0]) ∧ DD w D C L ls W' := by
  obtain ⟨⟨r, hd, hf⟩, hb⟩ := h
  exact (new_yes A n c ls W hn ha hlong hfit).mono fun e W' ⟨C, he, s, hd2, hb2, hf2⟩ => ⟨C, he, r, s, hd.below hb2, hf, hd2, hf2.mono hb.size, (fun e => by have := hd.lt.1; have := hf2.1; omega), (fun e => by have := hd.lt.1; have := hf2.2 _ e; omega),
    (fun e => by have := (hd.lt.2 _ e).1; have := hf2.1; omega), (fun k e e2 => by have := (hd.lt.2 _ e).1; have := hf2.2 _ e2; omega), hb.trans (hb2.mono hb.size)⟩
theorem keep_dd (w : World) (D C : Nat) (L M : List ByteArray) (f u : Int) (W : World) (h : DD w D C L M W) (f1 : -9223372036854775808 ≤ f) (f2 : f ≤ 9223372036854775807) (u1 : -9223372036854775808 ≤ u) (u2 : u ≤ 9223372036854775807) :
    Calls Try.prog 32 #[.pointer (some ⟨D, 0, none⟩), .int .i64 f, .int .i64 u] W fun e W' => e = .returned (.tuple #[]) ∧ DD w D C (rangeL L f u) M W' := by
  obtain ⟨r, s, h1, h2, h3, h4, a, b, c, d, h5⟩ := h
  exact (keep_any D r L f u W h1 f1 f2 u1 u2).mono fun e W' ⟨he, r', hd, hk, hr⟩ => ⟨he, r', s, hd, ⟨h2.1, fun k e => Nat.le_trans h5.size (hr k e)⟩, h3.keeps hk a (by simp) b (fun k _ => by simp), h4, a, b,
    (fun e => by have := h3.lt.1; have := hr _ e; omega), (fun k e e2 => by have := (h3.lt.2 _ e2).1; have := hr _ e; omega), h5.trans (hk.below h2.none h5.size)⟩
theorem drop_dd (w : World) (D C : Nat) (L M : List ByteArray) (cnt : Int) (t : ByteArray) (W : World) (h : DD w D C L M W) (c1 : -9223372036854775808 ≤ cnt) (c2 : cnt ≤ 9223372036854775807) :
    Calls Try.prog 33 #[.pointer (some ⟨C, 0, none⟩), .int .i64 cnt, .string t] W fun e W' => e = .returned (.int .i64 (dropN cnt t M)) ∧ DD w D C L (dropL cnt t M) W' := by
  obtain ⟨r, s, h1, h2, h3, h4, a, b, c, d, h5⟩ := h
  have hq : Calls Try.prog 33 #[.pointer (some ⟨C, 0, none⟩), .int .i64 cnt, .string t] W (DropQ C (dropL cnt t M) (dropN cnt t M) W) := by
    by_cases hneg : cnt < 0
    · exact drop_neg C s M cnt t W h3 c1 c2 hneg
    · exact drop_pos C s M cnt t W h3 c1 c2 hneg
  exact hq.mono fun e W' ⟨he, s', hd, hk, hr⟩ => ⟨he, r, s', h1.keeps hk (Ne.symm a) (by simp) c (fun k _ => by simp), h2, hd, ⟨h4.1, fun k e => Nat.le_trans h5.size (hr k e)⟩, a,
    (fun e => by have := h1.lt.1; have := hr _ e; omega), c, (fun k e e2 => by have := (h1.lt.2 _ e).1; have := hr _ e2; omega), h5.trans (hk.below h4.none h5.size)⟩
end Go.Proofs.Ytnnlfhdjakabmaa
