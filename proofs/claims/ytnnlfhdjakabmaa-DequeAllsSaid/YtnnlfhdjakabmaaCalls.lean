/- Texts put to an end and taken from there; a deque begun. -/
import Derived.Test.YtnnlfhdjakabmaaPush
namespace Go.Proofs.Ytnnlfhdjakabmaa
open Go Go.RowKit
open Go.Shelf
def PopQ (D : Nat) (r : Option Nat) (l : List ByteArray) (t : ByteArray) (w : World) (e : Ending) (w' : World) : Prop := e = .returned (.tuple #[.string t, .bool true]) ∧ Dq D r l w' ∧ Keeps D r w w'

theorem push0_no (D : Nat) (r : Option Nat) (l : List ByteArray) (A : Option Addr) (n c : Nat) (ls : List ByteArray) (w : World) (h : Dq D r l w) (hn : ls.length = n) (bn : n ≤ 9223372036854775807) (hs : ∀ s ∈ ls, s.size ≤ 9223372036854775807) (ha : RdV w A (cellsS ls))
    (hbad : longB ls = true ∨ 65536 < l.length + n) :
    Calls Try.prog 39 #[.pointer (some ⟨D, 0, none⟩), .int .i64 0, .slice A n c] w fun e w' => e = .returned (.int .i64 3) ∧ w' = w := by
  have HNO := Lib.hid (none_any D r l w h)
  have HLG := Lib.hid (long_any A n c ls w hn bn hs ha)
  obtain ⟨v, N, f, ys, -, hi⟩ := h
  have h3 := hi.c3
  have hb : l.length ≤ 500000 := by have := hi.len; have := hi.cap; omega
  generalize l.length = m at *
  clear hn hs ha hi
  by_cases hl : longB ls = true
  · have HL := Lib.hid hl
    clear hl hbad
    go_enter Try.func39, Try.ntmps39
    go_wp2_with fail
    refine HNO.out.mono ?_
    rintro e w' ⟨rfl, rfl⟩
    go_wp2_with fail
    refine HLG.out.mono ?_
    rintro e w' ⟨rfl, rfl⟩
    rw [HL.out]
    go_wp2
    go_ret
    exact ⟨rfl, rfl⟩
  · have HL : Hid (longB ls = false) := Lib.hid (by simpa using hl)
    have hm : 65536 < m + n := by rcases hbad with h | h; exact absurd h hl; exact h
    clear hl hbad
    go_enter Try.func39, Try.ntmps39
    go_wp2_with fail
    refine HNO.out.mono ?_
    rintro e w' ⟨rfl, rfl⟩
    go_wp2_with fail
    refine HLG.out.mono ?_
    rintro e w' ⟨rfl, rfl⟩
    rw [HL.out]
    go_wp2
    go_ret
    exact ⟨rfl, rfl⟩
theorem push0_nil (v : Value) (w : World) : Calls Try.prog 39 #[.pointer none, .int .i64 0, v] w fun e w' => e = .returned (.int .i64 1) ∧ w' = w := by
  go_enter Try.func39, Try.ntmps39
  go_wp2_with fail
  refine (none_nil w).mono ?_
  rintro e w' ⟨rfl, rfl⟩
  go_wp2
  go_ret
  exact ⟨rfl, rfl⟩

theorem push1_no (D : Nat) (r : Option Nat) (l : List ByteArray) (A : Option Addr) (n c : Nat) (ls : List ByteArray) (w : World) (h : Dq D r l w) (hn : ls.length = n) (bn : n ≤ 9223372036854775807) (hs : ∀ s ∈ ls, s.size ≤ 9223372036854775807) (ha : RdV w A (cellsS ls))
    (hbad : longB ls = true ∨ 65536 < l.length + n) :
    Calls Try.prog 39 #[.pointer (some ⟨D, 0, none⟩), .int .i64 1, .slice A n c] w fun e w' => e = .returned (.int .i64 3) ∧ w' = w := by
  have HNO := Lib.hid (none_any D r l w h)
  have HLG := Lib.hid (long_any A n c ls w hn bn hs ha)
  obtain ⟨v, N, f, ys, -, hi⟩ := h
  have h3 := hi.c3
  have hb : l.length ≤ 500000 := by have := hi.len; have := hi.cap; omega
  generalize l.length = m at *
  clear hn hs ha hi
  by_cases hl : longB ls = true
  · have HL := Lib.hid hl
    clear hl hbad
    go_enter Try.func39, Try.ntmps39
    go_wp2_with fail
    refine HNO.out.mono ?_
    rintro e w' ⟨rfl, rfl⟩
    go_wp2_with fail
    refine HLG.out.mono ?_
    rintro e w' ⟨rfl, rfl⟩
    rw [HL.out]
    go_wp2
    go_ret
    exact ⟨rfl, rfl⟩
  · have HL : Hid (longB ls = false) := Lib.hid (by simpa using hl)
    have hm : 65536 < m + n := by rcases hbad with h | h; exact absurd h hl; exact h
    clear hl hbad
    go_enter Try.func39, Try.ntmps39
    go_wp2_with fail
    refine HNO.out.mono ?_
    rintro e w' ⟨rfl, rfl⟩
    go_wp2_with fail
    refine HLG.out.mono ?_
    rintro e w' ⟨rfl, rfl⟩
    rw [HL.out]
    go_wp2
    go_ret
    exact ⟨rfl, rfl⟩
theorem push1_nil (v : Value) (w : World) : Calls Try.prog 39 #[.pointer none, .int .i64 1, v] w fun e w' => e = .returned (.int .i64 1) ∧ w' = w := by
  go_enter Try.func39, Try.ntmps39
  go_wp2_with fail
  refine (none_nil w).mono ?_
  rintro e w' ⟨rfl, rfl⟩
  go_wp2
  go_ret
  exact ⟨rfl, rfl⟩

theorem front_yes (D : Nat) (r : Option Nat) (l : List ByteArray) (A : Option Addr) (n c : Nat) (ls : List ByteArray) (w : World) (h : Dq D r l w) (hn : ls.length = n) (ha : RdV w A (cellsS ls)) (hA : ∀ ad, A = some ad → 0 < n → ad.block < w.heap.size ∧ ad.block ≠ D ∧ r ≠ some ad.block)
    (hlong : longB ls = false) (hfit : l.length + n ≤ 65536) : Calls Try.prog 20 #[.pointer (some ⟨D, 0, none⟩), .slice A n c] w (PushQ D r (ls.reverse ++ l) w) := by
  have H := Lib.hid (push0_yes D r l A n c ls w h hn ha hA hlong hfit)
  clear h hn ha hA hlong hfit
  go_enter Try.func20, Try.ntmps20
  go_wp2_with fail
  refine H.out.mono ?_
  rintro e w' ⟨rfl, hq⟩
  have HQ := Lib.hid hq
  clear hq
  go_wp2
  go_ret
  exact ⟨rfl, HQ.out⟩
theorem front_no (D : Nat) (r : Option Nat) (l : List ByteArray) (A : Option Addr) (n c : Nat) (ls : List ByteArray) (w : World) (h : Dq D r l w) (hn : ls.length = n) (bn : n ≤ 9223372036854775807) (hs : ∀ s ∈ ls, s.size ≤ 9223372036854775807) (ha : RdV w A (cellsS ls))
    (hbad : longB ls = true ∨ 65536 < l.length + n) : Calls Try.prog 20 #[.pointer (some ⟨D, 0, none⟩), .slice A n c] w fun e w' => e = .returned (.int .i64 3) ∧ w' = w := by
  have H := Lib.hid (push0_no D r l A n c ls w h hn bn hs ha hbad)
  clear h hn ha hs hbad
  go_enter Try.func20, Try.ntmps20
  go_wp2_with fail
  refine H.out.mono ?_
  rintro e w' ⟨rfl, rfl⟩
  go_wp2
  go_ret
  exact ⟨rfl, rfl⟩
theorem front_nil (v : Value) (w : World) : Calls Try.prog 20 #[.pointer none, v] w fun e w' => e = .returned (.int .i64 1) ∧ w' = w := by
  go_enter Try.func20, Try.ntmps20
  go_wp2_with fail
  refine (push0_nil v w).mono ?_
  rintro e w' ⟨rfl, rfl⟩
  go_wp2
  go_ret
  exact ⟨rfl, rfl⟩

theorem back_yes (D : Nat) (r : Option Nat) (l : List ByteArray) (A : Option Addr) (n c : Nat) (ls : List ByteArray) (w : World) (h : Dq D r l w) (hn : ls.length = n) (ha : RdV w A (cellsS ls)) (hA : ∀ ad, A = some ad → 0 < n → ad.block < w.heap.size ∧ ad.block ≠ D ∧ r ≠ some ad.block)
    (hlong : longB ls = false) (hfit : l.length + n ≤ 65536) : Calls Try.prog 24 #[.pointer (some ⟨D, 0, none⟩), .slice A n c] w (PushQ D r (l ++ ls) w) := by
  have H := Lib.hid (push1_yes D r l A n c ls w h hn ha hA hlong hfit)
  clear h hn ha hA hlong hfit
  go_enter Try.func24, Try.ntmps24
  go_wp2_with fail
  refine H.out.mono ?_
  rintro e w' ⟨rfl, hq⟩
  have HQ := Lib.hid hq
  clear hq
  go_wp2
  go_ret
  exact ⟨rfl, HQ.out⟩
theorem back_no (D : Nat) (r : Option Nat) (l : List ByteArray) (A : Option Addr) (n c : Nat) (ls : List ByteArray) (w : World) (h : Dq D r l w) (hn : ls.length = n) (bn : n ≤ 9223372036854775807) (hs : ∀ s ∈ ls, s.size ≤ 9223372036854775807) (ha : RdV w A (cellsS ls))
    (hbad : longB ls = true ∨ 65536 < l.length + n) : Calls Try.prog 24 #[.pointer (some ⟨D, 0, none⟩), .slice A n c] w fun e w' => e = .returned (.int .i64 3) ∧ w' = w := by
  have H := Lib.hid (push1_no D r l A n c ls w h hn bn hs ha hbad)
  clear h hn ha hs hbad
  go_enter Try.func24, Try.ntmps24
  go_wp2_with fail
  refine H.out.mono ?_
  rintro e w' ⟨rfl, rfl⟩
  go_wp2
  go_ret
  exact ⟨rfl, rfl⟩
theorem back_nil (v : Value) (w : World) : Calls Try.prog 24 #[.pointer none, v] w fun e w' => e = .returned (.int .i64 1) ∧ w' = w := by
  go_enter Try.func24, Try.ntmps24
  go_wp2_with fail
  refine (push1_nil v w).mono ?_
  rintro e w' ⟨rfl, rfl⟩
  go_wp2
  go_ret
  exact ⟨rfl, rfl⟩

set_option maxHeartbeats 1000000 in
theorem pop0_yes (D : Nat) (r : Option Nat) (l : List ByteArray) (t : ByteArray) (w : World) (h : Dq D r (t :: l) w) :
    Calls Try.prog 40 #[.pointer (some ⟨D, 0, none⟩), .int .i64 0] w (PopQ D r l t w) := by
  have HNO := Lib.hid (none_any D r (t :: l) w h)
  have hlt := h.lt
  obtain ⟨v, N, f, ys, hr, hi⟩ := h
  have h3 := hi.c3
  have hlen := hi.len
  have hll : (t :: l).length = l.length + 1 := by simp
  rw [hll] at h3 hlen
  have hb : l.length + 1 ≤ 500000 := by have := hi.cap; omega
  have hfst := hi.fst
  obtain ⟨g, c, rfl, -⟩ := row_form hi.row (by omega)
  have hrg : r = some g := hr
  subst hrg
  have HI := Lib.hid hi
  have en : ∀ args w, (callFunc 54 args).run Try.prog w = .ok (.enter 54 args) w := enters_of Try.func54 (by kernel_rfl) rfl
  obtain ⟨m, hm⟩ : ∃ m, m = l.length := ⟨_, rfl⟩
  rw [← hm] at h3 hb
  clear hr hi hll hm
  go_enter Try.func40, Try.ntmps40
  go_wp2_with fail
  refine HNO.out.mono ?_
  rintro e w' ⟨rfl, rfl⟩
  go_wp2_with fail
  have hb1 := below_new w' (.cells #[.func (.func 54) #[] #[], .func (.func 55) #[] #[]] 82)
  have HI1 := Lib.hid (HI.out.frame (hb1.block D hlt.1) (fun k e => by cases e; exact hb1.block g (hlt.2 g rfl).1))
  have HB1 := Lib.hid hb1
  clear hb1
  refine (dropFirst_any D g c N f ys l t _ HI1.out (by omega)).mono ?_
  rintro e w2 ⟨rfl, hd, hk⟩
  have HQ : Hid (Dq D (some g) l w2 ∧ Keeps D (some g) w' w2) := Lib.hid ⟨hd, (Keeps.of_below HB1.out).trans hk (Next.refl _ _)⟩
  clear hd hk
  go_wp2
  go_ret2
  exact ⟨rfl, HQ.out⟩
theorem popf_yes (D : Nat) (r : Option Nat) (l : List ByteArray) (t : ByteArray) (w : World) (h : Dq D r (t :: l) w) :
    Calls Try.prog 26 #[.pointer (some ⟨D, 0, none⟩)] w (PopQ D r l t w) := by
  have H := Lib.hid (pop0_yes D r l t w h)
  clear h
  go_enter Try.func26, Try.ntmps26
  go_wp2_with fail
  refine H.out.mono ?_
  rintro e w' ⟨rfl, hq⟩
  have HQ := Lib.hid hq
  clear hq
  go_wp2
  go_ret2
  exact ⟨rfl, HQ.out⟩
theorem popf_no (D : Nat) (r : Option Nat) (w : World) (h : Dq D r [] w) :
    Calls Try.prog 26 #[.pointer (some ⟨D, 0, none⟩)] w fun e w' => e = .returned (.tuple #[.string ⟨#[]⟩, .bool false]) ∧ w' = w := by
  have HNO := Lib.hid (none_any D r [] w h)
  obtain ⟨v, N, f, ys, hr, hi⟩ := h
  have h3 : w.cell? ⟨D, 3, none⟩ = some (.int .i64 0) := hi.c3
  clear hr hi
  have H : Hid (Calls Try.prog 40 #[.pointer (some ⟨D, 0, none⟩), .int .i64 0] w fun e w' => e = .returned (.tuple #[.string ⟨#[]⟩, .bool false]) ∧ w' = w) := by
    refine Lib.hid ?_
    go_enter Try.func40, Try.ntmps40
    go_wp2_with fail
    refine HNO.out.mono ?_
    rintro e w' ⟨rfl, rfl⟩
    go_wp2
    go_ret2
    exact ⟨rfl, rfl⟩
  clear h3
  go_enter Try.func26, Try.ntmps26
  go_wp2_with fail
  refine H.out.mono ?_
  rintro e w' ⟨rfl, rfl⟩
  go_wp2
  go_ret2
  exact ⟨rfl, rfl⟩
theorem popf_nil (w : World) : Calls Try.prog 26 #[.pointer none] w fun e w' => e = .returned (.tuple #[.string ⟨#[]⟩, .bool false]) ∧ w' = w := by
  have H : Hid (Calls Try.prog 40 #[.pointer none, .int .i64 0] w fun e w' => e = .returned (.tuple #[.string ⟨#[]⟩, .bool false]) ∧ w' = w) := by
    refine Lib.hid ?_
    go_enter Try.func40, Try.ntmps40
    go_wp2_with fail
    refine (none_nil w).mono ?_
    rintro e w' ⟨rfl, rfl⟩
    go_wp2
    go_ret2
    exact ⟨rfl, rfl⟩
  go_enter Try.func26, Try.ntmps26
  go_wp2_with fail
  refine H.out.mono ?_
  rintro e w' ⟨rfl, rfl⟩
  go_wp2
  go_ret2
  exact ⟨rfl, rfl⟩

set_option maxHeartbeats 1000000 in
theorem pop1_yes (D : Nat) (r : Option Nat) (l : List ByteArray) (t : ByteArray) (w : World) (h : Dq D r (l ++ [t]) w) :
    Calls Try.prog 40 #[.pointer (some ⟨D, 0, none⟩), .int .i64 1] w (PopQ D r l t w) := by
  have HNO := Lib.hid (none_any D r (l ++ [t]) w h)
  have hlt := h.lt
  obtain ⟨v, N, f, ys, hr, hi⟩ := h
  have h3 := hi.c3
  have hlen := hi.len
  have hll : (l ++ [t]).length = l.length + 1 := by simp
  rw [hll] at h3 hlen
  have hb : l.length + 1 ≤ 500000 := by have := hi.cap; omega
  have hfst := hi.fst
  obtain ⟨g, c, rfl, -⟩ := row_form hi.row (by omega)
  have hrg : r = some g := hr
  subst hrg
  have HI := Lib.hid hi
  have en : ∀ args w, (callFunc 55 args).run Try.prog w = .ok (.enter 55 args) w := enters_of Try.func55 (by kernel_rfl) rfl
  obtain ⟨m, hm⟩ : ∃ m, m = l.length := ⟨_, rfl⟩
  rw [← hm] at h3 hb
  clear hr hi hll hm
  go_enter Try.func40, Try.ntmps40
  go_wp2_with fail
  refine HNO.out.mono ?_
  rintro e w' ⟨rfl, rfl⟩
  go_wp2_with fail
  have hb1 := below_new w' (.cells #[.func (.func 54) #[] #[], .func (.func 55) #[] #[]] 82)
  have HI1 := Lib.hid (HI.out.frame (hb1.block D hlt.1) (fun k e => by cases e; exact hb1.block g (hlt.2 g rfl).1))
  have HB1 := Lib.hid hb1
  clear hb1
  refine (dropLast_any D g c N f ys l t _ HI1.out (by omega)).mono ?_
  rintro e w2 ⟨rfl, hd, hk⟩
  have HQ : Hid (Dq D (some g) l w2 ∧ Keeps D (some g) w' w2) := Lib.hid ⟨hd, (Keeps.of_below HB1.out).trans hk (Next.refl _ _)⟩
  clear hd hk
  go_wp2
  go_ret2
  exact ⟨rfl, HQ.out⟩
theorem popb_yes (D : Nat) (r : Option Nat) (l : List ByteArray) (t : ByteArray) (w : World) (h : Dq D r (l ++ [t]) w) :
    Calls Try.prog 27 #[.pointer (some ⟨D, 0, none⟩)] w (PopQ D r l t w) := by
  have H := Lib.hid (pop1_yes D r l t w h)
  clear h
  go_enter Try.func27, Try.ntmps27
  go_wp2_with fail
  refine H.out.mono ?_
  rintro e w' ⟨rfl, hq⟩
  have HQ := Lib.hid hq
  clear hq
  go_wp2
  go_ret2
  exact ⟨rfl, HQ.out⟩
theorem popb_no (D : Nat) (r : Option Nat) (w : World) (h : Dq D r [] w) :
    Calls Try.prog 27 #[.pointer (some ⟨D, 0, none⟩)] w fun e w' => e = .returned (.tuple #[.string ⟨#[]⟩, .bool false]) ∧ w' = w := by
  have HNO := Lib.hid (none_any D r [] w h)
  obtain ⟨v, N, f, ys, hr, hi⟩ := h
  have h3 : w.cell? ⟨D, 3, none⟩ = some (.int .i64 0) := hi.c3
  clear hr hi
  have H : Hid (Calls Try.prog 40 #[.pointer (some ⟨D, 0, none⟩), .int .i64 1] w fun e w' => e = .returned (.tuple #[.string ⟨#[]⟩, .bool false]) ∧ w' = w) := by
    refine Lib.hid ?_
    go_enter Try.func40, Try.ntmps40
    go_wp2_with fail
    refine HNO.out.mono ?_
    rintro e w' ⟨rfl, rfl⟩
    go_wp2
    go_ret2
    exact ⟨rfl, rfl⟩
  clear h3
  go_enter Try.func27, Try.ntmps27
  go_wp2_with fail
  refine H.out.mono ?_
  rintro e w' ⟨rfl, rfl⟩
  go_wp2
  go_ret2
  exact ⟨rfl, rfl⟩
theorem popb_nil (w : World) : Calls Try.prog 27 #[.pointer none] w fun e w' => e = .returned (.tuple #[.string ⟨#[]⟩, .bool false]) ∧ w' = w := by
  have H : Hid (Calls Try.prog 40 #[.pointer none, .int .i64 1] w fun e w' => e = .returned (.tuple #[.string ⟨#[]⟩, .bool false]) ∧ w' = w) := by
    refine Lib.hid ?_
    go_enter Try.func40, Try.ntmps40
    go_wp2_with fail
    refine (none_nil w).mono ?_
    rintro e w' ⟨rfl, rfl⟩
    go_wp2
    go_ret2
    exact ⟨rfl, rfl⟩
  go_enter Try.func27, Try.ntmps27
  go_wp2_with fail
  refine H.out.mono ?_
  rintro e w' ⟨rfl, rfl⟩
  go_wp2
  go_ret2
  exact ⟨rfl, rfl⟩

def NewQ (ls : List ByteArray) (w : World) (e : Ending) (w' : World) : Prop := ∃ D, e = .returned (.tuple #[.pointer (some ⟨D, 0, none⟩), .int .i64 0]) ∧ ∃ r, Dq D r ls w' ∧ Below w.heap.size w w' ∧ Far w.heap.size D r
theorem new_dq (w : World) : Dq w.heap.size none [] (w.alloc (.cells #[.bool true, .slice none 0 0, .int .i64 0, .int .i64 0] 68)) :=
  ⟨.slice none 0 0, 0, 0, [], rfl, ⟨heap_alloc_new w _, World.ownsRow_nil _ _ _ _, Nat.le_refl _, .inr ⟨rfl, rfl⟩, fun i h => by simp at h, by omega⟩⟩
theorem new_yes (A : Option Addr) (n c : Nat) (ls : List ByteArray) (w : World) (hn : ls.length = n) (ha : RdV w A (cellsS ls)) (hlong : longB ls = false) (hfit : n ≤ 65536) :
    Calls Try.prog 19 #[.slice A n c] w (NewQ ls w) := by
  have hb1 := below_new w (.cells #[.bool true, .slice none 0 0, .int .i64 0, .int .i64 0] 68)
  have H := Lib.hid (back_yes w.heap.size none [] A n c ls _ (new_dq w) hn (ha.below hb1) (fun ad e h0 => by
    obtain ⟨b, off, rfl, hlt, _⟩ := ha (by rw [cellsS_len]; omega)
    cases e
    exact ⟨by simp; omega, by show b ≠ _; omega, by simp⟩) hlong (by simpa using hfit))
  have HB1 := Lib.hid hb1
  clear hn ha hlong hfit hb1
  go_enter Try.func19, Try.ntmps19
  go_wp2_with fail
  refine H.out.mono ?_
  rintro e w' ⟨rfl, r', hd, hk, hnx⟩
  have HQ : Hid (Dq w.heap.size r' ls w' ∧ Below w.heap.size w w' ∧ Far w.heap.size w.heap.size r') := Lib.hid (by
    refine ⟨by simpa using hd, HB1.out.trans (hk.below ⟨Nat.le_refl _, fun k e => by cases e⟩ HB1.out.size), Nat.le_refl _, fun k e => ?_⟩
    rcases hnx with rfl | hnx
    · cases e
    · exact Nat.le_trans HB1.out.size (hnx k e))
  clear hd hk hnx
  go_wp2
  go_ret2
  exact ⟨_, rfl, r', HQ.out⟩
theorem new_no (A : Option Addr) (n c : Nat) (ls : List ByteArray) (w : World) (hn : ls.length = n) (bn : n ≤ 9223372036854775807) (hs : ∀ s ∈ ls, s.size ≤ 9223372036854775807) (ha : RdV w A (cellsS ls)) (hbad : longB ls = true ∨ 65536 < n) :
    Calls Try.prog 19 #[.slice A n c] w fun e w' => e = .returned (.tuple #[.pointer none, .int .i64 3]) ∧ Below w.heap.size w w' := by
  have hb1 := below_new w (.cells #[.bool true, .slice none 0 0, .int .i64 0, .int .i64 0] 68)
  have H := Lib.hid (back_no w.heap.size none [] A n c ls _ (new_dq w) hn bn hs (ha.below hb1) (by simpa using hbad))
  have HB1 := Lib.hid hb1
  clear hn ha hs hbad hb1
  go_enter Try.func19, Try.ntmps19
  go_wp2_with fail
  refine H.out.mono ?_
  rintro e w' ⟨rfl, rfl⟩
  go_wp2
  go_ret2
  exact ⟨rfl, HB1.out⟩
end Go.Proofs.Ytnnlfhdjakabmaa
