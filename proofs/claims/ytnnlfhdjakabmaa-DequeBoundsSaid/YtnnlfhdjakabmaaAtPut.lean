/- A text at a place, told and put. -/
import Derived.Test.YtnnlfhdjakabmaaPlaces
namespace Go.Proofs.Ytnnlfhdjakabmaa
open Go Go.RowKit
open Go.Shelf
theorem placeF_lt {n a i : Int} (h : placeF n a = (i, true)) : 0 ≤ i ∧ i < n := by
  unfold placeF at h
  generalize (if a < 0 then a + n else a) = z at h
  by_cases hc : n < 1 ∨ z < 0 ∨ n ≤ z
  · rw [if_pos hc] at h
    cases h
  · rw [if_neg hc] at h
    have h1 : z = i := congrArg Prod.fst h
    omega
theorem at_no (D : Nat) (r : Option Nat) (l : List ByteArray) (a : Int) (w : World) (h : Dq D r l w) (f1 : -9223372036854775808 ≤ a) (f2 : a ≤ 9223372036854775807) (hp : placeF l.length a = (0, false)) :
    Calls Try.prog 28 #[.pointer (some ⟨D, 0, none⟩), .int .i64 a] w fun e w' => e = .returned (.tuple #[.string ⟨#[]⟩, .bool false]) ∧ w' = w := by
  have hlen := dq_len h
  have HLE := Lib.hid (len_any D r l w h)
  have hpl := place_any l.length a w (by omega) (by omega) f1 f2
  rw [hp] at hpl
  have HPL := Lib.hid hpl
  clear hpl hp h
  go_enter Try.func28, Try.ntmps28
  go_wp2_with fail
  refine HLE.out.mono ?_
  rintro e w' ⟨rfl, rfl⟩
  go_wp2_with fail
  refine HPL.out.mono ?_
  rintro e w' ⟨rfl, rfl⟩
  go_wp2
  go_ret2
  exact ⟨rfl, rfl⟩
theorem at_nil (a : Int) (w : World) (f1 : -9223372036854775808 ≤ a) (f2 : a ≤ 9223372036854775807) :
    Calls Try.prog 28 #[.pointer none, .int .i64 a] w fun e w' => e = .returned (.tuple #[.string ⟨#[]⟩, .bool false]) ∧ w' = w := by
  have hpl := place_any 0 a w (by omega) (by omega) f1 f2
  rw [placeF_few (by omega)] at hpl
  have HPL := Lib.hid hpl
  clear hpl
  go_enter Try.func28, Try.ntmps28
  go_wp2_with fail
  refine (len_nil w).mono ?_
  rintro e w' ⟨rfl, rfl⟩
  go_wp2_with fail
  refine HPL.out.mono ?_
  rintro e w' ⟨rfl, rfl⟩
  go_wp2
  go_ret2
  exact ⟨rfl, rfl⟩
theorem put_long (D : Nat) (r : Option Nat) (l : List ByteArray) (a : Int) (t : ByteArray) (w : World) (h : Dq D r l w) (ht : 1048576 < t.size) (hts : t.size ≤ 9223372036854775807) :
    Calls Try.prog 31 #[.pointer (some ⟨D, 0, none⟩), .int .i64 a, .string t] w fun e w' => e = .returned (.int .i64 3) ∧ w' = w := by
  have HNO := Lib.hid (none_any D r l w h)
  clear h
  go_enter Try.func31, Try.ntmps31
  go_wp2_with fail
  refine HNO.out.mono ?_
  rintro e w' ⟨rfl, rfl⟩
  go_wp2
  go_ret
  exact ⟨rfl, rfl⟩
theorem put_nil (a : Int) (t : ByteArray) (w : World) :
    Calls Try.prog 31 #[.pointer none, .int .i64 a, .string t] w fun e w' => e = .returned (.int .i64 1) ∧ w' = w := by
  go_enter Try.func31, Try.ntmps31
  go_wp2_with fail
  refine (none_nil w).mono ?_
  rintro e w' ⟨rfl, rfl⟩
  go_wp2
  go_ret
  exact ⟨rfl, rfl⟩
theorem put_no (D : Nat) (r : Option Nat) (l : List ByteArray) (a : Int) (t : ByteArray) (w : World) (h : Dq D r l w) (ht : t.size ≤ 1048576) (f1 : -9223372036854775808 ≤ a) (f2 : a ≤ 9223372036854775807) (hp : placeF l.length a = (0, false)) :
    Calls Try.prog 31 #[.pointer (some ⟨D, 0, none⟩), .int .i64 a, .string t] w fun e w' => e = .returned (.int .i64 4) ∧ w' = w := by
  have hlen := dq_len h
  have HNO := Lib.hid (none_any D r l w h)
  have hpl := place_any l.length a w (by omega) (by omega) f1 f2
  rw [hp] at hpl
  have HPL := Lib.hid hpl
  obtain ⟨v, N, f, ys, -, hq⟩ := h
  have h3 := hq.c3
  clear hpl hp hq
  go_enter Try.func31, Try.ntmps31
  go_wp2_with fail
  refine HNO.out.mono ?_
  rintro e w' ⟨rfl, rfl⟩
  go_wp2_with fail
  refine HPL.out.mono ?_
  rintro e w' ⟨rfl, rfl⟩
  go_wp2
  go_ret
  exact ⟨rfl, rfl⟩
theorem items_set {D N c g f : Nat} {l : List ByteArray} {ys : List Value} {W : World} (h : DqI D l (.slice (some ⟨g, 0, none⟩) N c) N f ys W) (hf : f < N) (j : Nat) (hj : j < l.length) (t : ByteArray) : ∀ i (h : i < (l.set j t).length), (ys.set ((f + j) % N) (.string t))[(f + i) % N]? = some (.string (l.set j t)[i]) := by
  intro i hi
  have hi' : i < l.length := by simpa using hi
  have hy : ys.length = N := by have := h.row.1; omega
  have hl := h.len
  by_cases e : i = j
  · subst e
    rw [List.getElem?_set_self (by rw [hy]; exact md_lt (by omega)), List.getElem_set_self]
  · rw [List.getElem?_set_ne (fun e2 => e (md_inj hf (by omega) (by omega) e2).symm), h.item i hi', List.getElem_set_ne (fun e2 => e e2.symm)]
set_option maxHeartbeats 1000000 in
theorem put_yes (D i : Nat) (r : Option Nat) (l : List ByteArray) (a : Int) (t : ByteArray) (w : World) (h : Dq D r l w) (ht : t.size ≤ 1048576) (f1 : -9223372036854775808 ≤ a) (f2 : a ≤ 9223372036854775807) (hp : placeF l.length a = ((i : Int), true)) :
    Calls Try.prog 31 #[.pointer (some ⟨D, 0, none⟩), .int .i64 a, .string t] w fun e w' => e = .returned (.int .i64 0) ∧ Dq D r (l.set i t) w' ∧ Keeps D r w w' := by
  have hi : i < l.length := by have := placeF_lt hp; omega
  have hlen := dq_len h
  have HNO := Lib.hid (none_any D r l w h)
  have hpl := place_any l.length a w (by omega) (by omega) f1 f2
  rw [hp] at hpl
  have HPL := Lib.hid hpl
  obtain ⟨v, N, f, ys, hr, hq⟩ := h
  have hN := hq.len
  have hcap := hq.cap
  have hfst := hq.fst
  obtain ⟨g, c, rfl, -⟩ := row_form hq.row (by omega)
  have hrg : r = some g := hr
  subst hrg
  have HS := Lib.hid (St.start hq)
  have HI := Lib.hid (items_set hq (by omega) i hi t)
  obtain ⟨x, hx⟩ : ∃ x, (f + i) % N = x := ⟨_, rfl⟩
  have hxN : x < N := by rw [← hx]; exact md_lt (by omega)
  rw [hx] at HI
  obtain ⟨u0, hcu⟩ := HS.out.cx hxN
  have hfu := HS.out.frg x
  have h1 := HS.out.c1
  have h2 := HS.out.c2
  have h3 := HS.out.c3
  have hne := HS.out.ne
  have HX := Lib.hid hx
  have hx0 : (0 : Int) ≤ (x : Int) := by omega
  have hx1 : (x : Int) < (N : Int) := by omega
  clear hq hx hp hpl hr
  go_enter Try.func31, Try.ntmps31
  go_wp2_with fail
  refine HNO.out.mono ?_
  rintro e w' ⟨rfl, rfl⟩
  go_wp2_with fail
  refine HPL.out.mono ?_
  rintro e w2 ⟨rfl, rfl⟩
  go_wp2_with fail
  go_region_held3 (fun W => W.cell? ⟨D, 1, none⟩ = some (.slice (some ⟨g, 0, none⟩) N c)) (go_keep)
    ((go_at_call 41; refine (slot_x D f i N c x (some ⟨g, 0, none⟩) w2.drew h1 h2 (by omega) (by omega) (by omega) (by omega) HX.out).mono ?_; rintro e w' ⟨rfl, q, rfl⟩))
  have HS1 := Lib.hid (((HS.out.drewN (1 + q)).setY x (.string t)))
  go_wp2
  go_ret
  exact ⟨rfl, HS1.out.finish (by simp) hN (by omega) hcap HI.out⟩
end Go.Proofs.Ytnnlfhdjakabmaa
