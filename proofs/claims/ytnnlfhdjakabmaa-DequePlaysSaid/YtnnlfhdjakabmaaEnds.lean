/- A text put to an end, or taken from there. -/
import Derived.Test.YtnnlfhdjakabmaaRing
namespace Go.Proofs.Ytnnlfhdjakabmaa
open Go Go.RowKit
def EndQ (D : Nat) (r : Option Nat) (l : List ByteArray) (v : Value) (w : World) (e : Ending) (w' : World) : Prop := e = .returned v ∧ Dq D r l w' ∧ Keeps D r w w'
set_option maxHeartbeats 1000000 in
theorem putLast_any (D g c N f : Nat) (ys : List Value) (l : List ByteArray) (t : ByteArray) (w : World) (h : DqI D l (.slice (some ⟨g, 0, none⟩) N c) N f ys w) (hlt : l.length < N) (hf : f < N) :
    Calls Try.prog 52 #[.pointer (some ⟨D, 0, none⟩), .string t] w (EndQ D (some g) (l ++ [t]) (.tuple #[]) w) := by
  have hcap := h.cap
  have HS := Lib.hid (St.start h)
  have HI := Lib.hid (items_last h hlt hf t)
  obtain ⟨x, hx⟩ : ∃ x, (f + l.length) % N = x := ⟨_, rfl⟩
  have hxN : x < N := by rw [← hx]; exact md_lt (by omega)
  obtain ⟨u0, hcu⟩ := HS.out.cx hxN
  have hfu := HS.out.frg x
  have h1 := HS.out.c1
  have h2 := HS.out.c2
  have h3 := HS.out.c3
  have hf3 := HS.out.fr 3
  have hne := HS.out.ne
  have HL : Hid ((l ++ [t]).length = l.length + 1) := Lib.hid (by simp)
  obtain ⟨n, hn⟩ : ∃ n, n = l.length := ⟨_, rfl⟩
  rw [← hn] at h3 hx hlt HL HS HI
  rw [hx] at HI
  have HX := Lib.hid hx
  have hx0 : (0 : Int) ≤ (x : Int) := by omega
  have hx1 : (x : Int) < (N : Int) := by omega
  have hnb : n ≤ 500000 := by omega
  clear h hx hn
  go_enter Try.func52, Try.ntmps52
  go_wp2_with fail
  go_region_held3 (fun W => W.cell? ⟨D, 1, none⟩ = some (.slice (some ⟨g, 0, none⟩) N c) ∧ W.cell? ⟨D, 3, none⟩ = some (.int .i64 n)) (go_keep)
    ((go_at_call 41; refine (slot_x D f n N c x (some ⟨g, 0, none⟩) w.drew h1 h2 (by omega) (by omega) (by omega) (by omega) HX.out).mono ?_; rintro e w' ⟨rfl, q, rfl⟩))
  have HS1 := Lib.hid (((HS.out.drewN (1 + q)).setY x (.string t)).setN (n + 1))
  go_wp2_with fail
  go_end0
  exact ⟨rfl, HS1.out.finish HL.out (by omega) hf hcap (by rw [HX.out] at *; exact HI.out)⟩
set_option maxHeartbeats 1000000 in
theorem putFirst_any (D g c N f : Nat) (ys : List Value) (l : List ByteArray) (t : ByteArray) (w : World) (h : DqI D l (.slice (some ⟨g, 0, none⟩) N c) N f ys w) (hlt : l.length < N) (hf : f < N) :
    Calls Try.prog 51 #[.pointer (some ⟨D, 0, none⟩), .string t] w (EndQ D (some g) (t :: l) (.tuple #[]) w) := by
  have hcap := h.cap
  have HS := Lib.hid (St.start h)
  have HI := Lib.hid (items_first h hlt hf t)
  obtain ⟨x, hx⟩ : ∃ x, (f + (N - 1)) % N = x := ⟨_, rfl⟩
  have hxN : x < N := by rw [← hx]; exact md_lt (by omega)
  rw [hx] at HI
  have h1 := HS.out.c1
  have h2 := HS.out.c2
  have hf2 := HS.out.fr 2
  have hne := HS.out.ne
  have HL : Hid ((t :: l).length = l.length + 1) := Lib.hid (by simp)
  obtain ⟨n, hn⟩ : ∃ n, n = l.length := ⟨_, rfl⟩
  rw [← hn] at hlt HL HS
  have HX := Lib.hid hx
  have hx0 : (0 : Int) ≤ (x : Int) := by omega
  have hx1 : (x : Int) < (N : Int) := by omega
  have hN1 : ((N - 1 : Nat) : Int) = (N : Int) - 1 := by omega
  have HN1 := Lib.hid hN1
  have hnb : n ≤ 500000 := by omega
  clear h hx hn hN1
  go_enter Try.func51, Try.ntmps51
  go_wp2_with fail
  have hcall := slot_x D f (N - 1) N c x (some ⟨g, 0, none⟩) w h1 h2 (by omega) (by omega) (by omega) (by omega) HX.out
  rw [HN1.out] at hcall
  refine hcall.mono ?_
  rintro e w' ⟨rfl, q, rfl⟩
  have HS1 := Lib.hid ((HS.out.drewN q).setF x)
  obtain ⟨u0, hcu⟩ := HS1.out.cx hxN
  have hfu := HS1.out.frg x
  have hc1 := HS1.out.c1
  have hc2 := HS1.out.c2
  have h1' := (show (w.drewN q).cell? ⟨D, 1, none⟩ = _ from h1)
  have h2' := (show (w.drewN q).cell? ⟨D, 2, none⟩ = _ from h2)
  have hf2' := (show (w.drewN q).frozen? ⟨D, 2, none⟩ = _ from hf2)
  clear hcall h1 h2 hf2
  generalize w.drewN q = w0 at *
  go_wp2_with fail
  generalize w0.setCell ⟨D, 2, none⟩ (.int .i64 x) = w1 at *
  clear h1' h2' hf2'
  go_region
  all_goals
    have HS2 := Lib.hid ((HS1.out.setY x (.string t)).drew)
    generalize (w1.setCell ⟨g, x, none⟩ (.string t)).drew = w2 at *
    have hc3 := HS2.out.c3
    have hf3 := HS2.out.fr 3
    have HS3 := Lib.hid (HS2.out.setN (n + 1))
    go_wp2
    go_end0
    exact ⟨rfl, HS3.out.finish HL.out (by omega) hxN hcap HI.out⟩
set_option maxHeartbeats 1000000 in
theorem dropFirst_any (D g c N f : Nat) (ys : List Value) (l : List ByteArray) (t : ByteArray) (w : World) (h : DqI D (t :: l) (.slice (some ⟨g, 0, none⟩) N c) N f ys w) (hf : f < N) :
    Calls Try.prog 54 #[.pointer (some ⟨D, 0, none⟩)] w (EndQ D (some g) l (.string t) w) := by
  have hcap := h.cap
  have HS := Lib.hid (St.start h)
  have HI := Lib.hid (items_tail h hf (.string ⟨#[]⟩))
  have hlt : l.length + 1 ≤ N := by have := h.len; simpa using this
  have hcu := HS.out.cg (j := f) (by have := h.item 0 (by simp); rwa [md_self hf] at this)
  have hfu := HS.out.frg f
  have h1 := HS.out.c1
  have h2 := HS.out.c2
  have hne := HS.out.ne
  rw [List.length_cons] at HS
  obtain ⟨x, hx⟩ : ∃ x, (f + 1) % N = x := ⟨_, rfl⟩
  have hxN : x < N := by rw [← hx]; exact md_lt (by omega)
  rw [hx] at HI
  have HX := Lib.hid hx
  obtain ⟨n, hn⟩ : ∃ n, l.length = n := ⟨_, rfl⟩
  rw [hn] at hlt HS
  have HL := Lib.hid hn
  have hx0 : (0 : Int) ≤ (f : Int) := by omega
  have hx1 : (f : Int) < (N : Int) := by omega
  have hnb : n ≤ 500000 := by omega
  clear h hx hn
  go_enter Try.func54, Try.ntmps54
  go_wp2_with fail
  go_quiet (fail)
  have HS1 := Lib.hid (HS.out.drewN nq)
  have hcu1 := (show (w.drewN nq).cell? ⟨g, f, none⟩ = _ from hcu)
  have hfu1 := (show (w.drewN nq).frozen? ⟨g, f, none⟩ = _ from hfu)
  have hc1 := (show (w.drewN nq).cell? ⟨D, 1, none⟩ = _ from h1)
  have hc2 := (show (w.drewN nq).cell? ⟨D, 2, none⟩ = _ from h2)
  generalize w.drewN nq = w1 at *
  clear hcu hfu h1 h2
  go_wp2_with fail
  go_region
  all_goals
    have HS2 := Lib.hid ((HS1.out.setY f (.string ⟨#[]⟩)).drew)
    generalize (w1.setCell ⟨g, f, none⟩ (.string ⟨#[]⟩)).drew = w2 at *
    have h1 := HS2.out.c1
    have h2 := HS2.out.c2
    have hf2 := HS2.out.fr 2
    go_wp2_with fail
    refine (slot_x D f 1 N c x (some ⟨g, 0, none⟩) w2 h1 h2 (by omega) (by omega) (by omega) (by omega) HX.out).mono ?_
    rintro e w' ⟨rfl, q, rfl⟩
    have HS3 := Lib.hid ((HS2.out.drewN q).setF x)
    have hf2' := (show (w2.drewN q).frozen? ⟨D, 2, none⟩ = _ from hf2)
    have h2' := (show (w2.drewN q).cell? ⟨D, 2, none⟩ = _ from h2)
    have hc3 := HS3.out.c3
    have hf3 := HS3.out.fr 3
    have HS4 := Lib.hid (HS3.out.setN n)
    generalize w2.drewN q = w3 at *
    clear h1 h2 hf2
    go_wp2
    go_ret
    exact ⟨rfl, HS4.out.finish HL.out (by omega) hxN hcap HI.out⟩
set_option maxHeartbeats 1000000 in
theorem dropLast_any (D g c N f : Nat) (ys : List Value) (l : List ByteArray) (t : ByteArray) (w : World) (h : DqI D (l ++ [t]) (.slice (some ⟨g, 0, none⟩) N c) N f ys w) (hf : f < N) :
    Calls Try.prog 55 #[.pointer (some ⟨D, 0, none⟩)] w (EndQ D (some g) l (.string t) w) := by
  have hcap := h.cap
  have HS := Lib.hid (St.start h)
  have HI := Lib.hid (items_init h hf (.string ⟨#[]⟩))
  have hlt : l.length + 1 ≤ N := by have := h.len; simpa using this
  obtain ⟨x, hx⟩ : ∃ x, (f + l.length) % N = x := ⟨_, rfl⟩
  have hxN : x < N := by rw [← hx]; exact md_lt (by omega)
  have HIT : Hid (ys[x]? = some (.string t)) := Lib.hid (by have := h.item l.length (by simp); rw [hx] at this; simpa using this)
  rw [hx] at HI
  rw [List.length_append, List.length_singleton] at HS
  have HX := Lib.hid hx
  obtain ⟨n, hn⟩ : ∃ n, l.length = n := ⟨_, rfl⟩
  rw [hn] at hlt HS HX
  have HL := Lib.hid hn
  have h3 := HS.out.c3
  have hf3 := HS.out.fr 3
  have hne := HS.out.ne
  have hx0 : (0 : Int) ≤ (x : Int) := by omega
  have hx1 : (x : Int) < (N : Int) := by omega
  have hnb : n ≤ 500000 := by omega
  have HS1 := Lib.hid (HS.out.setN n)
  have h1 := HS1.out.c1
  have h2 := HS1.out.c2
  have h3' := HS1.out.c3
  clear h hx hn
  go_enter Try.func55, Try.ntmps55
  go_wp2_with fail
  refine (slot_x D f n N c x (some ⟨g, 0, none⟩) _ h1 h2 (by omega) (by omega) (by omega) (by omega) HX.out).mono ?_
  rintro e w' ⟨rfl, q, rfl⟩
  have HS2 := Lib.hid (HS1.out.drewN q)
  have hcu := HS2.out.cg HIT.out
  have hfu := HS2.out.frg x
  have hc1 := HS2.out.c1
  clear h1 h2 h3 h3' hf3
  generalize (w.setCell ⟨D, 3, none⟩ (.int .i64 n)).drewN q = w2 at *
  go_wp2
  go_ret
  exact ⟨rfl, (HS2.out.setY x _).finish HL.out (by omega) hf hcap HI.out⟩
end Go.Proofs.Ytnnlfhdjakabmaa
