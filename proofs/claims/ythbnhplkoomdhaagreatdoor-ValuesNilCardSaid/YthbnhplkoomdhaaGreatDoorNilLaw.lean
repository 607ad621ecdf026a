/- The law of a heap that is not there. -/
import Derived.Test.YthbnhplkoomdhaaGreatDoorBase
import Derived.Test.YthbnhplkoomdhaaGreatDoorNils
namespace Go.Proofs.YthbnhplkoomdhaaGreatDoor
open Go Go.RowKit
abbrev stepRow (kd tk tn : Int) (tt : ByteArray) (kk kn : Int) (kt : ByteArray) (vk vn : Int) (vt : ByteArray) : Array Value := #[.int .i64 kd, .int .i64 tk, .int .i64 tn, .string tt, .int .i64 kk, .int .i64 kn, .string kt, .int .i64 vk, .int .i64 vn, .string vt]
theorem row10 {W : World} {b : Nat} {t : TypeId} {kd tk tn kk kn vk vn : Int} {tt kt vt : ByteArray} (h : W.heap[b]? = some (.cells #[.int .i64 kd, .int .i64 tk, .int .i64 tn, .string tt, .int .i64 kk, .int .i64 kn, .string kt, .int .i64 vk, .int .i64 vn, .string vt] t (0, 0))) :
    W.cell? ⟨b, 0, none⟩ = some (.int .i64 kd) ∧ W.cell? ⟨b, 1, none⟩ = some (.int .i64 tk) ∧ W.cell? ⟨b, 2, none⟩ = some (.int .i64 tn) ∧ W.cell? ⟨b, 3, none⟩ = some (.string tt) ∧ W.cell? ⟨b, 4, none⟩ = some (.int .i64 kk) ∧ W.cell? ⟨b, 5, none⟩ = some (.int .i64 kn) ∧ W.cell? ⟨b, 6, none⟩ = some (.string kt) ∧ W.cell? ⟨b, 7, none⟩ = some (.int .i64 vk) ∧ W.cell? ⟨b, 8, none⟩ = some (.int .i64 vn) ∧ W.cell? ⟨b, 9, none⟩ = some (.string vt) := by
  refine ⟨?_, ?_, ?_, ?_, ?_, ?_, ?_, ?_, ?_, ?_⟩ <;> (rw [cell_of_row W b _ _ t (0, 0) h]; rfl)
theorem vast_row (W : World) (b : Nat) (t : TypeId) (kd tk tn kk kn vk vn : Int) (tt kt vt : ByteArray) (h : W.heap[b]? = some (.cells #[.int .i64 kd, .int .i64 tk, .int .i64 tn, .string tt, .int .i64 kk, .int .i64 kn, .string kt, .int .i64 vk, .int .i64 vn, .string vt] t (0, 0))) :
    Calls Tryz.prog 4 #[.slice (some ⟨b, 0, none⟩) 1 1] W fun e w' => (∃ v, e = .returned (.bool v)) ∧ Below W.heap.size W w' := by
  obtain ⟨_, c1, c2, c3, c4, c5, c6, c7, c8, c9⟩ := row10 h
  exact vast_any b W tk tn kk kn vk vn tt kt vt c1 c2 c3 c4 c5 c6 c7 c8 c9

structure NS (w W : World) (R : Array Value) : Prop where
  x : W.heap[w.heap.size]? = some (.cells R 26 (0, 0))
  bel : Below w.heap.size w W
theorem NS.grow {w W W' : World} {R : Array Value} (h : NS w W R) (hb : Below W.heap.size W W') : NS w W' R :=
  ⟨(hb.block _ (hlt' h.x)).trans h.x, h.bel.trans (hb.mono h.bel.size)⟩
theorem NS.alloc {w W : World} {R : Array Value} (h : NS w W R) (o : Obj) : NS w (W.alloc o) R := h.grow ((Below.refl _ _).alloc (Nat.le_refl _) o)

set_option maxRecDepth 10000 in
set_option maxHeartbeats 8000000 in
theorem nil_any (kd tk tn kk kn vk vn : Int) (tt kt vt op : ByteArray) (w : World) :
    Calls Tryz.prog 3 #[.agg #[.int .i64 kd, .int .i64 tk, .int .i64 tn, .string tt, .int .i64 kk, .int .i64 kn, .string kt, .int .i64 vk, .int .i64 vn, .string vt], .string op] w fun e w' => e = .returned (.bool true) ∧ Below w.heap.size w w' := by
  have S0 : NS w ((w.alloc (.cells #[.int .i64 kd, .int .i64 tk, .int .i64 tn, .string tt, .int .i64 kk, .int .i64 kn, .string kt, .int .i64 vk, .int .i64 vn, .string vt] 26)).alloc (.cells #[.int .i64 kd, .int .i64 tk, .int .i64 tn, .string tt, .int .i64 kk, .int .i64 kn, .string kt, .int .i64 vk, .int .i64 vn, .string vt] 26)) #[.int .i64 kd, .int .i64 tk, .int .i64 tn, .string tt, .int .i64 kk, .int .i64 kn, .string kt, .int .i64 vk, .int .i64 vn, .string vt] := ⟨alloc_atN (newc w _), ((Below.refl w.heap.size w).alloc (Nat.le_refl _) _).alloc (by simp) _⟩
  have hy : ((w.alloc (.cells #[.int .i64 kd, .int .i64 tk, .int .i64 tn, .string tt, .int .i64 kk, .int .i64 kn, .string kt, .int .i64 vk, .int .i64 vn, .string vt] 26)).alloc (.cells #[.int .i64 kd, .int .i64 tk, .int .i64 tn, .string tt, .int .i64 kk, .int .i64 kn, .string kt, .int .i64 vk, .int .i64 vn, .string vt] 26)).heap[w.heap.size + 1]? = some (.cells #[.int .i64 kd, .int .i64 tk, .int .i64 tn, .string tt, .int .i64 kk, .int .i64 kn, .string kt, .int .i64 vk, .int .i64 vn, .string vt] 26 (0, 0)) := by have := newc (w.alloc (.cells #[.int .i64 kd, .int .i64 tk, .int .i64 tn, .string tt, .int .i64 kk, .int .i64 kn, .string kt, .int .i64 vk, .int .i64 vn, .string vt] 26)) (.cells #[.int .i64 kd, .int .i64 tk, .int .i64 tn, .string tt, .int .i64 kk, .int .i64 kn, .string kt, .int .i64 vk, .int .i64 vn, .string vt] 26); simpa using this
  have HS0 := Lib.hid S0
  have HY := Lib.hid hy
  clear S0 hy
  go_enter Tryz.func3, Tryz.ntmps3
  go_wp2_with fail
  refine (vast_row _ (w.heap.size + 1) 26 kd tk tn kk kn vk vn tt kt vt HY.out).mono ?_
  rintro e w1 ⟨⟨v, rfl⟩, hb1⟩
  have HS1 := Lib.hid (HS0.out.grow hb1)
  clear hb1 HY HS0
  cases v
  · by_cases hop : op.size ≤ 500
    · have dop : decide ((op.size : Int) > 500) = false := by simp; omega
      clear hop
      go_wp2_with fail
      refine (table_nil _).mono ?_
      rintro e w2o ⟨rfl, hb2⟩
      have HS2 : Hid (NS w (w2o.alloc (.cells #[.int .i64 0, .int .i64 0, .string { data := #[] }] 24)) #[.int .i64 kd, .int .i64 tk, .int .i64 tn, .string tt, .int .i64 kk, .int .i64 kn, .string kt, .int .i64 vk, .int .i64 vn, .string vt]) := Lib.hid ((HS1.out.grow hb2).alloc _)
      clear hb2 HS1
      obtain ⟨c0, c1, c2, c3, c4, c5, c6, c7, c8, c9⟩ := row10 HS2.out.x
      go_wp2_with fail
      generalize (w2o.alloc (.cells #[.int .i64 0, .int .i64 0, .string { data := #[] }] 24)) = w2 at *
      generalize w2o.heap.size = P2 at *
      clear c0 c1 c2 c3 c4 c5 c6 c7 c8 c9
      refine (get_nil tk tn kk kn tt kt _).mono ?_
      rintro e w3o ⟨rfl, hb3⟩
      have HS3 : Hid (NS w (w3o.alloc (.cells #[.int .i64 0, .int .i64 0, .string { data := #[] }] 24)) #[.int .i64 kd, .int .i64 tk, .int .i64 tn, .string tt, .int .i64 kk, .int .i64 kn, .string kt, .int .i64 vk, .int .i64 vn, .string vt]) := Lib.hid ((HS2.out.grow hb3).alloc _)
      clear hb3 HS2
      obtain ⟨c0, c1, c2, c3, c4, c5, c6, c7, c8, c9⟩ := row10 HS3.out.x
      go_wp2_with fail
      generalize (w3o.alloc (.cells #[.int .i64 0, .int .i64 0, .string { data := #[] }] 24)) = w3 at *
      generalize w3o.heap.size = P3 at *
      clear c0 c1 c2 c3 c4 c5 c6 c7 c8 c9
      refine (set_nil tk tn kk kn vk vn tt kt vt _).mono ?_
      rintro e w4o ⟨rfl, hb4⟩
      have HS4 : Hid (NS w w4o #[.int .i64 kd, .int .i64 tk, .int .i64 tn, .string tt, .int .i64 kk, .int .i64 kn, .string kt, .int .i64 vk, .int .i64 vn, .string vt]) := Lib.hid ((HS3.out.grow hb4))
      clear hb4 HS3
      obtain ⟨c0, c1, c2, c3, c4, c5, c6, c7, c8, c9⟩ := row10 HS4.out.x
      go_wp2_with fail
      clear c0 c1 c2 c3 c4 c5 c6 c7 c8 c9
      refine (len_nil tk tn tt _).mono ?_
      rintro e w5o ⟨rfl, hb5⟩
      have HS5 : Hid (NS w w5o #[.int .i64 kd, .int .i64 tk, .int .i64 tn, .string tt, .int .i64 kk, .int .i64 kn, .string kt, .int .i64 vk, .int .i64 vn, .string vt]) := Lib.hid ((HS4.out.grow hb5))
      clear hb5 HS4
      obtain ⟨c0, c1, c2, c3, c4, c5, c6, c7, c8, c9⟩ := row10 HS5.out.x
      go_wp2_with fail
      clear c0 c1 c2 c3 c4 c5 c6 c7 c8 c9
      refine (keys_nil tk tn tt _).mono ?_
      rintro e w6o ⟨rfl, hb6⟩
      have HS6 : Hid (NS w w6o #[.int .i64 kd, .int .i64 tk, .int .i64 tn, .string tt, .int .i64 kk, .int .i64 kn, .string kt, .int .i64 vk, .int .i64 vn, .string vt]) := Lib.hid ((HS5.out.grow hb6))
      clear hb6 HS5
      obtain ⟨c0, c1, c2, c3, c4, c5, c6, c7, c8, c9⟩ := row10 HS6.out.x
      go_wp2_with fail
      clear c0 c1 c2 c3 c4 c5 c6 c7 c8 c9
      refine (make_nil vt _).mono ?_
      rintro e w7o ⟨rfl, hb7⟩
      have HS7 : Hid (NS w (w7o.alloc (.cells #[.int .i64 0, .int .i64 0, .string { data := #[] }] 24)) #[.int .i64 kd, .int .i64 tk, .int .i64 tn, .string tt, .int .i64 kk, .int .i64 kn, .string kt, .int .i64 vk, .int .i64 vn, .string vt]) := Lib.hid ((HS6.out.grow hb7).alloc _)
      clear hb7 HS6
      obtain ⟨c0, c1, c2, c3, c4, c5, c6, c7, c8, c9⟩ := row10 HS7.out.x
      go_wp2_with fail
      generalize (w7o.alloc (.cells #[.int .i64 0, .int .i64 0, .string { data := #[] }] 24)) = w7 at *
      generalize w7o.heap.size = P7 at *
      clear c0 c1 c2 c3 c4 c5 c6 c7 c8 c9
      refine (op_nil op kt vt kk kn vk vn _).mono ?_
      rintro e w8o ⟨rfl, hb8⟩
      have HS8 : Hid (NS w (w8o.alloc (.cells #[.int .i64 0, .int .i64 0, .string { data := #[] }] 24)) #[.int .i64 kd, .int .i64 tk, .int .i64 tn, .string tt, .int .i64 kk, .int .i64 kn, .string kt, .int .i64 vk, .int .i64 vn, .string vt]) := Lib.hid ((HS7.out.grow hb8).alloc _)
      clear hb8 HS7
      obtain ⟨c0, c1, c2, c3, c4, c5, c6, c7, c8, c9⟩ := row10 HS8.out.x
      have HSP := Lib.hid (spent_nil (w8o.alloc (.cells #[.int .i64 0, .int .i64 0, .string { data := #[] }] 24)))
      go_wp2_with fail
      refine HSP.out.mono ?_
      rintro e wy ⟨rfl, rfl⟩
      go_wp2_with fail
      refine (known_any _).mono ?_
      rintro e wz ⟨rfl, hbz⟩
      have hfin := HS8.out.bel.trans (hbz.mono HS8.out.bel.size)
      go_wp2
      go_ret
      exact ⟨rfl, hfin⟩
    · have dop : decide ((op.size : Int) > 500) = true := by simp; omega
      go_wp2_with fail
      refine (known_any _).mono ?_
      rintro e wz ⟨rfl, hbz⟩
      have hfin := HS1.out.bel.trans (hbz.mono HS1.out.bel.size)
      go_wp2
      go_ret
      exact ⟨rfl, hfin⟩
  · go_wp2_with fail
    refine (known_any _).mono ?_
    rintro e wz ⟨rfl, hbz⟩
    have hfin := HS1.out.bel.trans (hbz.mono HS1.out.bel.size)
    go_wp2
    go_ret
    exact ⟨rfl, hfin⟩
end Go.Proofs.YthbnhplkoomdhaaGreatDoor
