/- Whether a step is vast. -/
import Derived.Test.YthbnhplkoomdhaaGreatDoorLong
import Derived.Test.YthbnhplkoomdhaaGreatDoorRec
import Derived.Deep.RegionHeld3
namespace Go.Proofs.YthbnhplkoomdhaaGreatDoor
open Go Go.RowKit
abbrev valA (k n : Int) (t : ByteArray) : Value := .agg #[.int .i64 k, .int .i64 n, .string t]
theorem cells9 (W : World) (v : Array Value) (t : TypeId) (o : Nat) (x : Value) (h : v[o]? = some x) : ((W.alloc (.cells v t)).drew).cell? ⟨W.heap.size, o, none⟩ = some x := by
  have h1 : (W.alloc (.cells v t)).drew.heap[W.heap.size]? = some (.cells v t (0, 0)) := by
    show (W.heap.push _)[W.heap.size]? = _
    simp
  rw [cell_of_row _ W.heap.size o _ t (0, 0) h1]; exact h
theorem long_three (W : World) (tk tn kk kn vk vn : Int) (tt kt vt : ByteArray) :
    Calls Tryz.prog 14 #[.slice (some ⟨W.heap.size, 0, none⟩) 3 3] (W.alloc (.cells #[.int .i64 tk, .int .i64 tn, .string tt, .int .i64 kk, .int .i64 kn, .string kt, .int .i64 vk, .int .i64 vn, .string vt] 24)).drew
      fun e w' => (∃ v, e = .returned (.bool v)) ∧ Below W.heap.size W w' :=
  (long_any W.heap.size 3 (fun j => match j with | 0 => tt | 1 => kt | _ => vt) _ (fun j hj => by
    match j, hj with
    | 0, _ => exact cells9 W _ 24 2 _ rfl
    | 1, _ => exact cells9 W _ 24 5 _ rfl
    | 2, _ => exact cells9 W _ 24 8 _ rfl) (by omega)).mono fun _ _ ⟨h1, h2⟩ => ⟨h1, h2 ▸ ((Below.refl W.heap.size W).alloc (Nat.le_refl _) _).drew⟩
theorem keep9 {b : Nat} {W W' : World} {o : Nat} {v : Value} (hl : b < W.heap.size) (hb : Below W.heap.size W W') (h : W.cell? ⟨b, o, none⟩ = some v) : W'.cell? ⟨b, o, none⟩ = some v :=
  (hb.cell (p := ⟨b, o, none⟩) hl).trans h
theorem cell_lt {W : World} {b o : Nat} {v : Value} (h : W.cell? ⟨b, o, none⟩ = some v) : b < W.heap.size := by
  rcases Nat.lt_or_ge b W.heap.size with h1 | h1
  · exact h1
  · simp [World.cell?, Array.getElem?_eq_none h1] at h

set_option maxRecDepth 10000 in
set_option maxHeartbeats 4000000 in
theorem vast_any (b : Nat) (w : World) (tk tn kk kn vk vn : Int) (tt kt vt : ByteArray)
    (c1 : w.cell? ⟨b, 1, none⟩ = some (.int .i64 tk)) (c2 : w.cell? ⟨b, 2, none⟩ = some (.int .i64 tn)) (c3 : w.cell? ⟨b, 3, none⟩ = some (.string tt))
    (c4 : w.cell? ⟨b, 4, none⟩ = some (.int .i64 kk)) (c5 : w.cell? ⟨b, 5, none⟩ = some (.int .i64 kn)) (c6 : w.cell? ⟨b, 6, none⟩ = some (.string kt))
    (c7 : w.cell? ⟨b, 7, none⟩ = some (.int .i64 vk)) (c8 : w.cell? ⟨b, 8, none⟩ = some (.int .i64 vn)) (c9 : w.cell? ⟨b, 9, none⟩ = some (.string vt)) :
    Calls Tryz.prog 4 #[.slice (some ⟨b, 0, none⟩) 1 1] w fun e w' => (∃ v, e = .returned (.bool v)) ∧ Below w.heap.size w w' := by
  go_enter Tryz.func4, Tryz.ntmps4
  obtain ⟨wo, rfl⟩ : ∃ wo : World, wo = w := ⟨_, rfl⟩
  go_wp2_with fail
  go_loopw [3] (fun i wr => (i = .int .i64 0 ∧ wr = wo) ∨ (i = .int .i64 1 ∧ Below wo.heap.size wo wr)) (fun i _ => 1 - (intOf i).toNat)
  case atStart => exact .inl ⟨rfl, rfl⟩
  case round =>
    rcases hrel with ⟨rfl, rfl⟩ | ⟨rfl, hb⟩
    · go_wp2_with fail
      have LC := Lib.hid (long_three wr tk tn kk kn vk vn tt kt vt)
      have hbl := cell_lt c1
      go_region_held3 (fun W => W.cell? ⟨b, 1, none⟩ = some (.int .i64 tk) ∧ W.cell? ⟨b, 2, none⟩ = some (.int .i64 tn) ∧ W.cell? ⟨b, 3, none⟩ = some (.string tt) ∧ W.cell? ⟨b, 4, none⟩ = some (.int .i64 kk) ∧ W.cell? ⟨b, 5, none⟩ = some (.int .i64 kn) ∧ W.cell? ⟨b, 6, none⟩ = some (.string kt) ∧ W.cell? ⟨b, 7, none⟩ = some (.int .i64 vk) ∧ W.cell? ⟨b, 8, none⟩ = some (.int .i64 vn) ∧ W.cell? ⟨b, 9, none⟩ = some (.string vt))
        (first | go_keep | assumption | (dsimp only; assumption))
        ((go_at_call 14
          with_reducible (refine LC.out.mono ?_)
          rintro e w5 ⟨⟨v, rfl⟩, hb5⟩
          have k1 := keep9 hbl hb5 c1
          have k2 := keep9 hbl hb5 c2
          have k3 := keep9 hbl hb5 c3
          have k4 := keep9 hbl hb5 c4
          have k5 := keep9 hbl hb5 c5
          have k6 := keep9 hbl hb5 c6
          have k7 := keep9 hbl hb5 c7
          have k8 := keep9 hbl hb5 c8
          have k9 := keep9 hbl hb5 c9
          have HB5 := Lib.hid hb5
          clear hb5))
      cases v
      · go_wp2_with fail
        go_roundw
        case rel => exact .inr ⟨rfl, HB5.out⟩
        case measure => simp [intOf]
      · go_wp2_with fail
        go_ret
        exact ⟨⟨_, rfl⟩, HB5.out⟩
    · go_wp2_with fail
      go_ret
      exact ⟨⟨_, rfl⟩, hb⟩
end Go.Proofs.YthbnhplkoomdhaaGreatDoor
