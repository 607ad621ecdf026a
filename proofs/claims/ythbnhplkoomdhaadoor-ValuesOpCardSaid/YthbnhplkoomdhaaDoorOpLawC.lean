/- The law, where both heaps tell the same. -/
import Derived.Test.YthbnhplkoomdhaaDoorOpLawB
import Derived.Test.YthbnhplkoomdhaaDoorRefH
import Derived.Test.YthbnhplkoomdhaaDoorQuiet
namespace Go.Proofs.YthbnhplkoomdhaaDoor
open Go Go.RowKit
theorem same_self (k n : Int) (t : Array UInt8) : same k n { data := t } k n { data := t } = true := by simp [same]
theorem box6 {W : World} {g : Nat} {a b c d e f : Value} {t : TypeId} {fr : Nat × Nat} (h : W.heap[g]? = some (.cells #[a, b, c, d, e, f] t fr)) : W.cell? ⟨g, 0, none⟩ = some a ∧ W.cell? ⟨g, 1, none⟩ = some b ∧ W.cell? ⟨g, 2, none⟩ = some c ∧ W.cell? ⟨g, 3, none⟩ = some d ∧ W.cell? ⟨g, 4, none⟩ = some e ∧ W.cell? ⟨g, 5, none⟩ = some f := by
  refine ⟨?_, ?_, ?_, ?_, ?_, ?_⟩ <;> (rw [cell_of_row W g _ _ t fr h]; rfl)
set_option maxRecDepth 10000 in
set_option maxHeartbeats 4000000 in
theorem law_run (k n k' n' c s va vb : Int) (op t t' vs why : Array UInt8) (w : World) (hl : decide (500 < t.size ∨ 500 < t'.size) = false) (ho : op.size ≤ 500) (hc : c ≤ 1000) (ht : TAB w)
    (hP : OpP op t t' k n k' n' (capI c) s (.agg #[.int .i64 va, .int .i64 vb, .string { data := vs }]) (.string { data := why })) (hR : OpR op t t' k n k' n' (capI c) s (.agg #[.int .i64 va, .int .i64 vb, .string { data := vs }]) (.string { data := why })) :
    Calls Tryd.prog 3 #[.string { data := op }, .agg #[.int .i64 k, .int .i64 n, .string { data := t }, .int .i64 k', .int .i64 n', .string { data := t' }], .int .i64 c] w fun e w' => e = .returned (.bool true) ∧ Below w.heap.size w w' := by
  have hr : ((w.alloc (.cells #[.int .i64 k, .int .i64 n, .string { data := t }, .int .i64 k', .int .i64 n', .string { data := t' }] 26)).alloc (.cells #[.int .i64 k, .int .i64 n, .string { data := t }, .int .i64 k', .int .i64 n', .string { data := t' }] 24)).heap[w.heap.size + 1]? = some (.cells #[.int .i64 k, .int .i64 n, .string { data := t }, .int .i64 k', .int .i64 n', .string { data := t' }] 24 (0, 0)) := by have := newc (w.alloc (.cells #[.int .i64 k, .int .i64 n, .string { data := t }, .int .i64 k', .int .i64 n', .string { data := t' }] 26)) (.cells #[.int .i64 k, .int .i64 n, .string { data := t }, .int .i64 k', .int .i64 n', .string { data := t' }] 24); simpa using this
  have hx : ((w.alloc (.cells #[.int .i64 k, .int .i64 n, .string { data := t }, .int .i64 k', .int .i64 n', .string { data := t' }] 26)).alloc (.cells #[.int .i64 k, .int .i64 n, .string { data := t }, .int .i64 k', .int .i64 n', .string { data := t' }] 24)).heap[w.heap.size]? = some (.cells #[.int .i64 k, .int .i64 n, .string { data := t }, .int .i64 k', .int .i64 n', .string { data := t' }] 26 (0, 0)) := (Below.heap_alloc _ _ _ (by simp)).trans (newc w _)
  have HRW := Lib.hid hr
  have HX := Lib.hid hx
  have HB := Lib.hid (((Below.refl w.heap.size w).alloc (Nat.le_refl _) (.cells #[.int .i64 k, .int .i64 n, .string { data := t }, .int .i64 k', .int .i64 n', .string { data := t' }] 26)).alloc (by simp) (.cells #[.int .i64 k, .int .i64 n, .string { data := t }, .int .i64 k', .int .i64 n', .string { data := t' }] 24))
  have HPX := Lib.hid hP
  have HRX := Lib.hid hR
  have HT := Lib.hid ht
  have HCC := Lib.hid hc
  have d2 : decide ((op.size : Int) > 500) = false := by simp; omega
  have d3 : decide (c > 1000) = false := by simp; omega
  clear hr hx hP hR ht hc
  go_enter Tryd.func3, Tryd.ntmps3
  go_wp2_with fail
  refine (long_two _ _ k n k' n' t t' HRW.out).mono ?_
  rintro e w1 ⟨rfl, rfl⟩
  rw [hl]
  go_wp2_with fail
  generalize ((w.alloc (.cells #[.int .i64 k, .int .i64 n, .string { data := t }, .int .i64 k', .int .i64 n', .string { data := t' }] 26)).alloc (.cells #[.int .i64 k, .int .i64 n, .string { data := t }, .int .i64 k', .int .i64 n', .string { data := t' }] 24)) = w2 at *
  refine (new_cap c w2 HCC.out).mono ?_
  rintro e w3 ⟨H, ob, rfl, hH, hb3, hHg⟩
  have HX3 := Lib.hid ((hb3.block _ (hlt HX.out)).trans HX.out)
  have HB3 := Lib.hid (HB.out.trans (hb3.mono HB.out.size))
  have HH3 := Lib.hid hH
  have HHl := Lib.hid (hlt hH.1)
  have HHg := Lib.hid (Nat.le_trans HB.out.size hHg)
  have HXH := Lib.hid (show w.heap.size ≠ H by have := hlt HX.out; omega)
  clear hH hb3 hHg HX HB HRW
  go_wp2_with fail
  refine (refnew_cap c w3 HCC.out).mono ?_
  rintro e w4 ⟨rfl, hG, hb4⟩
  have HX4 := Lib.hid ((hb4.block _ (hlt HX3.out)).trans HX3.out)
  have HB4 := Lib.hid (HB3.out.trans (hb4.mono HB3.out.size))
  have HH4 := Lib.hid (HH3.out.below hb4)
  have HG4 := Lib.hid hG
  have HGH := Lib.hid (show w3.heap.size ≠ H by have := HHl.out; omega)
  have HGg := Lib.hid (show w.heap.size ≤ w3.heap.size from HB3.out.size)
  have HXG := Lib.hid (show w.heap.size ≠ w3.heap.size by have := hlt HX3.out; omega)
  have HT4 := Lib.hid (tab_below HT.out HB4.out)
  clear hG hb4 HX3 HB3 HH3
  generalize w3.heap.size = G at *
  obtain ⟨x0, x1, x2, x3, x4, x5⟩ := box6 HX4.out
  go_wp2_with fail
  refine (HPX.out w4 H ob HH4.out HT4.out).mono ?_
  rintro e w5 ⟨rfl, hH5, hk5⟩
  have HX5 := Lib.hid ((hk5.same _ HXH.out (hlt HX4.out)).trans HX4.out)
  have HG5 := Lib.hid ((hk5.same _ HGH.out (hlt HG4.out)).trans HG4.out)
  have HH5 := Lib.hid hH5
  have HB5 := Lib.hid (HB4.out.trans (hk5.below HHg.out HB4.out.size))
  clear hH5 hk5 HX4 HG4 HB4 HH4 HT4 x0 x1 x2 x3 x4 x5
  have hn2 : w5.heap.size ≠ G := by have := hlt HG5.out; omega
  have HX6 := Lib.hid (alloc_at (o' := (.cells #[.int .i64 va, .int .i64 vb, .string { data := vs }] 24)) HX5.out)
  have HG6 := Lib.hid (alloc_at (o' := (.cells #[.int .i64 va, .int .i64 vb, .string { data := vs }] 24)) HG5.out)
  have HH6 := Lib.hid (alloc_at (o' := (.cells #[.int .i64 va, .int .i64 vb, .string { data := vs }] 24)) HH5.out)
  have HV6 := Lib.hid (newc w5 (.cells #[.int .i64 va, .int .i64 vb, .string { data := vs }] 24))
  have HB6 := Lib.hid (HB5.out.alloc HB5.out.size (.cells #[.int .i64 va, .int .i64 vb, .string { data := vs }] 24))
  have HVG := Lib.hid hn2
  have HVg := Lib.hid (show w.heap.size ≤ w5.heap.size from HB5.out.size)
  have HT6 := Lib.hid (tab_below HT.out HB6.out)
  clear hn2 HX5 HG5 HH5 HB5
  obtain ⟨x0, x1, x2, x3, x4, x5⟩ := box6 HX6.out
  go_wp2_with fail
  generalize w5.alloc (.cells #[.int .i64 va, .int .i64 vb, .string { data := vs }] 24) = w6 at *
  generalize w5.heap.size = P1 at *
  refine (HRX.out w6 G HG6.out HT6.out).mono ?_
  rintro e w7 ⟨rfl, hG7, hk7⟩
  have HG7 := Lib.hid hG7
  have HH7 := Lib.hid ((hk7.same _ (Ne.symm HGH.out) (hlt HH6.out)).trans HH6.out)
  have HV7 := Lib.hid ((hk7.same _ HVG.out (hlt HV6.out)).trans HV6.out)
  have HB7 := Lib.hid (HB6.out.trans (hk7.below HGg.out HB6.out.size))
  clear hG7 hk7 HX6 HG6 HH6 HV6 HB6 HT6 x0 x1 x2 x3 x4 x5
  have HV8 := Lib.hid (alloc_at (o' := (.cells #[.int .i64 va, .int .i64 vb, .string { data := vs }] 24)) HV7.out)
  have HG8 := Lib.hid (alloc_at (o' := (.cells #[.int .i64 va, .int .i64 vb, .string { data := vs }] 24)) HG7.out)
  have HH8 := Lib.hid (alloc_at (o' := (.cells #[.int .i64 va, .int .i64 vb, .string { data := vs }] 24)) HH7.out)
  have HU8 := Lib.hid (newc w7 (.cells #[.int .i64 va, .int .i64 vb, .string { data := vs }] 24))
  have HB8 := Lib.hid (HB7.out.alloc HB7.out.size (.cells #[.int .i64 va, .int .i64 vb, .string { data := vs }] 24))
  clear HG7 HH7 HV7 HB7
  go_wp2_with fail
  generalize w7.alloc (.cells #[.int .i64 va, .int .i64 vb, .string { data := vs }] 24) = wq at *
  generalize w7.heap.size = P2 at *
  have zV : ∀ x : InW (Grown wq), x.w.heap[P1]? = some (.cells #[.int .i64 va, .int .i64 vb, .string { data := vs }] 24 (0, 0)) := fun x => (x.h.block _ (hlt HV8.out)).trans HV8.out
  have zV0 : ∀ x : InW (Grown wq), x.w.cell? ⟨P1, 0, none⟩ = some (.int .i64 va) := fun x => (box3 (zV x)).1
  have zV1 : ∀ x : InW (Grown wq), x.w.cell? ⟨P1, 1, none⟩ = some (.int .i64 vb) := fun x => (box3 (zV x)).2.1
  have zV2 : ∀ x : InW (Grown wq), x.w.cell? ⟨P1, 2, none⟩ = some (.string { data := vs }) := fun x => (box3 (zV x)).2.2
  clear zV
  have zU : ∀ x : InW (Grown wq), x.w.heap[P2]? = some (.cells #[.int .i64 va, .int .i64 vb, .string { data := vs }] 24 (0, 0)) := fun x => (x.h.block _ (hlt HU8.out)).trans HU8.out
  have zU0 : ∀ x : InW (Grown wq), x.w.cell? ⟨P2, 0, none⟩ = some (.int .i64 va) := fun x => (box3 (zU x)).1
  have zU1 : ∀ x : InW (Grown wq), x.w.cell? ⟨P2, 1, none⟩ = some (.int .i64 vb) := fun x => (box3 (zU x)).2.1
  have zU2 : ∀ x : InW (Grown wq), x.w.cell? ⟨P2, 2, none⟩ = some (.string { data := vs }) := fun x => (box3 (zU x)).2.2
  clear zU
  have zG2 : ∀ x : InW (Grown wq), x.w.cell? ⟨G, 2, none⟩ = some (.int .i64 s) := fun x => by rw [cell_of_row x.w G 2 _ 38 (0, 0) ((x.h.block _ (hlt HG8.out)).trans HG8.out)]; rfl
  have H12 : Hid (∀ x : InW (Grown wq), Calls Tryd.prog 12 #[.pointer (some ⟨H, 0, none⟩)] x.w (RetIn (Grown wq) (.int .i64 s))) := Lib.hid fun x => (spent_any H ob _ _ s x.w ((x.h.block _ (hlt HH8.out)).trans HH8.out)).mono fun _ _ ⟨a, b⟩ => ⟨a, x, b⟩
  have H7 : Hid (∀ x : InW (Grown wq), Calls Tryd.prog 7 #[] x.w (RetIn (Grown wq) (.bool true))) := Lib.hid fun x => ret_below (known_any x.w)
  have heq : ∀ W, (Op.equalIn 10000 24 (.agg #[.int .i64 va, .int .i64 vb, .string { data := vs }]) (.agg #[.int .i64 va, .int .i64 vb, .string { data := vs }])).run Tryd.prog W = .ok true W := fun W => by rw [eqv24 va vb va vb vs vs W, same_self]
  have HIN : Nonempty (InW (Grown wq)) := ⟨⟨wq, Below.refl _ _⟩⟩
  refine region_in (Grown wq) (by kernel_rfl) (by kernel_rfl) (Below.refl _ _).drew ?_
  repeat (go_big_quiet_step ((rename_i x; with_reducible (first | exact H12.out x | exact H7.out x))))
  refine wpQuiet_nil ?_
  rintro _ ⟨x, rfl⟩
  have HBX := Lib.hid (HB8.out.trans (x.h.mono HB8.out.size))
  clear zV0 zV1 zV2 zU0 zU1 zU2 zG2 heq HIN
  go_wp2
  go_ret
  exact ⟨rfl, HBX.out⟩
end Go.Proofs.YthbnhplkoomdhaaDoor
