/- The reference: two numbers in order. -/
import Derived.Test.YthbnhplkoomdhaaDoorRefM
namespace Go.Proofs.YthbnhplkoomdhaaDoor
open Go Go.RowKit
set_option maxRecDepth 10000 in
set_option maxHeartbeats 2000000 in
theorem ro_gti10 (g : Value) (n k' n' : Int) (t t' : Array UInt8) (w : World) (e : (k' == 2) = true) (hcx : ∀ W, Calls Tryd.prog 15 #[.agg #[.int .i64 2, .int .i64 n, .string { data := t }]] W fun e w' => e = .returned (.bool true) ∧ Below W.heap.size W w') (hcy : ∀ W, Calls Tryd.prog 15 #[.agg #[.int .i64 k', .int .i64 n', .string { data := t' }]] W fun e w' => e = .returned (.bool true) ∧ Below W.heap.size W w') (d1 : decide (n < n') = true) (d2 : (n == n') = false) :
    Calls Tryd.prog 11 #[g, .string { data := #[62] }, .agg #[.int .i64 2, .int .i64 n, .string { data := t }], .agg #[.int .i64 k', .int .i64 n', .string { data := t' }]] w fun e w' => e = .returned (.tuple #[.agg #[.int .i64 1, .int .i64 0, .string { data := #[] }], .string { data := #[] }]) ∧ Below w.heap.size w w' := by
  obtain ⟨ha, hb, hc, hB⟩ := three w (.cells #[.int .i64 2, .int .i64 n, .string { data := t }] 24) (.cells #[.int .i64 k', .int .i64 n', .string { data := t' }] 24) (.cells #[.int .i64 0, .int .i64 0, .string { data := #[] }] 24)
  have HA := Lib.hid ha
  have HBB := Lib.hid hb
  have HC := Lib.hid hc
  have HB := Lib.hid hB
  have HCX := Lib.hid hcx
  have HCY := Lib.hid hcy
  clear ha hb hc hB hcx hcy
  go_enter Tryd.func11, Tryd.ntmps11
  go_wp2_with fail
  generalize (((w.alloc (.cells #[.int .i64 2, .int .i64 n, .string { data := t }] 24)).alloc (.cells #[.int .i64 k', .int .i64 n', .string { data := t' }] 24)).alloc (.cells #[.int .i64 0, .int .i64 0, .string { data := #[] }] 24)) = w3 at *
  refine (HCX.out w3).mono ?_
  rintro e w4 ⟨rfl, hb4⟩
  have HA4 := Lib.hid ((hb4.block _ (hlt HA.out)).trans HA.out)
  have HBB4 := Lib.hid ((hb4.block _ (hlt HBB.out)).trans HBB.out)
  have HC4 := Lib.hid ((hb4.block _ (hlt HC.out)).trans HC.out)
  have HB4 := Lib.hid (HB.out.trans (hb4.mono HB.out.size))
  obtain ⟨y0, y1, y2⟩ := box3 HBB4.out
  clear hb4 HA HBB HC HB
  go_wp2_with fail
  refine (HCY.out w4).mono ?_
  rintro e w5 ⟨rfl, hb5⟩
  have HA5 := Lib.hid ((hb5.block _ (hlt HA4.out)).trans HA4.out)
  have HBB5 := Lib.hid ((hb5.block _ (hlt HBB4.out)).trans HBB4.out)
  have HC5 := Lib.hid ((hb5.block _ (hlt HC4.out)).trans HC4.out)
  have HB5 := Lib.hid (HB4.out.trans (hb5.mono HB4.out.size))
  clear y0 y1 y2 hb5 HA4 HBB4 HC4 HB4 HCX HCY
  obtain ⟨x0, x1, x2⟩ := box3 HA5.out
  obtain ⟨y0, y1, y2⟩ := box3 HBB5.out
  go_wp2_with fail
  go_quiet (fail)
  go_wp2_with fail
  rename Nat => nqa
  go_quiet (fail)
  go_wp2_with fail
  refine (rb0 _).mono ?_
  rintro e w6 ⟨rfl, hb6⟩
  have HC7 := Lib.hid ((hb6.block _ (hlt HC5.out)).trans HC5.out)
  have HROW := Lib.hid (setRow_at w6 (w.heap.size + 1 + 1) _ #[.int .i64 1, .int .i64 0, .string { data := #[] }] 24 (0, 0) HC7.out)
  have HBE := Lib.hid (setRow_below ((below_drewN HB5.out (nqa + nq)).trans (hb6.mono (below_drewN HB5.out (nqa + nq)).size)) (show w.heap.size ≤ w.heap.size + 1 + 1 by omega) #[.int .i64 1, .int .i64 0, .string { data := #[] }])
  clear hb6
  go_wp2_with (refine wpList_store_row rfl 24 (.tmp 8) (.tmp 147) rfl (w.heap.size + 1 + 1) #[.int .i64 1, .int .i64 0, .string { data := #[] }] rfl rfl 24 _ HC7.out (by rw [size24]; rfl) rfl (by simp [Value.oneCell']) ?_)
  exact bodyPost_ret (v := .tuple #[.agg #[.int .i64 1, .int .i64 0, .string { data := #[] }], .string { data := #[] }]) (res11 _ _ (w.heap.size + 1 + 1) _ rfl HROW.out) rfl ⟨rfl, HBE.out⟩

set_option maxRecDepth 10000 in
set_option maxHeartbeats 2000000 in
theorem ro_gti01 (g : Value) (n k' n' : Int) (t t' : Array UInt8) (w : World) (e : (k' == 2) = true) (hcx : ∀ W, Calls Tryd.prog 15 #[.agg #[.int .i64 2, .int .i64 n, .string { data := t }]] W fun e w' => e = .returned (.bool true) ∧ Below W.heap.size W w') (hcy : ∀ W, Calls Tryd.prog 15 #[.agg #[.int .i64 k', .int .i64 n', .string { data := t' }]] W fun e w' => e = .returned (.bool true) ∧ Below W.heap.size W w') (d1 : decide (n < n') = false) (d2 : (n == n') = true) :
    Calls Tryd.prog 11 #[g, .string { data := #[62] }, .agg #[.int .i64 2, .int .i64 n, .string { data := t }], .agg #[.int .i64 k', .int .i64 n', .string { data := t' }]] w fun e w' => e = .returned (.tuple #[.agg #[.int .i64 1, .int .i64 0, .string { data := #[] }], .string { data := #[] }]) ∧ Below w.heap.size w w' := by
  obtain ⟨ha, hb, hc, hB⟩ := three w (.cells #[.int .i64 2, .int .i64 n, .string { data := t }] 24) (.cells #[.int .i64 k', .int .i64 n', .string { data := t' }] 24) (.cells #[.int .i64 0, .int .i64 0, .string { data := #[] }] 24)
  have HA := Lib.hid ha
  have HBB := Lib.hid hb
  have HC := Lib.hid hc
  have HB := Lib.hid hB
  have HCX := Lib.hid hcx
  have HCY := Lib.hid hcy
  clear ha hb hc hB hcx hcy
  go_enter Tryd.func11, Tryd.ntmps11
  go_wp2_with fail
  generalize (((w.alloc (.cells #[.int .i64 2, .int .i64 n, .string { data := t }] 24)).alloc (.cells #[.int .i64 k', .int .i64 n', .string { data := t' }] 24)).alloc (.cells #[.int .i64 0, .int .i64 0, .string { data := #[] }] 24)) = w3 at *
  refine (HCX.out w3).mono ?_
  rintro e w4 ⟨rfl, hb4⟩
  have HA4 := Lib.hid ((hb4.block _ (hlt HA.out)).trans HA.out)
  have HBB4 := Lib.hid ((hb4.block _ (hlt HBB.out)).trans HBB.out)
  have HC4 := Lib.hid ((hb4.block _ (hlt HC.out)).trans HC.out)
  have HB4 := Lib.hid (HB.out.trans (hb4.mono HB.out.size))
  obtain ⟨y0, y1, y2⟩ := box3 HBB4.out
  clear hb4 HA HBB HC HB
  go_wp2_with fail
  refine (HCY.out w4).mono ?_
  rintro e w5 ⟨rfl, hb5⟩
  have HA5 := Lib.hid ((hb5.block _ (hlt HA4.out)).trans HA4.out)
  have HBB5 := Lib.hid ((hb5.block _ (hlt HBB4.out)).trans HBB4.out)
  have HC5 := Lib.hid ((hb5.block _ (hlt HC4.out)).trans HC4.out)
  have HB5 := Lib.hid (HB4.out.trans (hb5.mono HB4.out.size))
  clear y0 y1 y2 hb5 HA4 HBB4 HC4 HB4 HCX HCY
  obtain ⟨x0, x1, x2⟩ := box3 HA5.out
  obtain ⟨y0, y1, y2⟩ := box3 HBB5.out
  go_wp2_with fail
  go_quiet (fail)
  go_wp2_with fail
  rename Nat => nqa
  go_quiet (fail)
  go_wp2_with fail
  refine (rb0 _).mono ?_
  rintro e w6 ⟨rfl, hb6⟩
  have HC7 := Lib.hid ((hb6.block _ (hlt HC5.out)).trans HC5.out)
  have HROW := Lib.hid (setRow_at w6 (w.heap.size + 1 + 1) _ #[.int .i64 1, .int .i64 0, .string { data := #[] }] 24 (0, 0) HC7.out)
  have HBE := Lib.hid (setRow_below ((below_drewN HB5.out (nqa + nq)).trans (hb6.mono (below_drewN HB5.out (nqa + nq)).size)) (show w.heap.size ≤ w.heap.size + 1 + 1 by omega) #[.int .i64 1, .int .i64 0, .string { data := #[] }])
  clear hb6
  go_wp2_with (refine wpList_store_row rfl 24 (.tmp 8) (.tmp 147) rfl (w.heap.size + 1 + 1) #[.int .i64 1, .int .i64 0, .string { data := #[] }] rfl rfl 24 _ HC7.out (by rw [size24]; rfl) rfl (by simp [Value.oneCell']) ?_)
  exact bodyPost_ret (v := .tuple #[.agg #[.int .i64 1, .int .i64 0, .string { data := #[] }], .string { data := #[] }]) (res11 _ _ (w.heap.size + 1 + 1) _ rfl HROW.out) rfl ⟨rfl, HBE.out⟩

set_option maxRecDepth 10000 in
set_option maxHeartbeats 2000000 in
theorem ro_gti00 (g : Value) (n k' n' : Int) (t t' : Array UInt8) (w : World) (e : (k' == 2) = true) (hcx : ∀ W, Calls Tryd.prog 15 #[.agg #[.int .i64 2, .int .i64 n, .string { data := t }]] W fun e w' => e = .returned (.bool true) ∧ Below W.heap.size W w') (hcy : ∀ W, Calls Tryd.prog 15 #[.agg #[.int .i64 k', .int .i64 n', .string { data := t' }]] W fun e w' => e = .returned (.bool true) ∧ Below W.heap.size W w') (d1 : decide (n < n') = false) (d2 : (n == n') = false) :
    Calls Tryd.prog 11 #[g, .string { data := #[62] }, .agg #[.int .i64 2, .int .i64 n, .string { data := t }], .agg #[.int .i64 k', .int .i64 n', .string { data := t' }]] w fun e w' => e = .returned (.tuple #[.agg #[.int .i64 1, .int .i64 1, .string { data := #[] }], .string { data := #[] }]) ∧ Below w.heap.size w w' := by
  obtain ⟨ha, hb, hc, hB⟩ := three w (.cells #[.int .i64 2, .int .i64 n, .string { data := t }] 24) (.cells #[.int .i64 k', .int .i64 n', .string { data := t' }] 24) (.cells #[.int .i64 0, .int .i64 0, .string { data := #[] }] 24)
  have HA := Lib.hid ha
  have HBB := Lib.hid hb
  have HC := Lib.hid hc
  have HB := Lib.hid hB
  have HCX := Lib.hid hcx
  have HCY := Lib.hid hcy
  clear ha hb hc hB hcx hcy
  go_enter Tryd.func11, Tryd.ntmps11
  go_wp2_with fail
  generalize (((w.alloc (.cells #[.int .i64 2, .int .i64 n, .string { data := t }] 24)).alloc (.cells #[.int .i64 k', .int .i64 n', .string { data := t' }] 24)).alloc (.cells #[.int .i64 0, .int .i64 0, .string { data := #[] }] 24)) = w3 at *
  refine (HCX.out w3).mono ?_
  rintro e w4 ⟨rfl, hb4⟩
  have HA4 := Lib.hid ((hb4.block _ (hlt HA.out)).trans HA.out)
  have HBB4 := Lib.hid ((hb4.block _ (hlt HBB.out)).trans HBB.out)
  have HC4 := Lib.hid ((hb4.block _ (hlt HC.out)).trans HC.out)
  have HB4 := Lib.hid (HB.out.trans (hb4.mono HB.out.size))
  obtain ⟨y0, y1, y2⟩ := box3 HBB4.out
  clear hb4 HA HBB HC HB
  go_wp2_with fail
  refine (HCY.out w4).mono ?_
  rintro e w5 ⟨rfl, hb5⟩
  have HA5 := Lib.hid ((hb5.block _ (hlt HA4.out)).trans HA4.out)
  have HBB5 := Lib.hid ((hb5.block _ (hlt HBB4.out)).trans HBB4.out)
  have HC5 := Lib.hid ((hb5.block _ (hlt HC4.out)).trans HC4.out)
  have HB5 := Lib.hid (HB4.out.trans (hb5.mono HB4.out.size))
  clear y0 y1 y2 hb5 HA4 HBB4 HC4 HB4 HCX HCY
  obtain ⟨x0, x1, x2⟩ := box3 HA5.out
  obtain ⟨y0, y1, y2⟩ := box3 HBB5.out
  go_wp2_with fail
  go_quiet (fail)
  go_wp2_with fail
  rename Nat => nqa
  go_quiet (fail)
  go_wp2_with fail
  refine (rb1 _).mono ?_
  rintro e w6 ⟨rfl, hb6⟩
  have HC7 := Lib.hid ((hb6.block _ (hlt HC5.out)).trans HC5.out)
  have HROW := Lib.hid (setRow_at w6 (w.heap.size + 1 + 1) _ #[.int .i64 1, .int .i64 1, .string { data := #[] }] 24 (0, 0) HC7.out)
  have HBE := Lib.hid (setRow_below ((below_drewN HB5.out (nqa + nq)).trans (hb6.mono (below_drewN HB5.out (nqa + nq)).size)) (show w.heap.size ≤ w.heap.size + 1 + 1 by omega) #[.int .i64 1, .int .i64 1, .string { data := #[] }])
  clear hb6
  go_wp2_with (refine wpList_store_row rfl 24 (.tmp 8) (.tmp 147) rfl (w.heap.size + 1 + 1) #[.int .i64 1, .int .i64 1, .string { data := #[] }] rfl rfl 24 _ HC7.out (by rw [size24]; rfl) rfl (by simp [Value.oneCell']) ?_)
  exact bodyPost_ret (v := .tuple #[.agg #[.int .i64 1, .int .i64 1, .string { data := #[] }], .string { data := #[] }]) (res11 _ _ (w.heap.size + 1 + 1) _ rfl HROW.out) rfl ⟨rfl, HBE.out⟩

set_option maxRecDepth 10000 in
set_option maxHeartbeats 2000000 in
theorem ro_gei10 (g : Value) (n k' n' : Int) (t t' : Array UInt8) (w : World) (e : (k' == 2) = true) (hcx : ∀ W, Calls Tryd.prog 15 #[.agg #[.int .i64 2, .int .i64 n, .string { data := t }]] W fun e w' => e = .returned (.bool true) ∧ Below W.heap.size W w') (hcy : ∀ W, Calls Tryd.prog 15 #[.agg #[.int .i64 k', .int .i64 n', .string { data := t' }]] W fun e w' => e = .returned (.bool true) ∧ Below W.heap.size W w') (d1 : decide (n < n') = true) (d2 : (n == n') = false) :
    Calls Tryd.prog 11 #[g, .string { data := #[62, 61] }, .agg #[.int .i64 2, .int .i64 n, .string { data := t }], .agg #[.int .i64 k', .int .i64 n', .string { data := t' }]] w fun e w' => e = .returned (.tuple #[.agg #[.int .i64 1, .int .i64 0, .string { data := #[] }], .string { data := #[] }]) ∧ Below w.heap.size w w' := by
  obtain ⟨ha, hb, hc, hB⟩ := three w (.cells #[.int .i64 2, .int .i64 n, .string { data := t }] 24) (.cells #[.int .i64 k', .int .i64 n', .string { data := t' }] 24) (.cells #[.int .i64 0, .int .i64 0, .string { data := #[] }] 24)
  have HA := Lib.hid ha
  have HBB := Lib.hid hb
  have HC := Lib.hid hc
  have HB := Lib.hid hB
  have HCX := Lib.hid hcx
  have HCY := Lib.hid hcy
  clear ha hb hc hB hcx hcy
  go_enter Tryd.func11, Tryd.ntmps11
  go_wp2_with fail
  generalize (((w.alloc (.cells #[.int .i64 2, .int .i64 n, .string { data := t }] 24)).alloc (.cells #[.int .i64 k', .int .i64 n', .string { data := t' }] 24)).alloc (.cells #[.int .i64 0, .int .i64 0, .string { data := #[] }] 24)) = w3 at *
  refine (HCX.out w3).mono ?_
  rintro e w4 ⟨rfl, hb4⟩
  have HA4 := Lib.hid ((hb4.block _ (hlt HA.out)).trans HA.out)
  have HBB4 := Lib.hid ((hb4.block _ (hlt HBB.out)).trans HBB.out)
  have HC4 := Lib.hid ((hb4.block _ (hlt HC.out)).trans HC.out)
  have HB4 := Lib.hid (HB.out.trans (hb4.mono HB.out.size))
  obtain ⟨y0, y1, y2⟩ := box3 HBB4.out
  clear hb4 HA HBB HC HB
  go_wp2_with fail
  refine (HCY.out w4).mono ?_
  rintro e w5 ⟨rfl, hb5⟩
  have HA5 := Lib.hid ((hb5.block _ (hlt HA4.out)).trans HA4.out)
  have HBB5 := Lib.hid ((hb5.block _ (hlt HBB4.out)).trans HBB4.out)
  have HC5 := Lib.hid ((hb5.block _ (hlt HC4.out)).trans HC4.out)
  have HB5 := Lib.hid (HB4.out.trans (hb5.mono HB4.out.size))
  clear y0 y1 y2 hb5 HA4 HBB4 HC4 HB4 HCX HCY
  obtain ⟨x0, x1, x2⟩ := box3 HA5.out
  obtain ⟨y0, y1, y2⟩ := box3 HBB5.out
  go_wp2_with fail
  go_quiet (fail)
  go_wp2_with fail
  rename Nat => nqa
  go_quiet (fail)
  go_wp2_with fail
  refine (rb0 _).mono ?_
  rintro e w6 ⟨rfl, hb6⟩
  have HC7 := Lib.hid ((hb6.block _ (hlt HC5.out)).trans HC5.out)
  have HROW := Lib.hid (setRow_at w6 (w.heap.size + 1 + 1) _ #[.int .i64 1, .int .i64 0, .string { data := #[] }] 24 (0, 0) HC7.out)
  have HBE := Lib.hid (setRow_below ((below_drewN HB5.out (nqa + nq)).trans (hb6.mono (below_drewN HB5.out (nqa + nq)).size)) (show w.heap.size ≤ w.heap.size + 1 + 1 by omega) #[.int .i64 1, .int .i64 0, .string { data := #[] }])
  clear hb6
  go_wp2_with (refine wpList_store_row rfl 24 (.tmp 8) (.tmp 150) rfl (w.heap.size + 1 + 1) #[.int .i64 1, .int .i64 0, .string { data := #[] }] rfl rfl 24 _ HC7.out (by rw [size24]; rfl) rfl (by simp [Value.oneCell']) ?_)
  exact bodyPost_ret (v := .tuple #[.agg #[.int .i64 1, .int .i64 0, .string { data := #[] }], .string { data := #[] }]) (res11 _ _ (w.heap.size + 1 + 1) _ rfl HROW.out) rfl ⟨rfl, HBE.out⟩

set_option maxRecDepth 10000 in
set_option maxHeartbeats 2000000 in
theorem ro_gei01 (g : Value) (n k' n' : Int) (t t' : Array UInt8) (w : World) (e : (k' == 2) = true) (hcx : ∀ W, Calls Tryd.prog 15 #[.agg #[.int .i64 2, .int .i64 n, .string { data := t }]] W fun e w' => e = .returned (.bool true) ∧ Below W.heap.size W w') (hcy : ∀ W, Calls Tryd.prog 15 #[.agg #[.int .i64 k', .int .i64 n', .string { data := t' }]] W fun e w' => e = .returned (.bool true) ∧ Below W.heap.size W w') (d1 : decide (n < n') = false) (d2 : (n == n') = true) :
    Calls Tryd.prog 11 #[g, .string { data := #[62, 61] }, .agg #[.int .i64 2, .int .i64 n, .string { data := t }], .agg #[.int .i64 k', .int .i64 n', .string { data := t' }]] w fun e w' => e = .returned (.tuple #[.agg #[.int .i64 1, .int .i64 1, .string { data := #[] }], .string { data := #[] }]) ∧ Below w.heap.size w w' := by
  obtain ⟨ha, hb, hc, hB⟩ := three w (.cells #[.int .i64 2, .int .i64 n, .string { data := t }] 24) (.cells #[.int .i64 k', .int .i64 n', .string { data := t' }] 24) (.cells #[.int .i64 0, .int .i64 0, .string { data := #[] }] 24)
  have HA := Lib.hid ha
  have HBB := Lib.hid hb
  have HC := Lib.hid hc
  have HB := Lib.hid hB
  have HCX := Lib.hid hcx
  have HCY := Lib.hid hcy
  clear ha hb hc hB hcx hcy
  go_enter Tryd.func11, Tryd.ntmps11
  go_wp2_with fail
  generalize (((w.alloc (.cells #[.int .i64 2, .int .i64 n, .string { data := t }] 24)).alloc (.cells #[.int .i64 k', .int .i64 n', .string { data := t' }] 24)).alloc (.cells #[.int .i64 0, .int .i64 0, .string { data := #[] }] 24)) = w3 at *
  refine (HCX.out w3).mono ?_
  rintro e w4 ⟨rfl, hb4⟩
  have HA4 := Lib.hid ((hb4.block _ (hlt HA.out)).trans HA.out)
  have HBB4 := Lib.hid ((hb4.block _ (hlt HBB.out)).trans HBB.out)
  have HC4 := Lib.hid ((hb4.block _ (hlt HC.out)).trans HC.out)
  have HB4 := Lib.hid (HB.out.trans (hb4.mono HB.out.size))
  obtain ⟨y0, y1, y2⟩ := box3 HBB4.out
  clear hb4 HA HBB HC HB
  go_wp2_with fail
  refine (HCY.out w4).mono ?_
  rintro e w5 ⟨rfl, hb5⟩
  have HA5 := Lib.hid ((hb5.block _ (hlt HA4.out)).trans HA4.out)
  have HBB5 := Lib.hid ((hb5.block _ (hlt HBB4.out)).trans HBB4.out)
  have HC5 := Lib.hid ((hb5.block _ (hlt HC4.out)).trans HC4.out)
  have HB5 := Lib.hid (HB4.out.trans (hb5.mono HB4.out.size))
  clear y0 y1 y2 hb5 HA4 HBB4 HC4 HB4 HCX HCY
  obtain ⟨x0, x1, x2⟩ := box3 HA5.out
  obtain ⟨y0, y1, y2⟩ := box3 HBB5.out
  go_wp2_with fail
  go_quiet (fail)
  go_wp2_with fail
  rename Nat => nqa
  go_quiet (fail)
  go_wp2_with fail
  refine (rb1 _).mono ?_
  rintro e w6 ⟨rfl, hb6⟩
  have HC7 := Lib.hid ((hb6.block _ (hlt HC5.out)).trans HC5.out)
  have HROW := Lib.hid (setRow_at w6 (w.heap.size + 1 + 1) _ #[.int .i64 1, .int .i64 1, .string { data := #[] }] 24 (0, 0) HC7.out)
  have HBE := Lib.hid (setRow_below ((below_drewN HB5.out (nqa + nq)).trans (hb6.mono (below_drewN HB5.out (nqa + nq)).size)) (show w.heap.size ≤ w.heap.size + 1 + 1 by omega) #[.int .i64 1, .int .i64 1, .string { data := #[] }])
  clear hb6
  go_wp2_with (refine wpList_store_row rfl 24 (.tmp 8) (.tmp 150) rfl (w.heap.size + 1 + 1) #[.int .i64 1, .int .i64 1, .string { data := #[] }] rfl rfl 24 _ HC7.out (by rw [size24]; rfl) rfl (by simp [Value.oneCell']) ?_)
  exact bodyPost_ret (v := .tuple #[.agg #[.int .i64 1, .int .i64 1, .string { data := #[] }], .string { data := #[] }]) (res11 _ _ (w.heap.size + 1 + 1) _ rfl HROW.out) rfl ⟨rfl, HBE.out⟩

set_option maxRecDepth 10000 in
set_option maxHeartbeats 2000000 in
theorem ro_gei00 (g : Value) (n k' n' : Int) (t t' : Array UInt8) (w : World) (e : (k' == 2) = true) (hcx : ∀ W, Calls Tryd.prog 15 #[.agg #[.int .i64 2, .int .i64 n, .string { data := t }]] W fun e w' => e = .returned (.bool true) ∧ Below W.heap.size W w') (hcy : ∀ W, Calls Tryd.prog 15 #[.agg #[.int .i64 k', .int .i64 n', .string { data := t' }]] W fun e w' => e = .returned (.bool true) ∧ Below W.heap.size W w') (d1 : decide (n < n') = false) (d2 : (n == n') = false) :
    Calls Tryd.prog 11 #[g, .string { data := #[62, 61] }, .agg #[.int .i64 2, .int .i64 n, .string { data := t }], .agg #[.int .i64 k', .int .i64 n', .string { data := t' }]] w fun e w' => e = .returned (.tuple #[.agg #[.int .i64 1, .int .i64 1, .string { data := #[] }], .string { data := #[] }]) ∧ Below w.heap.size w w' := by
  obtain ⟨ha, hb, hc, hB⟩ := three w (.cells #[.int .i64 2, .int .i64 n, .string { data := t }] 24) (.cells #[.int .i64 k', .int .i64 n', .string { data := t' }] 24) (.cells #[.int .i64 0, .int .i64 0, .string { data := #[] }] 24)
  have HA := Lib.hid ha
  have HBB := Lib.hid hb
  have HC := Lib.hid hc
  have HB := Lib.hid hB
  have HCX := Lib.hid hcx
  have HCY := Lib.hid hcy
  clear ha hb hc hB hcx hcy
  go_enter Tryd.func11, Tryd.ntmps11
  go_wp2_with fail
  generalize (((w.alloc (.cells #[.int .i64 2, .int .i64 n, .string { data := t }] 24)).alloc (.cells #[.int .i64 k', .int .i64 n', .string { data := t' }] 24)).alloc (.cells #[.int .i64 0, .int .i64 0, .string { data := #[] }] 24)) = w3 at *
  refine (HCX.out w3).mono ?_
  rintro e w4 ⟨rfl, hb4⟩
  have HA4 := Lib.hid ((hb4.block _ (hlt HA.out)).trans HA.out)
  have HBB4 := Lib.hid ((hb4.block _ (hlt HBB.out)).trans HBB.out)
  have HC4 := Lib.hid ((hb4.block _ (hlt HC.out)).trans HC.out)
  have HB4 := Lib.hid (HB.out.trans (hb4.mono HB.out.size))
  obtain ⟨y0, y1, y2⟩ := box3 HBB4.out
  clear hb4 HA HBB HC HB
  go_wp2_with fail
  refine (HCY.out w4).mono ?_
  rintro e w5 ⟨rfl, hb5⟩
  have HA5 := Lib.hid ((hb5.block _ (hlt HA4.out)).trans HA4.out)
  have HBB5 := Lib.hid ((hb5.block _ (hlt HBB4.out)).trans HBB4.out)
  have HC5 := Lib.hid ((hb5.block _ (hlt HC4.out)).trans HC4.out)
  have HB5 := Lib.hid (HB4.out.trans (hb5.mono HB4.out.size))
  clear y0 y1 y2 hb5 HA4 HBB4 HC4 HB4 HCX HCY
  obtain ⟨x0, x1, x2⟩ := box3 HA5.out
  obtain ⟨y0, y1, y2⟩ := box3 HBB5.out
  go_wp2_with fail
  go_quiet (fail)
  go_wp2_with fail
  rename Nat => nqa
  go_quiet (fail)
  go_wp2_with fail
  refine (rb1 _).mono ?_
  rintro e w6 ⟨rfl, hb6⟩
  have HC7 := Lib.hid ((hb6.block _ (hlt HC5.out)).trans HC5.out)
  have HROW := Lib.hid (setRow_at w6 (w.heap.size + 1 + 1) _ #[.int .i64 1, .int .i64 1, .string { data := #[] }] 24 (0, 0) HC7.out)
  have HBE := Lib.hid (setRow_below ((below_drewN HB5.out (nqa + nq)).trans (hb6.mono (below_drewN HB5.out (nqa + nq)).size)) (show w.heap.size ≤ w.heap.size + 1 + 1 by omega) #[.int .i64 1, .int .i64 1, .string { data := #[] }])
  clear hb6
  go_wp2_with (refine wpList_store_row rfl 24 (.tmp 8) (.tmp 150) rfl (w.heap.size + 1 + 1) #[.int .i64 1, .int .i64 1, .string { data := #[] }] rfl rfl 24 _ HC7.out (by rw [size24]; rfl) rfl (by simp [Value.oneCell']) ?_)
  exact bodyPost_ret (v := .tuple #[.agg #[.int .i64 1, .int .i64 1, .string { data := #[] }], .string { data := #[] }]) (res11 _ _ (w.heap.size + 1 + 1) _ rfl HROW.out) rfl ⟨rfl, HBE.out⟩
end Go.Proofs.YthbnhplkoomdhaaDoor
