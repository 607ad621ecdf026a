/- The reference: two values that are the same. -/
import Derived.Test.YthbnhplkoomdhaaDoorRefG
namespace Go.Proofs.YthbnhplkoomdhaaDoor
open Go Go.RowKit
theorem res11 (tmps : Array Value) (w : World) (g : Nat) (cs : Array Value) (hp : tmps.getD 8 undef = .pointer (some ⟨g, 0, none⟩)) (hg : w.heap[g]? = some (.cells cs 24 (0, 0))) (hs : cs.size = 3 := by rfl) :
    (results Tryd.f11 tmps).run Tryd.prog w = .ok (.tuple #[.agg cs, tmps.getD 9 undef]) w := by
  rw [results_cell_tmp Tryd.results11, hp]
  simp only [asAddr, Sem.run_pure, Result.andThen_ok]
  rw [run_loadVar_row (P := Tryd.prog) w g 24 24 cs (0, 0) _ hg Tryd.underlying24 rfl (by rw [size24, hs])]
  rfl
theorem eqv24 (k n k' n' : Int) (t t' : Array UInt8) (w : World) : (Op.equalIn 10000 24 (.agg #[.int .i64 k, .int .i64 n, .string { data := t }]) (.agg #[.int .i64 k', .int .i64 n', .string { data := t' }])).run Tryd.prog w = .ok (same k n { data := t } k' n' { data := t' }) w := by
  have hS : Tryd.prog.underlying 24 = some (.struct (Tryd.prog.fieldsOf 24)) := by kernel_rfl
  have hp : Tryd.prog.stoodInHeld 24 = false := by kernel_rfl
  have z2 := Tryd.sizeOf2
  have z22 := Tryd.sizeOf22
  have z9 := Tryd.sizeOf9
  rw [show (10000 : Nat) = 9999 + 1 from rfl, run_equalIn_agg w 9999 24 _ _ hS hp]
  simp only [Program.fieldsOf, Tryd.underlying24]
  unfold same
  by_cases hk : (k == k') = true
  · by_cases hn : (n == n') = true
    · go_simp
      by_cases ht : (ByteArray.mk t).toList = (ByteArray.mk t').toList <;> simp [ht]
    · have hn' : (n == n') = false := by simpa using hn
      go_simp
  · have hk' : (k == k') = false := by simpa using hk
    go_simp

set_option maxRecDepth 10000 in
set_option maxHeartbeats 2000000 in
theorem ro_eqA (g : Value) (n k' n' : Int) (t t' : Array UInt8) (w : World) (e : (k' == 2) = true) (hcx : ∀ W, Calls Tryd.prog 15 #[.agg #[.int .i64 2, .int .i64 n, .string { data := t }]] W fun e w' => e = .returned (.bool true) ∧ Below W.heap.size W w') (hcy : ∀ W, Calls Tryd.prog 15 #[.agg #[.int .i64 k', .int .i64 n', .string { data := t' }]] W fun e w' => e = .returned (.bool true) ∧ Below W.heap.size W w') (v : Bool) (bn : Int) (hbn : ∀ W, Calls Tryd.prog 21 #[.bool (v)] W fun e w' => e = .returned (valN bn) ∧ Below W.heap.size W w') (hv : same 2 n { data := t } k' n' { data := t' } = v) :
    Calls Tryd.prog 11 #[g, .string { data := #[61, 61] }, .agg #[.int .i64 2, .int .i64 n, .string { data := t }], .agg #[.int .i64 k', .int .i64 n', .string { data := t' }]] w fun e w' => e = .returned (.tuple #[.agg #[.int .i64 1, .int .i64 bn, .string { data := #[] }], .string { data := #[] }]) ∧ Below w.heap.size w w' := by
  obtain ⟨ha, hb, hc, hB⟩ := three w (.cells #[.int .i64 2, .int .i64 n, .string { data := t }] 24) (.cells #[.int .i64 k', .int .i64 n', .string { data := t' }] 24) (.cells #[.int .i64 0, .int .i64 0, .string { data := #[] }] 24)
  have HA := Lib.hid ha
  have HBB := Lib.hid hb
  have HC := Lib.hid hc
  have HB := Lib.hid hB
  have HCX := Lib.hid hcx
  have HCY := Lib.hid hcy
  have HBN := Lib.hid hbn
  clear hbn
  clear ha hb hc hB hcx hcy
  go_enter Tryd.func11, Tryd.ntmps11
  go_wp2_with fail
  generalize (((w.alloc (.cells #[.int .i64 2, .int .i64 n, .string { data := t }] 24)).alloc (.cells #[.int .i64 k', .int .i64 n', .string { data := t' }] 24)).alloc (.cells #[.int .i64 0, .int .i64 0, .string { data := #[] }] 24)) = w3 at *
  refine (HCX.out w3).mono ?_
  rintro e w4 ⟨rfl, hb4⟩
  have HA4 := Lib.hid ((hb4.block _ (hlt HA.out)).trans HA.out)
  have HBB4 := Lib.hid ((hb4.block _ (hlt HBB.out)).trans HBB.out)
  have HC4 := Lib.hid ((hb4.block _ (hlt HC.out)).trans HC.out)
  have HB4 := Lib.hid (HB.out.trans (hb4.mono HB.out.size))
  obtain ⟨y0, y1, y2⟩ := box3 HBB4.out
  clear hb4 HA HBB HC HB
  go_wp2_with fail
  refine (HCY.out w4).mono ?_
  rintro e w5 ⟨rfl, hb5⟩
  have HA5 := Lib.hid ((hb5.block _ (hlt HA4.out)).trans HA4.out)
  have HBB5 := Lib.hid ((hb5.block _ (hlt HBB4.out)).trans HBB4.out)
  have HC5 := Lib.hid ((hb5.block _ (hlt HC4.out)).trans HC4.out)
  have HB5 := Lib.hid (HB4.out.trans (hb5.mono HB4.out.size))
  clear y0 y1 y2 hb5 HA4 HBB4 HC4 HB4 HCX HCY
  obtain ⟨x0, x1, x2⟩ := box3 HA5.out
  obtain ⟨y0, y1, y2⟩ := box3 HBB5.out
  have heq : ∀ W, (Op.equalIn 10000 24 (.agg #[.int .i64 2, .int .i64 n, .string { data := t }]) (.agg #[.int .i64 k', .int .i64 n', .string { data := t' }])).run Tryd.prog W = .ok v W := fun W => by rw [← hv]; exact eqv24 2 n k' n' t t' W
  clear hv
  go_wp2_with fail
  go_quiet (fail)
  go_wp2_with fail
  refine (HBN.out _).mono ?_
  rintro e w6 ⟨rfl, hb6⟩
  have HC7 := Lib.hid ((hb6.block _ (hlt HC5.out)).trans HC5.out)
  have HROW := Lib.hid (setRow_at w6 (w.heap.size + 1 + 1) _ #[.int .i64 1, .int .i64 bn, .string { data := #[] }] 24 (0, 0) HC7.out)
  have HBE := Lib.hid (setRow_below ((below_drewN HB5.out nq).trans (hb6.mono (below_drewN HB5.out nq).size)) (show w.heap.size ≤ w.heap.size + 1 + 1 by omega) #[.int .i64 1, .int .i64 bn, .string { data := #[] }])
  clear hb6
  go_wp2_with (refine wpList_store_row rfl 24 (.tmp 8) (.tmp 49) rfl (w.heap.size + 1 + 1) #[.int .i64 1, .int .i64 bn, .string { data := #[] }] rfl rfl 24 _ HC7.out (by rw [size24]; rfl) rfl (by simp [Value.oneCell']) ?_)
  exact bodyPost_ret (v := .tuple #[.agg #[.int .i64 1, .int .i64 bn, .string { data := #[] }], .string { data := #[] }]) (res11 _ _ (w.heap.size + 1 + 1) _ rfl HROW.out) rfl ⟨rfl, HBE.out⟩

set_option maxRecDepth 10000 in
set_option maxHeartbeats 2000000 in
theorem ro_eqB (g : Value) (n k' n' : Int) (t t' : Array UInt8) (w : World) (e : (k' == 2) = false) (hcx : ∀ W, Calls Tryd.prog 15 #[.agg #[.int .i64 2, .int .i64 n, .string { data := t }]] W fun e w' => e = .returned (.bool true) ∧ Below W.heap.size W w') (hcy : ∀ W, Calls Tryd.prog 15 #[.agg #[.int .i64 k', .int .i64 n', .string { data := t' }]] W fun e w' => e = .returned (.bool true) ∧ Below W.heap.size W w') (v : Bool) (bn : Int) (hbn : ∀ W, Calls Tryd.prog 21 #[.bool (v)] W fun e w' => e = .returned (valN bn) ∧ Below W.heap.size W w') (hv : same 2 n { data := t } k' n' { data := t' } = v) :
    Calls Tryd.prog 11 #[g, .string { data := #[61, 61] }, .agg #[.int .i64 2, .int .i64 n, .string { data := t }], .agg #[.int .i64 k', .int .i64 n', .string { data := t' }]] w fun e w' => e = .returned (.tuple #[.agg #[.int .i64 1, .int .i64 bn, .string { data := #[] }], .string { data := #[] }]) ∧ Below w.heap.size w w' := by
  obtain ⟨ha, hb, hc, hB⟩ := three w (.cells #[.int .i64 2, .int .i64 n, .string { data := t }] 24) (.cells #[.int .i64 k', .int .i64 n', .string { data := t' }] 24) (.cells #[.int .i64 0, .int .i64 0, .string { data := #[] }] 24)
  have HA := Lib.hid ha
  have HBB := Lib.hid hb
  have HC := Lib.hid hc
  have HB := Lib.hid hB
  have HCX := Lib.hid hcx
  have HCY := Lib.hid hcy
  have HBN := Lib.hid hbn
  clear hbn
  clear ha hb hc hB hcx hcy
  go_enter Tryd.func11, Tryd.ntmps11
  go_wp2_with fail
  generalize (((w.alloc (.cells #[.int .i64 2, .int .i64 n, .string { data := t }] 24)).alloc (.cells #[.int .i64 k', .int .i64 n', .string { data := t' }] 24)).alloc (.cells #[.int .i64 0, .int .i64 0, .string { data := #[] }] 24)) = w3 at *
  refine (HCX.out w3).mono ?_
  rintro e w4 ⟨rfl, hb4⟩
  have HA4 := Lib.hid ((hb4.block _ (hlt HA.out)).trans HA.out)
  have HBB4 := Lib.hid ((hb4.block _ (hlt HBB.out)).trans HBB.out)
  have HC4 := Lib.hid ((hb4.block _ (hlt HC.out)).trans HC.out)
  have HB4 := Lib.hid (HB.out.trans (hb4.mono HB.out.size))
  obtain ⟨y0, y1, y2⟩ := box3 HBB4.out
  clear hb4 HA HBB HC HB
  go_wp2_with fail
  refine (HCY.out w4).mono ?_
  rintro e w5 ⟨rfl, hb5⟩
  have HA5 := Lib.hid ((hb5.block _ (hlt HA4.out)).trans HA4.out)
  have HBB5 := Lib.hid ((hb5.block _ (hlt HBB4.out)).trans HBB4.out)
  have HC5 := Lib.hid ((hb5.block _ (hlt HC4.out)).trans HC4.out)
  have HB5 := Lib.hid (HB4.out.trans (hb5.mono HB4.out.size))
  clear y0 y1 y2 hb5 HA4 HBB4 HC4 HB4 HCX HCY
  obtain ⟨x0, x1, x2⟩ := box3 HA5.out
  obtain ⟨y0, y1, y2⟩ := box3 HBB5.out
  have heq : ∀ W, (Op.equalIn 10000 24 (.agg #[.int .i64 2, .int .i64 n, .string { data := t }]) (.agg #[.int .i64 k', .int .i64 n', .string { data := t' }])).run Tryd.prog W = .ok v W := fun W => by rw [← hv]; exact eqv24 2 n k' n' t t' W
  clear hv
  go_wp2_with fail
  go_quiet (fail)
  go_wp2_with fail
  refine (HBN.out _).mono ?_
  rintro e w6 ⟨rfl, hb6⟩
  have HC7 := Lib.hid ((hb6.block _ (hlt HC5.out)).trans HC5.out)
  have HROW := Lib.hid (setRow_at w6 (w.heap.size + 1 + 1) _ #[.int .i64 1, .int .i64 bn, .string { data := #[] }] 24 (0, 0) HC7.out)
  have HBE := Lib.hid (setRow_below ((below_drewN HB5.out nq).trans (hb6.mono (below_drewN HB5.out nq).size)) (show w.heap.size ≤ w.heap.size + 1 + 1 by omega) #[.int .i64 1, .int .i64 bn, .string { data := #[] }])
  clear hb6
  go_wp2_with (refine wpList_store_row rfl 24 (.tmp 8) (.tmp 49) rfl (w.heap.size + 1 + 1) #[.int .i64 1, .int .i64 bn, .string { data := #[] }] rfl rfl 24 _ HC7.out (by rw [size24]; rfl) rfl (by simp [Value.oneCell']) ?_)
  exact bodyPost_ret (v := .tuple #[.agg #[.int .i64 1, .int .i64 bn, .string { data := #[] }], .string { data := #[] }]) (res11 _ _ (w.heap.size + 1 + 1) _ rfl HROW.out) rfl ⟨rfl, HBE.out⟩

set_option maxRecDepth 10000 in
set_option maxHeartbeats 2000000 in
theorem ro_eqC (g : Value) (n k' n' : Int) (t t' : Array UInt8) (w : World) (e : (k' == 3) = true) (hcx : ∀ W, Calls Tryd.prog 15 #[.agg #[.int .i64 3, .int .i64 n, .string { data := t }]] W fun e w' => e = .returned (.bool true) ∧ Below W.heap.size W w') (hcy : ∀ W, Calls Tryd.prog 15 #[.agg #[.int .i64 k', .int .i64 n', .string { data := t' }]] W fun e w' => e = .returned (.bool true) ∧ Below W.heap.size W w') (v : Bool) (bn : Int) (hbn : ∀ W, Calls Tryd.prog 21 #[.bool (v)] W fun e w' => e = .returned (valN bn) ∧ Below W.heap.size W w') (hv : same 3 n { data := t } k' n' { data := t' } = v) :
    Calls Tryd.prog 11 #[g, .string { data := #[61, 61] }, .agg #[.int .i64 3, .int .i64 n, .string { data := t }], .agg #[.int .i64 k', .int .i64 n', .string { data := t' }]] w fun e w' => e = .returned (.tuple #[.agg #[.int .i64 1, .int .i64 bn, .string { data := #[] }], .string { data := #[] }]) ∧ Below w.heap.size w w' := by
  obtain ⟨ha, hb, hc, hB⟩ := three w (.cells #[.int .i64 3, .int .i64 n, .string { data := t }] 24) (.cells #[.int .i64 k', .int .i64 n', .string { data := t' }] 24) (.cells #[.int .i64 0, .int .i64 0, .string { data := #[] }] 24)
  have HA := Lib.hid ha
  have HBB := Lib.hid hb
  have HC := Lib.hid hc
  have HB := Lib.hid hB
  have HCX := Lib.hid hcx
  have HCY := Lib.hid hcy
  have HBN := Lib.hid hbn
  clear hbn
  clear ha hb hc hB hcx hcy
  go_enter Tryd.func11, Tryd.ntmps11
  go_wp2_with fail
  generalize (((w.alloc (.cells #[.int .i64 3, .int .i64 n, .string { data := t }] 24)).alloc (.cells #[.int .i64 k', .int .i64 n', .string { data := t' }] 24)).alloc (.cells #[.int .i64 0, .int .i64 0, .string { data := #[] }] 24)) = w3 at *
  refine (HCX.out w3).mono ?_
  rintro e w4 ⟨rfl, hb4⟩
  have HA4 := Lib.hid ((hb4.block _ (hlt HA.out)).trans HA.out)
  have HBB4 := Lib.hid ((hb4.block _ (hlt HBB.out)).trans HBB.out)
  have HC4 := Lib.hid ((hb4.block _ (hlt HC.out)).trans HC.out)
  have HB4 := Lib.hid (HB.out.trans (hb4.mono HB.out.size))
  obtain ⟨y0, y1, y2⟩ := box3 HBB4.out
  clear hb4 HA HBB HC HB
  go_wp2_with fail
  refine (HCY.out w4).mono ?_
  rintro e w5 ⟨rfl, hb5⟩
  have HA5 := Lib.hid ((hb5.block _ (hlt HA4.out)).trans HA4.out)
  have HBB5 := Lib.hid ((hb5.block _ (hlt HBB4.out)).trans HBB4.out)
  have HC5 := Lib.hid ((hb5.block _ (hlt HC4.out)).trans HC4.out)
  have HB5 := Lib.hid (HB4.out.trans (hb5.mono HB4.out.size))
  clear y0 y1 y2 hb5 HA4 HBB4 HC4 HB4 HCX HCY
  obtain ⟨x0, x1, x2⟩ := box3 HA5.out
  obtain ⟨y0, y1, y2⟩ := box3 HBB5.out
  have heq : ∀ W, (Op.equalIn 10000 24 (.agg #[.int .i64 3, .int .i64 n, .string { data := t }]) (.agg #[.int .i64 k', .int .i64 n', .string { data := t' }])).run Tryd.prog W = .ok v W := fun W => by rw [← hv]; exact eqv24 3 n k' n' t t' W
  clear hv
  go_wp2_with fail
  go_quiet (fail)
  go_wp2_with fail
  refine (HBN.out _).mono ?_
  rintro e w6 ⟨rfl, hb6⟩
  have HC7 := Lib.hid ((hb6.block _ (hlt HC5.out)).trans HC5.out)
  have HROW := Lib.hid (setRow_at w6 (w.heap.size + 1 + 1) _ #[.int .i64 1, .int .i64 bn, .string { data := #[] }] 24 (0, 0) HC7.out)
  have HBE := Lib.hid (setRow_below ((below_drewN HB5.out nq).trans (hb6.mono (below_drewN HB5.out nq).size)) (show w.heap.size ≤ w.heap.size + 1 + 1 by omega) #[.int .i64 1, .int .i64 bn, .string { data := #[] }])
  clear hb6
  go_wp2_with (refine wpList_store_row rfl 24 (.tmp 8) (.tmp 49) rfl (w.heap.size + 1 + 1) #[.int .i64 1, .int .i64 bn, .string { data := #[] }] rfl rfl 24 _ HC7.out (by rw [size24]; rfl) rfl (by simp [Value.oneCell']) ?_)
  exact bodyPost_ret (v := .tuple #[.agg #[.int .i64 1, .int .i64 bn, .string { data := #[] }], .string { data := #[] }]) (res11 _ _ (w.heap.size + 1 + 1) _ rfl HROW.out) rfl ⟨rfl, HBE.out⟩

set_option maxRecDepth 10000 in
set_option maxHeartbeats 2000000 in
theorem ro_eqD (g : Value) (n k' n' : Int) (t t' : Array UInt8) (w : World) (e : (k' == 3) = false) (hcx : ∀ W, Calls Tryd.prog 15 #[.agg #[.int .i64 3, .int .i64 n, .string { data := t }]] W fun e w' => e = .returned (.bool true) ∧ Below W.heap.size W w') (hcy : ∀ W, Calls Tryd.prog 15 #[.agg #[.int .i64 k', .int .i64 n', .string { data := t' }]] W fun e w' => e = .returned (.bool true) ∧ Below W.heap.size W w') (v : Bool) (bn : Int) (hbn : ∀ W, Calls Tryd.prog 21 #[.bool (v)] W fun e w' => e = .returned (valN bn) ∧ Below W.heap.size W w') (hv : same 3 n { data := t } k' n' { data := t' } = v) :
    Calls Tryd.prog 11 #[g, .string { data := #[61, 61] }, .agg #[.int .i64 3, .int .i64 n, .string { data := t }], .agg #[.int .i64 k', .int .i64 n', .string { data := t' }]] w fun e w' => e = .returned (.tuple #[.agg #[.int .i64 1, .int .i64 bn, .string { data := #[] }], .string { data := #[] }]) ∧ Below w.heap.size w w' := by
  obtain ⟨ha, hb, hc, hB⟩ := three w (.cells #[.int .i64 3, .int .i64 n, .string { data := t }] 24) (.cells #[.int .i64 k', .int .i64 n', .string { data := t' }] 24) (.cells #[.int .i64 0, .int .i64 0, .string { data := #[] }] 24)
  have HA := Lib.hid ha
  have HBB := Lib.hid hb
  have HC := Lib.hid hc
  have HB := Lib.hid hB
  have HCX := Lib.hid hcx
  have HCY := Lib.hid hcy
  have HBN := Lib.hid hbn
  clear hbn
  clear ha hb hc hB hcx hcy
  go_enter Tryd.func11, Tryd.ntmps11
  go_wp2_with fail
  generalize (((w.alloc (.cells #[.int .i64 3, .int .i64 n, .string { data := t }] 24)).alloc (.cells #[.int .i64 k', .int .i64 n', .string { data := t' }] 24)).alloc (.cells #[.int .i64 0, .int .i64 0, .string { data := #[] }] 24)) = w3 at *
  refine (HCX.out w3).mono ?_
  rintro e w4 ⟨rfl, hb4⟩
  have HA4 := Lib.hid ((hb4.block _ (hlt HA.out)).trans HA.out)
  have HBB4 := Lib.hid ((hb4.block _ (hlt HBB.out)).trans HBB.out)
  have HC4 := Lib.hid ((hb4.block _ (hlt HC.out)).trans HC.out)
  have HB4 := Lib.hid (HB.out.trans (hb4.mono HB.out.size))
  obtain ⟨y0, y1, y2⟩ := box3 HBB4.out
  clear hb4 HA HBB HC HB
  go_wp2_with fail
  refine (HCY.out w4).mono ?_
  rintro e w5 ⟨rfl, hb5⟩
  have HA5 := Lib.hid ((hb5.block _ (hlt HA4.out)).trans HA4.out)
  have HBB5 := Lib.hid ((hb5.block _ (hlt HBB4.out)).trans HBB4.out)
  have HC5 := Lib.hid ((hb5.block _ (hlt HC4.out)).trans HC4.out)
  have HB5 := Lib.hid (HB4.out.trans (hb5.mono HB4.out.size))
  clear y0 y1 y2 hb5 HA4 HBB4 HC4 HB4 HCX HCY
  obtain ⟨x0, x1, x2⟩ := box3 HA5.out
  obtain ⟨y0, y1, y2⟩ := box3 HBB5.out
  have heq : ∀ W, (Op.equalIn 10000 24 (.agg #[.int .i64 3, .int .i64 n, .string { data := t }]) (.agg #[.int .i64 k', .int .i64 n', .string { data := t' }])).run Tryd.prog W = .ok v W := fun W => by rw [← hv]; exact eqv24 3 n k' n' t t' W
  clear hv
  go_wp2_with fail
  go_quiet (fail)
  go_wp2_with fail
  refine (HBN.out _).mono ?_
  rintro e w6 ⟨rfl, hb6⟩
  have HC7 := Lib.hid ((hb6.block _ (hlt HC5.out)).trans HC5.out)
  have HROW := Lib.hid (setRow_at w6 (w.heap.size + 1 + 1) _ #[.int .i64 1, .int .i64 bn, .string { data := #[] }] 24 (0, 0) HC7.out)
  have HBE := Lib.hid (setRow_below ((below_drewN HB5.out nq).trans (hb6.mono (below_drewN HB5.out nq).size)) (show w.heap.size ≤ w.heap.size + 1 + 1 by omega) #[.int .i64 1, .int .i64 bn, .string { data := #[] }])
  clear hb6
  go_wp2_with (refine wpList_store_row rfl 24 (.tmp 8) (.tmp 49) rfl (w.heap.size + 1 + 1) #[.int .i64 1, .int .i64 bn, .string { data := #[] }] rfl rfl 24 _ HC7.out (by rw [size24]; rfl) rfl (by simp [Value.oneCell']) ?_)
  exact bodyPost_ret (v := .tuple #[.agg #[.int .i64 1, .int .i64 bn, .string { data := #[] }], .string { data := #[] }]) (res11 _ _ (w.heap.size + 1 + 1) _ rfl HROW.out) rfl ⟨rfl, HBE.out⟩

set_option maxRecDepth 10000 in
set_option maxHeartbeats 2000000 in
theorem ro_eqE (g : Value) (k n k' n' : Int) (t t' : Array UInt8) (w : World) (e : (k == 2) = false) (e3 : (k == 3) = false) (hcx : ∀ W, Calls Tryd.prog 15 #[.agg #[.int .i64 k, .int .i64 n, .string { data := t }]] W fun e w' => e = .returned (.bool true) ∧ Below W.heap.size W w') (hcy : ∀ W, Calls Tryd.prog 15 #[.agg #[.int .i64 k', .int .i64 n', .string { data := t' }]] W fun e w' => e = .returned (.bool true) ∧ Below W.heap.size W w') (v : Bool) (bn : Int) (hbn : ∀ W, Calls Tryd.prog 21 #[.bool (v)] W fun e w' => e = .returned (valN bn) ∧ Below W.heap.size W w') (hv : same k n { data := t } k' n' { data := t' } = v) :
    Calls Tryd.prog 11 #[g, .string { data := #[61, 61] }, .agg #[.int .i64 k, .int .i64 n, .string { data := t }], .agg #[.int .i64 k', .int .i64 n', .string { data := t' }]] w fun e w' => e = .returned (.tuple #[.agg #[.int .i64 1, .int .i64 bn, .string { data := #[] }], .string { data := #[] }]) ∧ Below w.heap.size w w' := by
  obtain ⟨ha, hb, hc, hB⟩ := three w (.cells #[.int .i64 k, .int .i64 n, .string { data := t }] 24) (.cells #[.int .i64 k', .int .i64 n', .string { data := t' }] 24) (.cells #[.int .i64 0, .int .i64 0, .string { data := #[] }] 24)
  have HA := Lib.hid ha
  have HBB := Lib.hid hb
  have HC := Lib.hid hc
  have HB := Lib.hid hB
  have HCX := Lib.hid hcx
  have HCY := Lib.hid hcy
  have HBN := Lib.hid hbn
  clear hbn
  clear ha hb hc hB hcx hcy
  go_enter Tryd.func11, Tryd.ntmps11
  go_wp2_with fail
  generalize (((w.alloc (.cells #[.int .i64 k, .int .i64 n, .string { data := t }] 24)).alloc (.cells #[.int .i64 k', .int .i64 n', .string { data := t' }] 24)).alloc (.cells #[.int .i64 0, .int .i64 0, .string { data := #[] }] 24)) = w3 at *
  refine (HCX.out w3).mono ?_
  rintro e w4 ⟨rfl, hb4⟩
  have HA4 := Lib.hid ((hb4.block _ (hlt HA.out)).trans HA.out)
  have HBB4 := Lib.hid ((hb4.block _ (hlt HBB.out)).trans HBB.out)
  have HC4 := Lib.hid ((hb4.block _ (hlt HC.out)).trans HC.out)
  have HB4 := Lib.hid (HB.out.trans (hb4.mono HB.out.size))
  obtain ⟨y0, y1, y2⟩ := box3 HBB4.out
  clear hb4 HA HBB HC HB
  go_wp2_with fail
  refine (HCY.out w4).mono ?_
  rintro e w5 ⟨rfl, hb5⟩
  have HA5 := Lib.hid ((hb5.block _ (hlt HA4.out)).trans HA4.out)
  have HBB5 := Lib.hid ((hb5.block _ (hlt HBB4.out)).trans HBB4.out)
  have HC5 := Lib.hid ((hb5.block _ (hlt HC4.out)).trans HC4.out)
  have HB5 := Lib.hid (HB4.out.trans (hb5.mono HB4.out.size))
  clear y0 y1 y2 hb5 HA4 HBB4 HC4 HB4 HCX HCY
  obtain ⟨x0, x1, x2⟩ := box3 HA5.out
  obtain ⟨y0, y1, y2⟩ := box3 HBB5.out
  have heq : ∀ W, (Op.equalIn 10000 24 (.agg #[.int .i64 k, .int .i64 n, .string { data := t }]) (.agg #[.int .i64 k', .int .i64 n', .string { data := t' }])).run Tryd.prog W = .ok v W := fun W => by rw [← hv]; exact eqv24 k n k' n' t t' W
  clear hv
  go_wp2_with fail
  go_quiet (fail)
  go_wp2_with fail
  refine (HBN.out _).mono ?_
  rintro e w6 ⟨rfl, hb6⟩
  have HC7 := Lib.hid ((hb6.block _ (hlt HC5.out)).trans HC5.out)
  have HROW := Lib.hid (setRow_at w6 (w.heap.size + 1 + 1) _ #[.int .i64 1, .int .i64 bn, .string { data := #[] }] 24 (0, 0) HC7.out)
  have HBE := Lib.hid (setRow_below ((below_drewN HB5.out nq).trans (hb6.mono (below_drewN HB5.out nq).size)) (show w.heap.size ≤ w.heap.size + 1 + 1 by omega) #[.int .i64 1, .int .i64 bn, .string { data := #[] }])
  clear hb6
  go_wp2_with (refine wpList_store_row rfl 24 (.tmp 8) (.tmp 49) rfl (w.heap.size + 1 + 1) #[.int .i64 1, .int .i64 bn, .string { data := #[] }] rfl rfl 24 _ HC7.out (by rw [size24]; rfl) rfl (by simp [Value.oneCell']) ?_)
  exact bodyPost_ret (v := .tuple #[.agg #[.int .i64 1, .int .i64 bn, .string { data := #[] }], .string { data := #[] }]) (res11 _ _ (w.heap.size + 1 + 1) _ rfl HROW.out) rfl ⟨rfl, HBE.out⟩

set_option maxRecDepth 10000 in
set_option maxHeartbeats 2000000 in
theorem ro_neA (g : Value) (n k' n' : Int) (t t' : Array UInt8) (w : World) (e : (k' == 2) = true) (hcx : ∀ W, Calls Tryd.prog 15 #[.agg #[.int .i64 2, .int .i64 n, .string { data := t }]] W fun e w' => e = .returned (.bool true) ∧ Below W.heap.size W w') (hcy : ∀ W, Calls Tryd.prog 15 #[.agg #[.int .i64 k', .int .i64 n', .string { data := t' }]] W fun e w' => e = .returned (.bool true) ∧ Below W.heap.size W w') (v : Bool) (bn : Int) (hbn : ∀ W, Calls Tryd.prog 21 #[.bool (!v)] W fun e w' => e = .returned (valN bn) ∧ Below W.heap.size W w') (hv : same 2 n { data := t } k' n' { data := t' } = v) :
    Calls Tryd.prog 11 #[g, .string { data := #[126, 61] }, .agg #[.int .i64 2, .int .i64 n, .string { data := t }], .agg #[.int .i64 k', .int .i64 n', .string { data := t' }]] w fun e w' => e = .returned (.tuple #[.agg #[.int .i64 1, .int .i64 bn, .string { data := #[] }], .string { data := #[] }]) ∧ Below w.heap.size w w' := by
  obtain ⟨ha, hb, hc, hB⟩ := three w (.cells #[.int .i64 2, .int .i64 n, .string { data := t }] 24) (.cells #[.int .i64 k', .int .i64 n', .string { data := t' }] 24) (.cells #[.int .i64 0, .int .i64 0, .string { data := #[] }] 24)
  have HA := Lib.hid ha
  have HBB := Lib.hid hb
  have HC := Lib.hid hc
  have HB := Lib.hid hB
  have HCX := Lib.hid hcx
  have HCY := Lib.hid hcy
  have HBN := Lib.hid hbn
  clear hbn
  clear ha hb hc hB hcx hcy
  go_enter Tryd.func11, Tryd.ntmps11
  go_wp2_with fail
  generalize (((w.alloc (.cells #[.int .i64 2, .int .i64 n, .string { data := t }] 24)).alloc (.cells #[.int .i64 k', .int .i64 n', .string { data := t' }] 24)).alloc (.cells #[.int .i64 0, .int .i64 0, .string { data := #[] }] 24)) = w3 at *
  refine (HCX.out w3).mono ?_
  rintro e w4 ⟨rfl, hb4⟩
  have HA4 := Lib.hid ((hb4.block _ (hlt HA.out)).trans HA.out)
  have HBB4 := Lib.hid ((hb4.block _ (hlt HBB.out)).trans HBB.out)
  have HC4 := Lib.hid ((hb4.block _ (hlt HC.out)).trans HC.out)
  have HB4 := Lib.hid (HB.out.trans (hb4.mono HB.out.size))
  obtain ⟨y0, y1, y2⟩ := box3 HBB4.out
  clear hb4 HA HBB HC HB
  go_wp2_with fail
  refine (HCY.out w4).mono ?_
  rintro e w5 ⟨rfl, hb5⟩
  have HA5 := Lib.hid ((hb5.block _ (hlt HA4.out)).trans HA4.out)
  have HBB5 := Lib.hid ((hb5.block _ (hlt HBB4.out)).trans HBB4.out)
  have HC5 := Lib.hid ((hb5.block _ (hlt HC4.out)).trans HC4.out)
  have HB5 := Lib.hid (HB4.out.trans (hb5.mono HB4.out.size))
  clear y0 y1 y2 hb5 HA4 HBB4 HC4 HB4 HCX HCY
  obtain ⟨x0, x1, x2⟩ := box3 HA5.out
  obtain ⟨y0, y1, y2⟩ := box3 HBB5.out
  have heq : ∀ W, (Op.equalIn 10000 24 (.agg #[.int .i64 2, .int .i64 n, .string { data := t }]) (.agg #[.int .i64 k', .int .i64 n', .string { data := t' }])).run Tryd.prog W = .ok v W := fun W => by rw [← hv]; exact eqv24 2 n k' n' t t' W
  clear hv
  go_wp2_with fail
  go_quiet (fail)
  go_wp2_with fail
  refine (HBN.out _).mono ?_
  rintro e w6 ⟨rfl, hb6⟩
  have HC7 := Lib.hid ((hb6.block _ (hlt HC5.out)).trans HC5.out)
  have HROW := Lib.hid (setRow_at w6 (w.heap.size + 1 + 1) _ #[.int .i64 1, .int .i64 bn, .string { data := #[] }] 24 (0, 0) HC7.out)
  have HBE := Lib.hid (setRow_below ((below_drewN HB5.out nq).trans (hb6.mono (below_drewN HB5.out nq).size)) (show w.heap.size ≤ w.heap.size + 1 + 1 by omega) #[.int .i64 1, .int .i64 bn, .string { data := #[] }])
  clear hb6
  go_wp2_with (refine wpList_store_row rfl 24 (.tmp 8) (.tmp 55) rfl (w.heap.size + 1 + 1) #[.int .i64 1, .int .i64 bn, .string { data := #[] }] rfl rfl 24 _ HC7.out (by rw [size24]; rfl) rfl (by simp [Value.oneCell']) ?_)
  exact bodyPost_ret (v := .tuple #[.agg #[.int .i64 1, .int .i64 bn, .string { data := #[] }], .string { data := #[] }]) (res11 _ _ (w.heap.size + 1 + 1) _ rfl HROW.out) rfl ⟨rfl, HBE.out⟩

set_option maxRecDepth 10000 in
set_option maxHeartbeats 2000000 in
theorem ro_neB (g : Value) (n k' n' : Int) (t t' : Array UInt8) (w : World) (e : (k' == 2) = false) (hcx : ∀ W, Calls Tryd.prog 15 #[.agg #[.int .i64 2, .int .i64 n, .string { data := t }]] W fun e w' => e = .returned (.bool true) ∧ Below W.heap.size W w') (hcy : ∀ W, Calls Tryd.prog 15 #[.agg #[.int .i64 k', .int .i64 n', .string { data := t' }]] W fun e w' => e = .returned (.bool true) ∧ Below W.heap.size W w') (v : Bool) (bn : Int) (hbn : ∀ W, Calls Tryd.prog 21 #[.bool (!v)] W fun e w' => e = .returned (valN bn) ∧ Below W.heap.size W w') (hv : same 2 n { data := t } k' n' { data := t' } = v) :
    Calls Tryd.prog 11 #[g, .string { data := #[126, 61] }, .agg #[.int .i64 2, .int .i64 n, .string { data := t }], .agg #[.int .i64 k', .int .i64 n', .string { data := t' }]] w fun e w' => e = .returned (.tuple #[.agg #[.int .i64 1, .int .i64 bn, .string { data := #[] }], .string { data := #[] }]) ∧ Below w.heap.size w w' := by
  obtain ⟨ha, hb, hc, hB⟩ := three w (.cells #[.int .i64 2, .int .i64 n, .string { data := t }] 24) (.cells #[.int .i64 k', .int .i64 n', .string { data := t' }] 24) (.cells #[.int .i64 0, .int .i64 0, .string { data := #[] }] 24)
  have HA := Lib.hid ha
  have HBB := Lib.hid hb
  have HC := Lib.hid hc
  have HB := Lib.hid hB
  have HCX := Lib.hid hcx
  have HCY := Lib.hid hcy
  have HBN := Lib.hid hbn
  clear hbn
  clear ha hb hc hB hcx hcy
  go_enter Tryd.func11, Tryd.ntmps11
  go_wp2_with fail
  generalize (((w.alloc (.cells #[.int .i64 2, .int .i64 n, .string { data := t }] 24)).alloc (.cells #[.int .i64 k', .int .i64 n', .string { data := t' }] 24)).alloc (.cells #[.int .i64 0, .int .i64 0, .string { data := #[] }] 24)) = w3 at *
  refine (HCX.out w3).mono ?_
  rintro e w4 ⟨rfl, hb4⟩
  have HA4 := Lib.hid ((hb4.block _ (hlt HA.out)).trans HA.out)
  have HBB4 := Lib.hid ((hb4.block _ (hlt HBB.out)).trans HBB.out)
  have HC4 := Lib.hid ((hb4.block _ (hlt HC.out)).trans HC.out)
  have HB4 := Lib.hid (HB.out.trans (hb4.mono HB.out.size))
  obtain ⟨y0, y1, y2⟩ := box3 HBB4.out
  clear hb4 HA HBB HC HB
  go_wp2_with fail
  refine (HCY.out w4).mono ?_
  rintro e w5 ⟨rfl, hb5⟩
  have HA5 := Lib.hid ((hb5.block _ (hlt HA4.out)).trans HA4.out)
  have HBB5 := Lib.hid ((hb5.block _ (hlt HBB4.out)).trans HBB4.out)
  have HC5 := Lib.hid ((hb5.block _ (hlt HC4.out)).trans HC4.out)
  have HB5 := Lib.hid (HB4.out.trans (hb5.mono HB4.out.size))
  clear y0 y1 y2 hb5 HA4 HBB4 HC4 HB4 HCX HCY
  obtain ⟨x0, x1, x2⟩ := box3 HA5.out
  obtain ⟨y0, y1, y2⟩ := box3 HBB5.out
  have heq : ∀ W, (Op.equalIn 10000 24 (.agg #[.int .i64 2, .int .i64 n, .string { data := t }]) (.agg #[.int .i64 k', .int .i64 n', .string { data := t' }])).run Tryd.prog W = .ok v W := fun W => by rw [← hv]; exact eqv24 2 n k' n' t t' W
  clear hv
  go_wp2_with fail
  go_quiet (fail)
  go_wp2_with fail
  refine (HBN.out _).mono ?_
  rintro e w6 ⟨rfl, hb6⟩
  have HC7 := Lib.hid ((hb6.block _ (hlt HC5.out)).trans HC5.out)
  have HROW := Lib.hid (setRow_at w6 (w.heap.size + 1 + 1) _ #[.int .i64 1, .int .i64 bn, .string { data := #[] }] 24 (0, 0) HC7.out)
  have HBE := Lib.hid (setRow_below ((below_drewN HB5.out nq).trans (hb6.mono (below_drewN HB5.out nq).size)) (show w.heap.size ≤ w.heap.size + 1 + 1 by omega) #[.int .i64 1, .int .i64 bn, .string { data := #[] }])
  clear hb6
  go_wp2_with (refine wpList_store_row rfl 24 (.tmp 8) (.tmp 55) rfl (w.heap.size + 1 + 1) #[.int .i64 1, .int .i64 bn, .string { data := #[] }] rfl rfl 24 _ HC7.out (by rw [size24]; rfl) rfl (by simp [Value.oneCell']) ?_)
  exact bodyPost_ret (v := .tuple #[.agg #[.int .i64 1, .int .i64 bn, .string { data := #[] }], .string { data := #[] }]) (res11 _ _ (w.heap.size + 1 + 1) _ rfl HROW.out) rfl ⟨rfl, HBE.out⟩

set_option maxRecDepth 10000 in
set_option maxHeartbeats 2000000 in
theorem ro_neC (g : Value) (n k' n' : Int) (t t' : Array UInt8) (w : World) (e : (k' == 3) = true) (hcx : ∀ W, Calls Tryd.prog 15 #[.agg #[.int .i64 3, .int .i64 n, .string { data := t }]] W fun e w' => e = .returned (.bool true) ∧ Below W.heap.size W w') (hcy : ∀ W, Calls Tryd.prog 15 #[.agg #[.int .i64 k', .int .i64 n', .string { data := t' }]] W fun e w' => e = .returned (.bool true) ∧ Below W.heap.size W w') (v : Bool) (bn : Int) (hbn : ∀ W, Calls Tryd.prog 21 #[.bool (!v)] W fun e w' => e = .returned (valN bn) ∧ Below W.heap.size W w') (hv : same 3 n { data := t } k' n' { data := t' } = v) :
    Calls Tryd.prog 11 #[g, .string { data := #[126, 61] }, .agg #[.int .i64 3, .int .i64 n, .string { data := t }], .agg #[.int .i64 k', .int .i64 n', .string { data := t' }]] w fun e w' => e = .returned (.tuple #[.agg #[.int .i64 1, .int .i64 bn, .string { data := #[] }], .string { data := #[] }]) ∧ Below w.heap.size w w' := by
  obtain ⟨ha, hb, hc, hB⟩ := three w (.cells #[.int .i64 3, .int .i64 n, .string { data := t }] 24) (.cells #[.int .i64 k', .int .i64 n', .string { data := t' }] 24) (.cells #[.int .i64 0, .int .i64 0, .string { data := #[] }] 24)
  have HA := Lib.hid ha
  have HBB := Lib.hid hb
  have HC := Lib.hid hc
  have HB := Lib.hid hB
  have HCX := Lib.hid hcx
  have HCY := Lib.hid hcy
  have HBN := Lib.hid hbn
  clear hbn
  clear ha hb hc hB hcx hcy
  go_enter Tryd.func11, Tryd.ntmps11
  go_wp2_with fail
  generalize (((w.alloc (.cells #[.int .i64 3, .int .i64 n, .string { data := t }] 24)).alloc (.cells #[.int .i64 k', .int .i64 n', .string { data := t' }] 24)).alloc (.cells #[.int .i64 0, .int .i64 0, .string { data := #[] }] 24)) = w3 at *
  refine (HCX.out w3).mono ?_
  rintro e w4 ⟨rfl, hb4⟩
  have HA4 := Lib.hid ((hb4.block _ (hlt HA.out)).trans HA.out)
  have HBB4 := Lib.hid ((hb4.block _ (hlt HBB.out)).trans HBB.out)
  have HC4 := Lib.hid ((hb4.block _ (hlt HC.out)).trans HC.out)
  have HB4 := Lib.hid (HB.out.trans (hb4.mono HB.out.size))
  obtain ⟨y0, y1, y2⟩ := box3 HBB4.out
  clear hb4 HA HBB HC HB
  go_wp2_with fail
  refine (HCY.out w4).mono ?_
  rintro e w5 ⟨rfl, hb5⟩
  have HA5 := Lib.hid ((hb5.block _ (hlt HA4.out)).trans HA4.out)
  have HBB5 := Lib.hid ((hb5.block _ (hlt HBB4.out)).trans HBB4.out)
  have HC5 := Lib.hid ((hb5.block _ (hlt HC4.out)).trans HC4.out)
  have HB5 := Lib.hid (HB4.out.trans (hb5.mono HB4.out.size))
  clear y0 y1 y2 hb5 HA4 HBB4 HC4 HB4 HCX HCY
  obtain ⟨x0, x1, x2⟩ := box3 HA5.out
  obtain ⟨y0, y1, y2⟩ := box3 HBB5.out
  have heq : ∀ W, (Op.equalIn 10000 24 (.agg #[.int .i64 3, .int .i64 n, .string { data := t }]) (.agg #[.int .i64 k', .int .i64 n', .string { data := t' }])).run Tryd.prog W = .ok v W := fun W => by rw [← hv]; exact eqv24 3 n k' n' t t' W
  clear hv
  go_wp2_with fail
  go_quiet (fail)
  go_wp2_with fail
  refine (HBN.out _).mono ?_
  rintro e w6 ⟨rfl, hb6⟩
  have HC7 := Lib.hid ((hb6.block _ (hlt HC5.out)).trans HC5.out)
  have HROW := Lib.hid (setRow_at w6 (w.heap.size + 1 + 1) _ #[.int .i64 1, .int .i64 bn, .string { data := #[] }] 24 (0, 0) HC7.out)
  have HBE := Lib.hid (setRow_below ((below_drewN HB5.out nq).trans (hb6.mono (below_drewN HB5.out nq).size)) (show w.heap.size ≤ w.heap.size + 1 + 1 by omega) #[.int .i64 1, .int .i64 bn, .string { data := #[] }])
  clear hb6
  go_wp2_with (refine wpList_store_row rfl 24 (.tmp 8) (.tmp 55) rfl (w.heap.size + 1 + 1) #[.int .i64 1, .int .i64 bn, .string { data := #[] }] rfl rfl 24 _ HC7.out (by rw [size24]; rfl) rfl (by simp [Value.oneCell']) ?_)
  exact bodyPost_ret (v := .tuple #[.agg #[.int .i64 1, .int .i64 bn, .string { data := #[] }], .string { data := #[] }]) (res11 _ _ (w.heap.size + 1 + 1) _ rfl HROW.out) rfl ⟨rfl, HBE.out⟩

set_option maxRecDepth 10000 in
set_option maxHeartbeats 2000000 in
theorem ro_neD (g : Value) (n k' n' : Int) (t t' : Array UInt8) (w : World) (e : (k' == 3) = false) (hcx : ∀ W, Calls Tryd.prog 15 #[.agg #[.int .i64 3, .int .i64 n, .string { data := t }]] W fun e w' => e = .returned (.bool true) ∧ Below W.heap.size W w') (hcy : ∀ W, Calls Tryd.prog 15 #[.agg #[.int .i64 k', .int .i64 n', .string { data := t' }]] W fun e w' => e = .returned (.bool true) ∧ Below W.heap.size W w') (v : Bool) (bn : Int) (hbn : ∀ W, Calls Tryd.prog 21 #[.bool (!v)] W fun e w' => e = .returned (valN bn) ∧ Below W.heap.size W w') (hv : same 3 n { data := t } k' n' { data := t' } = v) :
    Calls Tryd.prog 11 #[g, .string { data := #[126, 61] }, .agg #[.int .i64 3, .int .i64 n, .string { data := t }], .agg #[.int .i64 k', .int .i64 n', .string { data := t' }]] w fun e w' => e = .returned (.tuple #[.agg #[.int .i64 1, .int .i64 bn, .string { data := #[] }], .string { data := #[] }]) ∧ Below w.heap.size w w' := by
  obtain ⟨ha, hb, hc, hB⟩ := three w (.cells #[.int .i64 3, .int .i64 n, .string { data := t }] 24) (.cells #[.int .i64 k', .int .i64 n', .string { data := t' }] 24) (.cells #[.int .i64 0, .int .i64 0, .string { data := #[] }] 24)
  have HA := Lib.hid ha
  have HBB := Lib.hid hb
  have HC := Lib.hid hc
  have HB := Lib.hid hB
  have HCX := Lib.hid hcx
  have HCY := Lib.hid hcy
  have HBN := Lib.hid hbn
  clear hbn
  clear ha hb hc hB hcx hcy
  go_enter Tryd.func11, Tryd.ntmps11
  go_wp2_with fail
  generalize (((w.alloc (.cells #[.int .i64 3, .int .i64 n, .string { data := t }] 24)).alloc (.cells #[.int .i64 k', .int .i64 n', .string { data := t' }] 24)).alloc (.cells #[.int .i64 0, .int .i64 0, .string { data := #[] }] 24)) = w3 at *
  refine (HCX.out w3).mono ?_
  rintro e w4 ⟨rfl, hb4⟩
  have HA4 := Lib.hid ((hb4.block _ (hlt HA.out)).trans HA.out)
  have HBB4 := Lib.hid ((hb4.block _ (hlt HBB.out)).trans HBB.out)
  have HC4 := Lib.hid ((hb4.block _ (hlt HC.out)).trans HC.out)
  have HB4 := Lib.hid (HB.out.trans (hb4.mono HB.out.size))
  obtain ⟨y0, y1, y2⟩ := box3 HBB4.out
  clear hb4 HA HBB HC HB
  go_wp2_with fail
  refine (HCY.out w4).mono ?_
  rintro e w5 ⟨rfl, hb5⟩
  have HA5 := Lib.hid ((hb5.block _ (hlt HA4.out)).trans HA4.out)
  have HBB5 := Lib.hid ((hb5.block _ (hlt HBB4.out)).trans HBB4.out)
  have HC5 := Lib.hid ((hb5.block _ (hlt HC4.out)).trans HC4.out)
  have HB5 := Lib.hid (HB4.out.trans (hb5.mono HB4.out.size))
  clear y0 y1 y2 hb5 HA4 HBB4 HC4 HB4 HCX HCY
  obtain ⟨x0, x1, x2⟩ := box3 HA5.out
  obtain ⟨y0, y1, y2⟩ := box3 HBB5.out
  have heq : ∀ W, (Op.equalIn 10000 24 (.agg #[.int .i64 3, .int .i64 n, .string { data := t }]) (.agg #[.int .i64 k', .int .i64 n', .string { data := t' }])).run Tryd.prog W = .ok v W := fun W => by rw [← hv]; exact eqv24 3 n k' n' t t' W
  clear hv
  go_wp2_with fail
  go_quiet (fail)
  go_wp2_with fail
  refine (HBN.out _).mono ?_
  rintro e w6 ⟨rfl, hb6⟩
  have HC7 := Lib.hid ((hb6.block _ (hlt HC5.out)).trans HC5.out)
  have HROW := Lib.hid (setRow_at w6 (w.heap.size + 1 + 1) _ #[.int .i64 1, .int .i64 bn, .string { data := #[] }] 24 (0, 0) HC7.out)
  have HBE := Lib.hid (setRow_below ((below_drewN HB5.out nq).trans (hb6.mono (below_drewN HB5.out nq).size)) (show w.heap.size ≤ w.heap.size + 1 + 1 by omega) #[.int .i64 1, .int .i64 bn, .string { data := #[] }])
  clear hb6
  go_wp2_with (refine wpList_store_row rfl 24 (.tmp 8) (.tmp 55) rfl (w.heap.size + 1 + 1) #[.int .i64 1, .int .i64 bn, .string { data := #[] }] rfl rfl 24 _ HC7.out (by rw [size24]; rfl) rfl (by simp [Value.oneCell']) ?_)
  exact bodyPost_ret (v := .tuple #[.agg #[.int .i64 1, .int .i64 bn, .string { data := #[] }], .string { data := #[] }]) (res11 _ _ (w.heap.size + 1 + 1) _ rfl HROW.out) rfl ⟨rfl, HBE.out⟩

set_option maxRecDepth 10000 in
set_option maxHeartbeats 2000000 in
theorem ro_neE (g : Value) (k n k' n' : Int) (t t' : Array UInt8) (w : World) (e : (k == 2) = false) (e3 : (k == 3) = false) (hcx : ∀ W, Calls Tryd.prog 15 #[.agg #[.int .i64 k, .int .i64 n, .string { data := t }]] W fun e w' => e = .returned (.bool true) ∧ Below W.heap.size W w') (hcy : ∀ W, Calls Tryd.prog 15 #[.agg #[.int .i64 k', .int .i64 n', .string { data := t' }]] W fun e w' => e = .returned (.bool true) ∧ Below W.heap.size W w') (v : Bool) (bn : Int) (hbn : ∀ W, Calls Tryd.prog 21 #[.bool (!v)] W fun e w' => e = .returned (valN bn) ∧ Below W.heap.size W w') (hv : same k n { data := t } k' n' { data := t' } = v) :
    Calls Tryd.prog 11 #[g, .string { data := #[126, 61] }, .agg #[.int .i64 k, .int .i64 n, .string { data := t }], .agg #[.int .i64 k', .int .i64 n', .string { data := t' }]] w fun e w' => e = .returned (.tuple #[.agg #[.int .i64 1, .int .i64 bn, .string { data := #[] }], .string { data := #[] }]) ∧ Below w.heap.size w w' := by
  obtain ⟨ha, hb, hc, hB⟩ := three w (.cells #[.int .i64 k, .int .i64 n, .string { data := t }] 24) (.cells #[.int .i64 k', .int .i64 n', .string { data := t' }] 24) (.cells #[.int .i64 0, .int .i64 0, .string { data := #[] }] 24)
  have HA := Lib.hid ha
  have HBB := Lib.hid hb
  have HC := Lib.hid hc
  have HB := Lib.hid hB
  have HCX := Lib.hid hcx
  have HCY := Lib.hid hcy
  have HBN := Lib.hid hbn
  clear hbn
  clear ha hb hc hB hcx hcy
  go_enter Tryd.func11, Tryd.ntmps11
  go_wp2_with fail
  generalize (((w.alloc (.cells #[.int .i64 k, .int .i64 n, .string { data := t }] 24)).alloc (.cells #[.int .i64 k', .int .i64 n', .string { data := t' }] 24)).alloc (.cells #[.int .i64 0, .int .i64 0, .string { data := #[] }] 24)) = w3 at *
  refine (HCX.out w3).mono ?_
  rintro e w4 ⟨rfl, hb4⟩
  have HA4 := Lib.hid ((hb4.block _ (hlt HA.out)).trans HA.out)
  have HBB4 := Lib.hid ((hb4.block _ (hlt HBB.out)).trans HBB.out)
  have HC4 := Lib.hid ((hb4.block _ (hlt HC.out)).trans HC.out)
  have HB4 := Lib.hid (HB.out.trans (hb4.mono HB.out.size))
  obtain ⟨y0, y1, y2⟩ := box3 HBB4.out
  clear hb4 HA HBB HC HB
  go_wp2_with fail
  refine (HCY.out w4).mono ?_
  rintro e w5 ⟨rfl, hb5⟩
  have HA5 := Lib.hid ((hb5.block _ (hlt HA4.out)).trans HA4.out)
  have HBB5 := Lib.hid ((hb5.block _ (hlt HBB4.out)).trans HBB4.out)
  have HC5 := Lib.hid ((hb5.block _ (hlt HC4.out)).trans HC4.out)
  have HB5 := Lib.hid (HB4.out.trans (hb5.mono HB4.out.size))
  clear y0 y1 y2 hb5 HA4 HBB4 HC4 HB4 HCX HCY
  obtain ⟨x0, x1, x2⟩ := box3 HA5.out
  obtain ⟨y0, y1, y2⟩ := box3 HBB5.out
  have heq : ∀ W, (Op.equalIn 10000 24 (.agg #[.int .i64 k, .int .i64 n, .string { data := t }]) (.agg #[.int .i64 k', .int .i64 n', .string { data := t' }])).run Tryd.prog W = .ok v W := fun W => by rw [← hv]; exact eqv24 k n k' n' t t' W
  clear hv
  go_wp2_with fail
  go_quiet (fail)
  go_wp2_with fail
  refine (HBN.out _).mono ?_
  rintro e w6 ⟨rfl, hb6⟩
  have HC7 := Lib.hid ((hb6.block _ (hlt HC5.out)).trans HC5.out)
  have HROW := Lib.hid (setRow_at w6 (w.heap.size + 1 + 1) _ #[.int .i64 1, .int .i64 bn, .string { data := #[] }] 24 (0, 0) HC7.out)
  have HBE := Lib.hid (setRow_below ((below_drewN HB5.out nq).trans (hb6.mono (below_drewN HB5.out nq).size)) (show w.heap.size ≤ w.heap.size + 1 + 1 by omega) #[.int .i64 1, .int .i64 bn, .string { data := #[] }])
  clear hb6
  go_wp2_with (refine wpList_store_row rfl 24 (.tmp 8) (.tmp 55) rfl (w.heap.size + 1 + 1) #[.int .i64 1, .int .i64 bn, .string { data := #[] }] rfl rfl 24 _ HC7.out (by rw [size24]; rfl) rfl (by simp [Value.oneCell']) ?_)
  exact bodyPost_ret (v := .tuple #[.agg #[.int .i64 1, .int .i64 bn, .string { data := #[] }], .string { data := #[] }]) (res11 _ _ (w.heap.size + 1 + 1) _ rfl HROW.out) rfl ⟨rfl, HBE.out⟩
end Go.Proofs.YthbnhplkoomdhaaDoor
