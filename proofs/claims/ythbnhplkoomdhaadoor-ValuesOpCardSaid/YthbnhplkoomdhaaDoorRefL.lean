/- The reference: what may not be; what is no operator. -/
import Derived.Test.YthbnhplkoomdhaaDoorRefH
namespace Go.Proofs.YthbnhplkoomdhaaDoor
open Go Go.RowKit
set_option maxRecDepth 10000 in
set_option maxHeartbeats 2000000 in
theorem ro_bad1 (g : Value) (k n k' n' : Int) (t t' : Array UInt8) (w : World) (hcx : ∀ W, Calls Tryd.prog 15 #[.agg #[.int .i64 k, .int .i64 n, .string { data := t }]] W fun e w' => e = .returned (.bool false) ∧ Below W.heap.size W w') (op : Array UInt8) :
    Calls Tryd.prog 11 #[g, .string { data := op }, .agg #[.int .i64 k, .int .i64 n, .string { data := t }], .agg #[.int .i64 k', .int .i64 n', .string { data := t' }]] w fun e w' => e = .returned (.tuple #[.agg #[.int .i64 0, .int .i64 0, .string { data := #[] }], .string { data := #[116, 121, 112, 101] }]) ∧ Below w.heap.size w w' := by
  obtain ⟨ha, hb, hc, hB⟩ := three w (.cells #[.int .i64 k, .int .i64 n, .string { data := t }] 24) (.cells #[.int .i64 k', .int .i64 n', .string { data := t' }] 24) (.cells #[.int .i64 0, .int .i64 0, .string { data := #[] }] 24)
  have HA := Lib.hid ha
  have HBB := Lib.hid hb
  have HC := Lib.hid hc
  have HB := Lib.hid hB
  have HCX := Lib.hid hcx
  clear ha hb hc hB hcx
  go_enter Tryd.func11, Tryd.ntmps11
  go_wp2_with fail
  generalize (((w.alloc (.cells #[.int .i64 k, .int .i64 n, .string { data := t }] 24)).alloc (.cells #[.int .i64 k', .int .i64 n', .string { data := t' }] 24)).alloc (.cells #[.int .i64 0, .int .i64 0, .string { data := #[] }] 24)) = w3 at *
  refine (HCX.out w3).mono ?_
  rintro e w4 ⟨rfl, hb4⟩
  have HC5 := Lib.hid ((hb4.block _ (hlt HC.out)).trans HC.out)
  have HB5 := Lib.hid (HB.out.trans (hb4.mono HB.out.size))
  have HROW := Lib.hid (setRow_at w4 (w.heap.size + 1 + 1) _ #[.int .i64 0, .int .i64 0, .string { data := #[] }] 24 (0, 0) HC5.out)
  have HBE := Lib.hid (setRow_below HB5.out (show w.heap.size ≤ w.heap.size + 1 + 1 by omega) #[.int .i64 0, .int .i64 0, .string { data := #[] }])
  go_wp2_with (refine wpList_store_row rfl 24 (.tmp 8) (.tmp 26) rfl (w.heap.size + 1 + 1) #[.int .i64 0, .int .i64 0, .string { data := #[] }] rfl rfl 24 _ HC5.out (by rw [size24]; rfl) rfl (by simp [Value.oneCell']) ?_)
  exact bodyPost_ret (v := .tuple #[.agg #[.int .i64 0, .int .i64 0, .string { data := #[] }], .string { data := #[116, 121, 112, 101] }]) (res11 _ _ (w.heap.size + 1 + 1) _ rfl HROW.out) rfl ⟨rfl, HBE.out⟩

set_option maxRecDepth 10000 in
set_option maxHeartbeats 2000000 in
theorem ro_bad2 (g : Value) (k n k' n' : Int) (t t' : Array UInt8) (w : World) (hcx : ∀ W, Calls Tryd.prog 15 #[.agg #[.int .i64 k, .int .i64 n, .string { data := t }]] W fun e w' => e = .returned (.bool true) ∧ Below W.heap.size W w') (hcy : ∀ W, Calls Tryd.prog 15 #[.agg #[.int .i64 k', .int .i64 n', .string { data := t' }]] W fun e w' => e = .returned (.bool false) ∧ Below W.heap.size W w') (op : Array UInt8) :
    Calls Tryd.prog 11 #[g, .string { data := op }, .agg #[.int .i64 k, .int .i64 n, .string { data := t }], .agg #[.int .i64 k', .int .i64 n', .string { data := t' }]] w fun e w' => e = .returned (.tuple #[.agg #[.int .i64 0, .int .i64 0, .string { data := #[] }], .string { data := #[116, 121, 112, 101] }]) ∧ Below w.heap.size w w' := by
  obtain ⟨ha, hb, hc, hB⟩ := three w (.cells #[.int .i64 k, .int .i64 n, .string { data := t }] 24) (.cells #[.int .i64 k', .int .i64 n', .string { data := t' }] 24) (.cells #[.int .i64 0, .int .i64 0, .string { data := #[] }] 24)
  have HA := Lib.hid ha
  have HBB := Lib.hid hb
  have HC := Lib.hid hc
  have HB := Lib.hid hB
  have HCX := Lib.hid hcx
  have HCY := Lib.hid hcy
  clear ha hb hc hB hcx hcy
  go_enter Tryd.func11, Tryd.ntmps11
  go_wp2_with fail
  generalize (((w.alloc (.cells #[.int .i64 k, .int .i64 n, .string { data := t }] 24)).alloc (.cells #[.int .i64 k', .int .i64 n', .string { data := t' }] 24)).alloc (.cells #[.int .i64 0, .int .i64 0, .string { data := #[] }] 24)) = w3 at *
  refine (HCX.out w3).mono ?_
  rintro e w4 ⟨rfl, hb4⟩
  have HA4 := Lib.hid ((hb4.block _ (hlt HA.out)).trans HA.out)
  have HBB4 := Lib.hid ((hb4.block _ (hlt HBB.out)).trans HBB.out)
  have HC4 := Lib.hid ((hb4.block _ (hlt HC.out)).trans HC.out)
  have HB4 := Lib.hid (HB.out.trans (hb4.mono HB.out.size))
  obtain ⟨y0, y1, y2⟩ := box3 HBB4.out
  clear hb4 HA HBB HC HB
  go_wp2_with fail
  refine (HCY.out w4).mono ?_
  rintro e w5 ⟨rfl, hb5⟩
  have HC5 := Lib.hid ((hb5.block _ (hlt HC4.out)).trans HC4.out)
  have HB5 := Lib.hid (HB4.out.trans (hb5.mono HB4.out.size))
  have HROW := Lib.hid (setRow_at w5 (w.heap.size + 1 + 1) _ #[.int .i64 0, .int .i64 0, .string { data := #[] }] 24 (0, 0) HC5.out)
  have HBE := Lib.hid (setRow_below HB5.out (show w.heap.size ≤ w.heap.size + 1 + 1 by omega) #[.int .i64 0, .int .i64 0, .string { data := #[] }])
  go_wp2_with (refine wpList_store_row rfl 24 (.tmp 8) (.tmp 26) rfl (w.heap.size + 1 + 1) #[.int .i64 0, .int .i64 0, .string { data := #[] }] rfl rfl 24 _ HC5.out (by rw [size24]; rfl) rfl (by simp [Value.oneCell']) ?_)
  exact bodyPost_ret (v := .tuple #[.agg #[.int .i64 0, .int .i64 0, .string { data := #[] }], .string { data := #[116, 121, 112, 101] }]) (res11 _ _ (w.heap.size + 1 + 1) _ rfl HROW.out) rfl ⟨rfl, HBE.out⟩

set_option maxRecDepth 10000 in
set_option maxHeartbeats 2000000 in
theorem ro_unA (g : Value) (n k' n' : Int) (t t' : Array UInt8) (w : World) (e : (k' == 2) = true) (hcx : ∀ W, Calls Tryd.prog 15 #[.agg #[.int .i64 2, .int .i64 n, .string { data := t }]] W fun e w' => e = .returned (.bool true) ∧ Below W.heap.size W w') (hcy : ∀ W, Calls Tryd.prog 15 #[.agg #[.int .i64 k', .int .i64 n', .string { data := t' }]] W fun e w' => e = .returned (.bool true) ∧ Below W.heap.size W w') (op : Array UInt8) (o0 : ((ByteArray.mk op).toList == [61, 61]) = false) (o1 : ((ByteArray.mk op).toList == [126, 61]) = false) (o2 : ((ByteArray.mk op).toList == [43]) = false) (o3 : ((ByteArray.mk op).toList == [45]) = false) (o4 : ((ByteArray.mk op).toList == [42]) = false) (o5 : ((ByteArray.mk op).toList == [47]) = false) (o6 : ((ByteArray.mk op).toList == [37]) = false) (o7 : ((ByteArray.mk op).toList == [46, 46]) = false) (o8 : ((ByteArray.mk op).toList == [60]) = false) (o9 : ((ByteArray.mk op).toList == [60, 61]) = false) (o10 : ((ByteArray.mk op).toList == [62]) = false) (o11 : ((ByteArray.mk op).toList == [62, 61]) = false) :
    Calls Tryd.prog 11 #[g, .string { data := op }, .agg #[.int .i64 2, .int .i64 n, .string { data := t }], .agg #[.int .i64 k', .int .i64 n', .string { data := t' }]] w fun e w' => e = .returned (.tuple #[.agg #[.int .i64 0, .int .i64 0, .string { data := #[] }], .string { data := #[116, 121, 112, 101] }]) ∧ Below w.heap.size w w' := by
  obtain ⟨ha, hb, hc, hB⟩ := three w (.cells #[.int .i64 2, .int .i64 n, .string { data := t }] 24) (.cells #[.int .i64 k', .int .i64 n', .string { data := t' }] 24) (.cells #[.int .i64 0, .int .i64 0, .string { data := #[] }] 24)
  have HA := Lib.hid ha
  have HBB := Lib.hid hb
  have HC := Lib.hid hc
  have HB := Lib.hid hB
  have HCX := Lib.hid hcx
  have HCY := Lib.hid hcy
  clear ha hb hc hB hcx hcy
  go_enter Tryd.func11, Tryd.ntmps11
  go_wp2_with fail
  generalize (((w.alloc (.cells #[.int .i64 2, .int .i64 n, .string { data := t }] 24)).alloc (.cells #[.int .i64 k', .int .i64 n', .string { data := t' }] 24)).alloc (.cells #[.int .i64 0, .int .i64 0, .string { data := #[] }] 24)) = w3 at *
  refine (HCX.out w3).mono ?_
  rintro e w4 ⟨rfl, hb4⟩
  have HA4 := Lib.hid ((hb4.block _ (hlt HA.out)).trans HA.out)
  have HBB4 := Lib.hid ((hb4.block _ (hlt HBB.out)).trans HBB.out)
  have HC4 := Lib.hid ((hb4.block _ (hlt HC.out)).trans HC.out)
  have HB4 := Lib.hid (HB.out.trans (hb4.mono HB.out.size))
  obtain ⟨y0, y1, y2⟩ := box3 HBB4.out
  clear hb4 HA HBB HC HB
  go_wp2_with fail
  refine (HCY.out w4).mono ?_
  rintro e w5 ⟨rfl, hb5⟩
  have HA5 := Lib.hid ((hb5.block _ (hlt HA4.out)).trans HA4.out)
  have HBB5 := Lib.hid ((hb5.block _ (hlt HBB4.out)).trans HBB4.out)
  have HC5 := Lib.hid ((hb5.block _ (hlt HC4.out)).trans HC4.out)
  have HB5 := Lib.hid (HB4.out.trans (hb5.mono HB4.out.size))
  clear y0 y1 y2 hb5 HA4 HBB4 HC4 HB4 HCX HCY
  obtain ⟨x0, x1, x2⟩ := box3 HA5.out
  obtain ⟨y0, y1, y2⟩ := box3 HBB5.out
  go_wp2_with fail
  go_quiet (fail)
  have HCD : Hid ((w5.drewN nq).heap[w.heap.size + 1 + 1]? = some (.cells #[.int .i64 0, .int .i64 0, .string { data := #[] }] 24 (0, 0))) := Lib.hid HC5.out
  have HROW := Lib.hid (setRow_at (w5.drewN nq) (w.heap.size + 1 + 1) _ #[.int .i64 0, .int .i64 0, .string { data := #[] }] 24 (0, 0) HCD.out)
  have HBE := Lib.hid (setRow_below (below_drewN HB5.out nq) (show w.heap.size ≤ w.heap.size + 1 + 1 by omega) #[.int .i64 0, .int .i64 0, .string { data := #[] }])
  go_wp2_with (refine wpList_store_row rfl 24 (.tmp 8) (.tmp 151) rfl (w.heap.size + 1 + 1) #[.int .i64 0, .int .i64 0, .string { data := #[] }] rfl rfl 24 _ HCD.out (by rw [size24]; rfl) rfl (by simp [Value.oneCell']) ?_)
  exact bodyPost_ret (v := .tuple #[.agg #[.int .i64 0, .int .i64 0, .string { data := #[] }], .string { data := #[116, 121, 112, 101] }]) (res11 _ _ (w.heap.size + 1 + 1) _ rfl HROW.out) rfl ⟨rfl, HBE.out⟩

set_option maxRecDepth 10000 in
set_option maxHeartbeats 2000000 in
theorem ro_unB (g : Value) (n k' n' : Int) (t t' : Array UInt8) (w : World) (e : (k' == 2) = false) (hcx : ∀ W, Calls Tryd.prog 15 #[.agg #[.int .i64 2, .int .i64 n, .string { data := t }]] W fun e w' => e = .returned (.bool true) ∧ Below W.heap.size W w') (hcy : ∀ W, Calls Tryd.prog 15 #[.agg #[.int .i64 k', .int .i64 n', .string { data := t' }]] W fun e w' => e = .returned (.bool true) ∧ Below W.heap.size W w') (op : Array UInt8) (o0 : ((ByteArray.mk op).toList == [61, 61]) = false) (o1 : ((ByteArray.mk op).toList == [126, 61]) = false) (o2 : ((ByteArray.mk op).toList == [43]) = false) (o3 : ((ByteArray.mk op).toList == [45]) = false) (o4 : ((ByteArray.mk op).toList == [42]) = false) (o5 : ((ByteArray.mk op).toList == [47]) = false) (o6 : ((ByteArray.mk op).toList == [37]) = false) (o7 : ((ByteArray.mk op).toList == [46, 46]) = false) (o8 : ((ByteArray.mk op).toList == [60]) = false) (o9 : ((ByteArray.mk op).toList == [60, 61]) = false) (o10 : ((ByteArray.mk op).toList == [62]) = false) (o11 : ((ByteArray.mk op).toList == [62, 61]) = false) :
    Calls Tryd.prog 11 #[g, .string { data := op }, .agg #[.int .i64 2, .int .i64 n, .string { data := t }], .agg #[.int .i64 k', .int .i64 n', .string { data := t' }]] w fun e w' => e = .returned (.tuple #[.agg #[.int .i64 0, .int .i64 0, .string { data := #[] }], .string { data := #[116, 121, 112, 101] }]) ∧ Below w.heap.size w w' := by
  obtain ⟨ha, hb, hc, hB⟩ := three w (.cells #[.int .i64 2, .int .i64 n, .string { data := t }] 24) (.cells #[.int .i64 k', .int .i64 n', .string { data := t' }] 24) (.cells #[.int .i64 0, .int .i64 0, .string { data := #[] }] 24)
  have HA := Lib.hid ha
  have HBB := Lib.hid hb
  have HC := Lib.hid hc
  have HB := Lib.hid hB
  have HCX := Lib.hid hcx
  have HCY := Lib.hid hcy
  clear ha hb hc hB hcx hcy
  go_enter Tryd.func11, Tryd.ntmps11
  go_wp2_with fail
  generalize (((w.alloc (.cells #[.int .i64 2, .int .i64 n, .string { data := t }] 24)).alloc (.cells #[.int .i64 k', .int .i64 n', .string { data := t' }] 24)).alloc (.cells #[.int .i64 0, .int .i64 0, .string { data := #[] }] 24)) = w3 at *
  refine (HCX.out w3).mono ?_
  rintro e w4 ⟨rfl, hb4⟩
  have HA4 := Lib.hid ((hb4.block _ (hlt HA.out)).trans HA.out)
  have HBB4 := Lib.hid ((hb4.block _ (hlt HBB.out)).trans HBB.out)
  have HC4 := Lib.hid ((hb4.block _ (hlt HC.out)).trans HC.out)
  have HB4 := Lib.hid (HB.out.trans (hb4.mono HB.out.size))
  obtain ⟨y0, y1, y2⟩ := box3 HBB4.out
  clear hb4 HA HBB HC HB
  go_wp2_with fail
  refine (HCY.out w4).mono ?_
  rintro e w5 ⟨rfl, hb5⟩
  have HA5 := Lib.hid ((hb5.block _ (hlt HA4.out)).trans HA4.out)
  have HBB5 := Lib.hid ((hb5.block _ (hlt HBB4.out)).trans HBB4.out)
  have HC5 := Lib.hid ((hb5.block _ (hlt HC4.out)).trans HC4.out)
  have HB5 := Lib.hid (HB4.out.trans (hb5.mono HB4.out.size))
  clear y0 y1 y2 hb5 HA4 HBB4 HC4 HB4 HCX HCY
  obtain ⟨x0, x1, x2⟩ := box3 HA5.out
  obtain ⟨y0, y1, y2⟩ := box3 HBB5.out
  go_wp2_with fail
  go_quiet (fail)
  have HCD : Hid ((w5.drewN nq).heap[w.heap.size + 1 + 1]? = some (.cells #[.int .i64 0, .int .i64 0, .string { data := #[] }] 24 (0, 0))) := Lib.hid HC5.out
  have HROW := Lib.hid (setRow_at (w5.drewN nq) (w.heap.size + 1 + 1) _ #[.int .i64 0, .int .i64 0, .string { data := #[] }] 24 (0, 0) HCD.out)
  have HBE := Lib.hid (setRow_below (below_drewN HB5.out nq) (show w.heap.size ≤ w.heap.size + 1 + 1 by omega) #[.int .i64 0, .int .i64 0, .string { data := #[] }])
  go_wp2_with (refine wpList_store_row rfl 24 (.tmp 8) (.tmp 151) rfl (w.heap.size + 1 + 1) #[.int .i64 0, .int .i64 0, .string { data := #[] }] rfl rfl 24 _ HCD.out (by rw [size24]; rfl) rfl (by simp [Value.oneCell']) ?_)
  exact bodyPost_ret (v := .tuple #[.agg #[.int .i64 0, .int .i64 0, .string { data := #[] }], .string { data := #[116, 121, 112, 101] }]) (res11 _ _ (w.heap.size + 1 + 1) _ rfl HROW.out) rfl ⟨rfl, HBE.out⟩

set_option maxRecDepth 10000 in
set_option maxHeartbeats 2000000 in
theorem ro_unC (g : Value) (n k' n' : Int) (t t' : Array UInt8) (w : World) (e : (k' == 3) = true) (hcx : ∀ W, Calls Tryd.prog 15 #[.agg #[.int .i64 3, .int .i64 n, .string { data := t }]] W fun e w' => e = .returned (.bool true) ∧ Below W.heap.size W w') (hcy : ∀ W, Calls Tryd.prog 15 #[.agg #[.int .i64 k', .int .i64 n', .string { data := t' }]] W fun e w' => e = .returned (.bool true) ∧ Below W.heap.size W w') (op : Array UInt8) (o0 : ((ByteArray.mk op).toList == [61, 61]) = false) (o1 : ((ByteArray.mk op).toList == [126, 61]) = false) (o2 : ((ByteArray.mk op).toList == [43]) = false) (o3 : ((ByteArray.mk op).toList == [45]) = false) (o4 : ((ByteArray.mk op).toList == [42]) = false) (o5 : ((ByteArray.mk op).toList == [47]) = false) (o6 : ((ByteArray.mk op).toList == [37]) = false) (o7 : ((ByteArray.mk op).toList == [46, 46]) = false) (o8 : ((ByteArray.mk op).toList == [60]) = false) (o9 : ((ByteArray.mk op).toList == [60, 61]) = false) (o10 : ((ByteArray.mk op).toList == [62]) = false) (o11 : ((ByteArray.mk op).toList == [62, 61]) = false) :
    Calls Tryd.prog 11 #[g, .string { data := op }, .agg #[.int .i64 3, .int .i64 n, .string { data := t }], .agg #[.int .i64 k', .int .i64 n', .string { data := t' }]] w fun e w' => e = .returned (.tuple #[.agg #[.int .i64 0, .int .i64 0, .string { data := #[] }], .string { data := #[116, 121, 112, 101] }]) ∧ Below w.heap.size w w' := by
  obtain ⟨ha, hb, hc, hB⟩ := three w (.cells #[.int .i64 3, .int .i64 n, .string { data := t }] 24) (.cells #[.int .i64 k', .int .i64 n', .string { data := t' }] 24) (.cells #[.int .i64 0, .int .i64 0, .string { data := #[] }] 24)
  have HA := Lib.hid ha
  have HBB := Lib.hid hb
  have HC := Lib.hid hc
  have HB := Lib.hid hB
  have HCX := Lib.hid hcx
  have HCY := Lib.hid hcy
  clear ha hb hc hB hcx hcy
  go_enter Tryd.func11, Tryd.ntmps11
  go_wp2_with fail
  generalize (((w.alloc (.cells #[.int .i64 3, .int .i64 n, .string { data := t }] 24)).alloc (.cells #[.int .i64 k', .int .i64 n', .string { data := t' }] 24)).alloc (.cells #[.int .i64 0, .int .i64 0, .string { data := #[] }] 24)) = w3 at *
  refine (HCX.out w3).mono ?_
  rintro e w4 ⟨rfl, hb4⟩
  have HA4 := Lib.hid ((hb4.block _ (hlt HA.out)).trans HA.out)
  have HBB4 := Lib.hid ((hb4.block _ (hlt HBB.out)).trans HBB.out)
  have HC4 := Lib.hid ((hb4.block _ (hlt HC.out)).trans HC.out)
  have HB4 := Lib.hid (HB.out.trans (hb4.mono HB.out.size))
  obtain ⟨y0, y1, y2⟩ := box3 HBB4.out
  clear hb4 HA HBB HC HB
  go_wp2_with fail
  refine (HCY.out w4).mono ?_
  rintro e w5 ⟨rfl, hb5⟩
  have HA5 := Lib.hid ((hb5.block _ (hlt HA4.out)).trans HA4.out)
  have HBB5 := Lib.hid ((hb5.block _ (hlt HBB4.out)).trans HBB4.out)
  have HC5 := Lib.hid ((hb5.block _ (hlt HC4.out)).trans HC4.out)
  have HB5 := Lib.hid (HB4.out.trans (hb5.mono HB4.out.size))
  clear y0 y1 y2 hb5 HA4 HBB4 HC4 HB4 HCX HCY
  obtain ⟨x0, x1, x2⟩ := box3 HA5.out
  obtain ⟨y0, y1, y2⟩ := box3 HBB5.out
  go_wp2_with fail
  go_quiet (fail)
  have HCD : Hid ((w5.drewN nq).heap[w.heap.size + 1 + 1]? = some (.cells #[.int .i64 0, .int .i64 0, .string { data := #[] }] 24 (0, 0))) := Lib.hid HC5.out
  have HROW := Lib.hid (setRow_at (w5.drewN nq) (w.heap.size + 1 + 1) _ #[.int .i64 0, .int .i64 0, .string { data := #[] }] 24 (0, 0) HCD.out)
  have HBE := Lib.hid (setRow_below (below_drewN HB5.out nq) (show w.heap.size ≤ w.heap.size + 1 + 1 by omega) #[.int .i64 0, .int .i64 0, .string { data := #[] }])
  go_wp2_with (refine wpList_store_row rfl 24 (.tmp 8) (.tmp 151) rfl (w.heap.size + 1 + 1) #[.int .i64 0, .int .i64 0, .string { data := #[] }] rfl rfl 24 _ HCD.out (by rw [size24]; rfl) rfl (by simp [Value.oneCell']) ?_)
  exact bodyPost_ret (v := .tuple #[.agg #[.int .i64 0, .int .i64 0, .string { data := #[] }], .string { data := #[116, 121, 112, 101] }]) (res11 _ _ (w.heap.size + 1 + 1) _ rfl HROW.out) rfl ⟨rfl, HBE.out⟩

set_option maxRecDepth 10000 in
set_option maxHeartbeats 2000000 in
theorem ro_unD (g : Value) (n k' n' : Int) (t t' : Array UInt8) (w : World) (e : (k' == 3) = false) (hcx : ∀ W, Calls Tryd.prog 15 #[.agg #[.int .i64 3, .int .i64 n, .string { data := t }]] W fun e w' => e = .returned (.bool true) ∧ Below W.heap.size W w') (hcy : ∀ W, Calls Tryd.prog 15 #[.agg #[.int .i64 k', .int .i64 n', .string { data := t' }]] W fun e w' => e = .returned (.bool true) ∧ Below W.heap.size W w') (op : Array UInt8) (o0 : ((ByteArray.mk op).toList == [61, 61]) = false) (o1 : ((ByteArray.mk op).toList == [126, 61]) = false) (o2 : ((ByteArray.mk op).toList == [43]) = false) (o3 : ((ByteArray.mk op).toList == [45]) = false) (o4 : ((ByteArray.mk op).toList == [42]) = false) (o5 : ((ByteArray.mk op).toList == [47]) = false) (o6 : ((ByteArray.mk op).toList == [37]) = false) (o7 : ((ByteArray.mk op).toList == [46, 46]) = false) (o8 : ((ByteArray.mk op).toList == [60]) = false) (o9 : ((ByteArray.mk op).toList == [60, 61]) = false) (o10 : ((ByteArray.mk op).toList == [62]) = false) (o11 : ((ByteArray.mk op).toList == [62, 61]) = false) :
    Calls Tryd.prog 11 #[g, .string { data := op }, .agg #[.int .i64 3, .int .i64 n, .string { data := t }], .agg #[.int .i64 k', .int .i64 n', .string { data := t' }]] w fun e w' => e = .returned (.tuple #[.agg #[.int .i64 0, .int .i64 0, .string { data := #[] }], .string { data := #[116, 121, 112, 101] }]) ∧ Below w.heap.size w w' := by
  obtain ⟨ha, hb, hc, hB⟩ := three w (.cells #[.int .i64 3, .int .i64 n, .string { data := t }] 24) (.cells #[.int .i64 k', .int .i64 n', .string { data := t' }] 24) (.cells #[.int .i64 0, .int .i64 0, .string { data := #[] }] 24)
  have HA := Lib.hid ha
  have HBB := Lib.hid hb
  have HC := Lib.hid hc
  have HB := Lib.hid hB
  have HCX := Lib.hid hcx
  have HCY := Lib.hid hcy
  clear ha hb hc hB hcx hcy
  go_enter Tryd.func11, Tryd.ntmps11
  go_wp2_with fail
  generalize (((w.alloc (.cells #[.int .i64 3, .int .i64 n, .string { data := t }] 24)).alloc (.cells #[.int .i64 k', .int .i64 n', .string { data := t' }] 24)).alloc (.cells #[.int .i64 0, .int .i64 0, .string { data := #[] }] 24)) = w3 at *
  refine (HCX.out w3).mono ?_
  rintro e w4 ⟨rfl, hb4⟩
  have HA4 := Lib.hid ((hb4.block _ (hlt HA.out)).trans HA.out)
  have HBB4 := Lib.hid ((hb4.block _ (hlt HBB.out)).trans HBB.out)
  have HC4 := Lib.hid ((hb4.block _ (hlt HC.out)).trans HC.out)
  have HB4 := Lib.hid (HB.out.trans (hb4.mono HB.out.size))
  obtain ⟨y0, y1, y2⟩ := box3 HBB4.out
  clear hb4 HA HBB HC HB
  go_wp2_with fail
  refine (HCY.out w4).mono ?_
  rintro e w5 ⟨rfl, hb5⟩
  have HA5 := Lib.hid ((hb5.block _ (hlt HA4.out)).trans HA4.out)
  have HBB5 := Lib.hid ((hb5.block _ (hlt HBB4.out)).trans HBB4.out)
  have HC5 := Lib.hid ((hb5.block _ (hlt HC4.out)).trans HC4.out)
  have HB5 := Lib.hid (HB4.out.trans (hb5.mono HB4.out.size))
  clear y0 y1 y2 hb5 HA4 HBB4 HC4 HB4 HCX HCY
  obtain ⟨x0, x1, x2⟩ := box3 HA5.out
  obtain ⟨y0, y1, y2⟩ := box3 HBB5.out
  go_wp2_with fail
  go_quiet (fail)
  have HCD : Hid ((w5.drewN nq).heap[w.heap.size + 1 + 1]? = some (.cells #[.int .i64 0, .int .i64 0, .string { data := #[] }] 24 (0, 0))) := Lib.hid HC5.out
  have HROW := Lib.hid (setRow_at (w5.drewN nq) (w.heap.size + 1 + 1) _ #[.int .i64 0, .int .i64 0, .string { data := #[] }] 24 (0, 0) HCD.out)
  have HBE := Lib.hid (setRow_below (below_drewN HB5.out nq) (show w.heap.size ≤ w.heap.size + 1 + 1 by omega) #[.int .i64 0, .int .i64 0, .string { data := #[] }])
  go_wp2_with (refine wpList_store_row rfl 24 (.tmp 8) (.tmp 151) rfl (w.heap.size + 1 + 1) #[.int .i64 0, .int .i64 0, .string { data := #[] }] rfl rfl 24 _ HCD.out (by rw [size24]; rfl) rfl (by simp [Value.oneCell']) ?_)
  exact bodyPost_ret (v := .tuple #[.agg #[.int .i64 0, .int .i64 0, .string { data := #[] }], .string { data := #[116, 121, 112, 101] }]) (res11 _ _ (w.heap.size + 1 + 1) _ rfl HROW.out) rfl ⟨rfl, HBE.out⟩

set_option maxRecDepth 10000 in
set_option maxHeartbeats 2000000 in
theorem ro_unE (g : Value) (k n k' n' : Int) (t t' : Array UInt8) (w : World) (e : (k == 2) = false) (e3 : (k == 3) = false) (hcx : ∀ W, Calls Tryd.prog 15 #[.agg #[.int .i64 k, .int .i64 n, .string { data := t }]] W fun e w' => e = .returned (.bool true) ∧ Below W.heap.size W w') (hcy : ∀ W, Calls Tryd.prog 15 #[.agg #[.int .i64 k', .int .i64 n', .string { data := t' }]] W fun e w' => e = .returned (.bool true) ∧ Below W.heap.size W w') (op : Array UInt8) (o0 : ((ByteArray.mk op).toList == [61, 61]) = false) (o1 : ((ByteArray.mk op).toList == [126, 61]) = false) (o2 : ((ByteArray.mk op).toList == [43]) = false) (o3 : ((ByteArray.mk op).toList == [45]) = false) (o4 : ((ByteArray.mk op).toList == [42]) = false) (o5 : ((ByteArray.mk op).toList == [47]) = false) (o6 : ((ByteArray.mk op).toList == [37]) = false) (o7 : ((ByteArray.mk op).toList == [46, 46]) = false) (o8 : ((ByteArray.mk op).toList == [60]) = false) (o9 : ((ByteArray.mk op).toList == [60, 61]) = false) (o10 : ((ByteArray.mk op).toList == [62]) = false) (o11 : ((ByteArray.mk op).toList == [62, 61]) = false) :
    Calls Tryd.prog 11 #[g, .string { data := op }, .agg #[.int .i64 k, .int .i64 n, .string { data := t }], .agg #[.int .i64 k', .int .i64 n', .string { data := t' }]] w fun e w' => e = .returned (.tuple #[.agg #[.int .i64 0, .int .i64 0, .string { data := #[] }], .string { data := #[116, 121, 112, 101] }]) ∧ Below w.heap.size w w' := by
  obtain ⟨ha, hb, hc, hB⟩ := three w (.cells #[.int .i64 k, .int .i64 n, .string { data := t }] 24) (.cells #[.int .i64 k', .int .i64 n', .string { data := t' }] 24) (.cells #[.int .i64 0, .int .i64 0, .string { data := #[] }] 24)
  have HA := Lib.hid ha
  have HBB := Lib.hid hb
  have HC := Lib.hid hc
  have HB := Lib.hid hB
  have HCX := Lib.hid hcx
  have HCY := Lib.hid hcy
  clear ha hb hc hB hcx hcy
  go_enter Tryd.func11, Tryd.ntmps11
  go_wp2_with fail
  generalize (((w.alloc (.cells #[.int .i64 k, .int .i64 n, .string { data := t }] 24)).alloc (.cells #[.int .i64 k', .int .i64 n', .string { data := t' }] 24)).alloc (.cells #[.int .i64 0, .int .i64 0, .string { data := #[] }] 24)) = w3 at *
  refine (HCX.out w3).mono ?_
  rintro e w4 ⟨rfl, hb4⟩
  have HA4 := Lib.hid ((hb4.block _ (hlt HA.out)).trans HA.out)
  have HBB4 := Lib.hid ((hb4.block _ (hlt HBB.out)).trans HBB.out)
  have HC4 := Lib.hid ((hb4.block _ (hlt HC.out)).trans HC.out)
  have HB4 := Lib.hid (HB.out.trans (hb4.mono HB.out.size))
  obtain ⟨y0, y1, y2⟩ := box3 HBB4.out
  clear hb4 HA HBB HC HB
  go_wp2_with fail
  refine (HCY.out w4).mono ?_
  rintro e w5 ⟨rfl, hb5⟩
  have HA5 := Lib.hid ((hb5.block _ (hlt HA4.out)).trans HA4.out)
  have HBB5 := Lib.hid ((hb5.block _ (hlt HBB4.out)).trans HBB4.out)
  have HC5 := Lib.hid ((hb5.block _ (hlt HC4.out)).trans HC4.out)
  have HB5 := Lib.hid (HB4.out.trans (hb5.mono HB4.out.size))
  clear y0 y1 y2 hb5 HA4 HBB4 HC4 HB4 HCX HCY
  obtain ⟨x0, x1, x2⟩ := box3 HA5.out
  obtain ⟨y0, y1, y2⟩ := box3 HBB5.out
  go_wp2_with fail
  go_quiet (fail)
  have HCD : Hid ((w5.drewN nq).heap[w.heap.size + 1 + 1]? = some (.cells #[.int .i64 0, .int .i64 0, .string { data := #[] }] 24 (0, 0))) := Lib.hid HC5.out
  have HROW := Lib.hid (setRow_at (w5.drewN nq) (w.heap.size + 1 + 1) _ #[.int .i64 0, .int .i64 0, .string { data := #[] }] 24 (0, 0) HCD.out)
  have HBE := Lib.hid (setRow_below (below_drewN HB5.out nq) (show w.heap.size ≤ w.heap.size + 1 + 1 by omega) #[.int .i64 0, .int .i64 0, .string { data := #[] }])
  go_wp2_with (refine wpList_store_row rfl 24 (.tmp 8) (.tmp 151) rfl (w.heap.size + 1 + 1) #[.int .i64 0, .int .i64 0, .string { data := #[] }] rfl rfl 24 _ HCD.out (by rw [size24]; rfl) rfl (by simp [Value.oneCell']) ?_)
  exact bodyPost_ret (v := .tuple #[.agg #[.int .i64 0, .int .i64 0, .string { data := #[] }], .string { data := #[116, 121, 112, 101] }]) (res11 _ _ (w.heap.size + 1 + 1) _ rfl HROW.out) rfl ⟨rfl, HBE.out⟩
end Go.Proofs.YthbnhplkoomdhaaDoor
