/- The reference: one behind the other. -/
import Derived.Test.YthbnhplkoomdhaaDoorRefM
import Derived.Test.YthbnhplkoomdhaaDoorRefF
namespace Go.Proofs.YthbnhplkoomdhaaDoor
open Go Go.RowKit
set_option maxRecDepth 10000 in
set_option maxHeartbeats 2000000 in
theorem ro_join22 (n n' : Int) (t t' : Array UInt8) (w : World)  (hcx : ∀ W, Calls Tryd.prog 15 #[.agg #[.int .i64 2, .int .i64 n, .string { data := t }]] W fun e w' => e = .returned (.bool true) ∧ Below W.heap.size W w') (hcy : ∀ W, Calls Tryd.prog 15 #[.agg #[.int .i64 2, .int .i64 n', .string { data := t' }]] W fun e w' => e = .returned (.bool true) ∧ Below W.heap.size W w') (G : Nat) (c s s' : Int) (T T' : Array UInt8) (hl : ((T.size : Int)) + (T'.size : Int) ≤ 2000) (va vb : Int) (vs why : Array UInt8) (ht : TAB w) (hg : w.heap[G]? = some (.cells #[.slice none 0 0, .int .i64 c, .int .i64 s] 38 (0, 0))) (hj1 : ∀ W, TAB W → Calls Tryd.prog 23 #[.agg #[.int .i64 2, .int .i64 n, .string { data := t }]] W fun e w' => e = .returned (.tuple #[.string { data := T }, .bool true]) ∧ Below W.heap.size W w') (hj2 : ∀ W, TAB W → Calls Tryd.prog 23 #[.agg #[.int .i64 2, .int .i64 n', .string { data := t' }]] W fun e w' => e = .returned (.tuple #[.string { data := T' }, .bool true]) ∧ Below W.heap.size W w') (hm : ∀ W, W.heap[G]? = some (.cells #[.slice none 0 0, .int .i64 c, .int .i64 s] 38 (0, 0)) → Calls Tryd.prog 24 #[.pointer (some ⟨G, 0, none⟩), .string ({ data := T } ++ { data := T' })] W fun e w' => e = .returned (.tuple #[.agg #[.int .i64 va, .int .i64 vb, .string { data := vs }], .string { data := why }]) ∧ w'.heap[G]? = some (.cells #[.slice none 0 0, .int .i64 c, .int .i64 s'] 38 (0, 0)) ∧ KB G W w') :
    Calls Tryd.prog 11 #[.pointer (some ⟨G, 0, none⟩), .string { data := #[46, 46] }, .agg #[.int .i64 2, .int .i64 n, .string { data := t }], .agg #[.int .i64 2, .int .i64 n', .string { data := t' }]] w fun e w' => e = .returned (.tuple #[.agg #[.int .i64 va, .int .i64 vb, .string { data := vs }], .string { data := why }]) ∧ w'.heap[G]? = some (.cells #[.slice none 0 0, .int .i64 c, .int .i64 s'] 38 (0, 0)) ∧ KB G w w' := by
  obtain ⟨ha, hb, hc, hB⟩ := three w (.cells #[.int .i64 2, .int .i64 n, .string { data := t }] 24) (.cells #[.int .i64 2, .int .i64 n', .string { data := t' }] 24) (.cells #[.int .i64 0, .int .i64 0, .string { data := #[] }] 24)
  have HA := Lib.hid ha
  have HBB := Lib.hid hb
  have HC := Lib.hid hc
  have HB := Lib.hid hB
  have HCX := Lib.hid hcx
  have HCY := Lib.hid hcy
  have HJ1 := Lib.hid hj1
  have HJ2 := Lib.hid hj2
  have HM := Lib.hid hm
  have HT := Lib.hid ht
  have HG := Lib.hid hg
  have HGL := Lib.hid (hlt hg)
  clear hj1 hj2 hm ht hg
  clear ha hb hc hB hcx hcy
  go_enter Tryd.func11, Tryd.ntmps11
  go_wp2_with fail
  generalize (((w.alloc (.cells #[.int .i64 2, .int .i64 n, .string { data := t }] 24)).alloc (.cells #[.int .i64 2, .int .i64 n', .string { data := t' }] 24)).alloc (.cells #[.int .i64 0, .int .i64 0, .string { data := #[] }] 24)) = w3 at *
  refine (HCX.out w3).mono ?_
  rintro e w4 ⟨rfl, hb4⟩
  have HA4 := Lib.hid ((hb4.block _ (hlt HA.out)).trans HA.out)
  have HBB4 := Lib.hid ((hb4.block _ (hlt HBB.out)).trans HBB.out)
  have HC4 := Lib.hid ((hb4.block _ (hlt HC.out)).trans HC.out)
  have HB4 := Lib.hid (HB.out.trans (hb4.mono HB.out.size))
  obtain ⟨y0, y1, y2⟩ := box3 HBB4.out
  clear hb4 HA HBB HC HB
  go_wp2_with fail
  refine (HCY.out w4).mono ?_
  rintro e w5 ⟨rfl, hb5⟩
  have HA5 := Lib.hid ((hb5.block _ (hlt HA4.out)).trans HA4.out)
  have HBB5 := Lib.hid ((hb5.block _ (hlt HBB4.out)).trans HBB4.out)
  have HC5 := Lib.hid ((hb5.block _ (hlt HC4.out)).trans HC4.out)
  have HB5 := Lib.hid (HB4.out.trans (hb5.mono HB4.out.size))
  clear y0 y1 y2 hb5 HA4 HBB4 HC4 HB4 HCX HCY
  obtain ⟨x0, x1, x2⟩ := box3 HA5.out
  obtain ⟨y0, y1, y2⟩ := box3 HBB5.out
  go_wp2_with fail
  go_quiet (fail)
  go_wp2_with fail
  have HT6 := Lib.hid (tab_below HT.out (below_drewN HB5.out nq))
  have HA6 : Hid ((w5.drewN nq).heap[w.heap.size]? = _) := Lib.hid HA5.out
  have HBB6 : Hid ((w5.drewN nq).heap[w.heap.size + 1]? = _) := Lib.hid HBB5.out
  have HC6 : Hid ((w5.drewN nq).heap[w.heap.size + 1 + 1]? = _) := Lib.hid HC5.out
  have HB6 := Lib.hid (below_drewN HB5.out nq)
  clear HA5 HBB5 HC5 HB5 x0 x1 x2 y0 y1 y2
  generalize w5.drewN nq = w6 at *
  refine (HJ1.out w6 HT6.out).mono ?_
  rintro e w7 ⟨rfl, hb7⟩
  have HT7 := Lib.hid (tab_below HT6.out hb7)
  have HBB7 := Lib.hid ((hb7.block _ (hlt HBB6.out)).trans HBB6.out)
  have HC7 := Lib.hid ((hb7.block _ (hlt HC6.out)).trans HC6.out)
  have HB7 := Lib.hid (HB6.out.trans (hb7.mono HB6.out.size))
  obtain ⟨y0, y1, y2⟩ := box3 HBB7.out
  clear hb7 HA6 HBB6 HC6 HB6 HT6
  go_wp2_with fail
  refine (HJ2.out w7 HT7.out).mono ?_
  rintro e w8 ⟨rfl, hb8⟩
  have HC8 := Lib.hid ((hb8.block _ (hlt HC7.out)).trans HC7.out)
  have HB8 := Lib.hid (HB7.out.trans (hb8.mono HB7.out.size))
  clear hb8 HBB7 HC7 HB7 HT7 y0 y1 y2
  have HK8 := Lib.hid (KB.of_below G HB8.out HGL.out)
  have HG8 := Lib.hid ((HB8.out.block _ HGL.out).trans HG.out)
  go_wp2_with fail
  refine (HM.out _ HG8.out).mono ?_
  rintro e w9 ⟨rfl, hG9, hK9⟩
  have hne : w.heap.size + 1 + 1 ≠ G := by have := HGL.out; omega
  have HC9 := Lib.hid ((hK9.same _ hne (hlt HC8.out)).trans HC8.out)
  have HROW := Lib.hid (setRow_at w9 (w.heap.size + 1 + 1) _ #[.int .i64 va, .int .i64 vb, .string { data := vs }] 24 (0, 0) HC9.out)
  have HGF := Lib.hid ((setRow_other w9 (w.heap.size + 1 + 1) G #[.int .i64 va, .int .i64 vb, .string { data := vs }] hne).trans hG9)
  have HKF := Lib.hid ((HK8.out.trans hK9).addRow (g := w.heap.size + 1 + 1) #[.int .i64 va, .int .i64 vb, .string { data := vs }] (by omega))
  clear hG9 hK9
  go_wp2_with (refine wpList_store_row rfl 24 (.tmp 8) (.tmp 92) rfl (w.heap.size + 1 + 1) #[.int .i64 va, .int .i64 vb, .string { data := vs }] rfl rfl 24 _ HC9.out (by rw [size24]; rfl) rfl (by simp [Value.oneCell']) ?_)
  exact bodyPost_ret (v := .tuple #[.agg #[.int .i64 va, .int .i64 vb, .string { data := vs }], .string { data := why }]) (res11 _ _ (w.heap.size + 1 + 1) _ rfl HROW.out) rfl ⟨rfl, HGF.out, HKF.out⟩

set_option maxRecDepth 10000 in
set_option maxHeartbeats 2000000 in
theorem ro_join23 (n n' : Int) (t t' : Array UInt8) (w : World)  (hcx : ∀ W, Calls Tryd.prog 15 #[.agg #[.int .i64 2, .int .i64 n, .string { data := t }]] W fun e w' => e = .returned (.bool true) ∧ Below W.heap.size W w') (hcy : ∀ W, Calls Tryd.prog 15 #[.agg #[.int .i64 3, .int .i64 n', .string { data := t' }]] W fun e w' => e = .returned (.bool true) ∧ Below W.heap.size W w') (G : Nat) (c s s' : Int) (T T' : Array UInt8) (hl : ((T.size : Int)) + (T'.size : Int) ≤ 2000) (va vb : Int) (vs why : Array UInt8) (ht : TAB w) (hg : w.heap[G]? = some (.cells #[.slice none 0 0, .int .i64 c, .int .i64 s] 38 (0, 0))) (hj1 : ∀ W, TAB W → Calls Tryd.prog 23 #[.agg #[.int .i64 2, .int .i64 n, .string { data := t }]] W fun e w' => e = .returned (.tuple #[.string { data := T }, .bool true]) ∧ Below W.heap.size W w') (hj2 : ∀ W, TAB W → Calls Tryd.prog 23 #[.agg #[.int .i64 3, .int .i64 n', .string { data := t' }]] W fun e w' => e = .returned (.tuple #[.string { data := T' }, .bool true]) ∧ Below W.heap.size W w') (hm : ∀ W, W.heap[G]? = some (.cells #[.slice none 0 0, .int .i64 c, .int .i64 s] 38 (0, 0)) → Calls Tryd.prog 24 #[.pointer (some ⟨G, 0, none⟩), .string ({ data := T } ++ { data := T' })] W fun e w' => e = .returned (.tuple #[.agg #[.int .i64 va, .int .i64 vb, .string { data := vs }], .string { data := why }]) ∧ w'.heap[G]? = some (.cells #[.slice none 0 0, .int .i64 c, .int .i64 s'] 38 (0, 0)) ∧ KB G W w') :
    Calls Tryd.prog 11 #[.pointer (some ⟨G, 0, none⟩), .string { data := #[46, 46] }, .agg #[.int .i64 2, .int .i64 n, .string { data := t }], .agg #[.int .i64 3, .int .i64 n', .string { data := t' }]] w fun e w' => e = .returned (.tuple #[.agg #[.int .i64 va, .int .i64 vb, .string { data := vs }], .string { data := why }]) ∧ w'.heap[G]? = some (.cells #[.slice none 0 0, .int .i64 c, .int .i64 s'] 38 (0, 0)) ∧ KB G w w' := by
  obtain ⟨ha, hb, hc, hB⟩ := three w (.cells #[.int .i64 2, .int .i64 n, .string { data := t }] 24) (.cells #[.int .i64 3, .int .i64 n', .string { data := t' }] 24) (.cells #[.int .i64 0, .int .i64 0, .string { data := #[] }] 24)
  have HA := Lib.hid ha
  have HBB := Lib.hid hb
  have HC := Lib.hid hc
  have HB := Lib.hid hB
  have HCX := Lib.hid hcx
  have HCY := Lib.hid hcy
  have HJ1 := Lib.hid hj1
  have HJ2 := Lib.hid hj2
  have HM := Lib.hid hm
  have HT := Lib.hid ht
  have HG := Lib.hid hg
  have HGL := Lib.hid (hlt hg)
  clear hj1 hj2 hm ht hg
  clear ha hb hc hB hcx hcy
  go_enter Tryd.func11, Tryd.ntmps11
  go_wp2_with fail
  generalize (((w.alloc (.cells #[.int .i64 2, .int .i64 n, .string { data := t }] 24)).alloc (.cells #[.int .i64 3, .int .i64 n', .string { data := t' }] 24)).alloc (.cells #[.int .i64 0, .int .i64 0, .string { data := #[] }] 24)) = w3 at *
  refine (HCX.out w3).mono ?_
  rintro e w4 ⟨rfl, hb4⟩
  have HA4 := Lib.hid ((hb4.block _ (hlt HA.out)).trans HA.out)
  have HBB4 := Lib.hid ((hb4.block _ (hlt HBB.out)).trans HBB.out)
  have HC4 := Lib.hid ((hb4.block _ (hlt HC.out)).trans HC.out)
  have HB4 := Lib.hid (HB.out.trans (hb4.mono HB.out.size))
  obtain ⟨y0, y1, y2⟩ := box3 HBB4.out
  clear hb4 HA HBB HC HB
  go_wp2_with fail
  refine (HCY.out w4).mono ?_
  rintro e w5 ⟨rfl, hb5⟩
  have HA5 := Lib.hid ((hb5.block _ (hlt HA4.out)).trans HA4.out)
  have HBB5 := Lib.hid ((hb5.block _ (hlt HBB4.out)).trans HBB4.out)
  have HC5 := Lib.hid ((hb5.block _ (hlt HC4.out)).trans HC4.out)
  have HB5 := Lib.hid (HB4.out.trans (hb5.mono HB4.out.size))
  clear y0 y1 y2 hb5 HA4 HBB4 HC4 HB4 HCX HCY
  obtain ⟨x0, x1, x2⟩ := box3 HA5.out
  obtain ⟨y0, y1, y2⟩ := box3 HBB5.out
  go_wp2_with fail
  go_quiet (fail)
  go_wp2_with fail
  have HT6 := Lib.hid (tab_below HT.out (below_drewN HB5.out nq))
  have HA6 : Hid ((w5.drewN nq).heap[w.heap.size]? = _) := Lib.hid HA5.out
  have HBB6 : Hid ((w5.drewN nq).heap[w.heap.size + 1]? = _) := Lib.hid HBB5.out
  have HC6 : Hid ((w5.drewN nq).heap[w.heap.size + 1 + 1]? = _) := Lib.hid HC5.out
  have HB6 := Lib.hid (below_drewN HB5.out nq)
  clear HA5 HBB5 HC5 HB5 x0 x1 x2 y0 y1 y2
  generalize w5.drewN nq = w6 at *
  refine (HJ1.out w6 HT6.out).mono ?_
  rintro e w7 ⟨rfl, hb7⟩
  have HT7 := Lib.hid (tab_below HT6.out hb7)
  have HBB7 := Lib.hid ((hb7.block _ (hlt HBB6.out)).trans HBB6.out)
  have HC7 := Lib.hid ((hb7.block _ (hlt HC6.out)).trans HC6.out)
  have HB7 := Lib.hid (HB6.out.trans (hb7.mono HB6.out.size))
  obtain ⟨y0, y1, y2⟩ := box3 HBB7.out
  clear hb7 HA6 HBB6 HC6 HB6 HT6
  go_wp2_with fail
  refine (HJ2.out w7 HT7.out).mono ?_
  rintro e w8 ⟨rfl, hb8⟩
  have HC8 := Lib.hid ((hb8.block _ (hlt HC7.out)).trans HC7.out)
  have HB8 := Lib.hid (HB7.out.trans (hb8.mono HB7.out.size))
  clear hb8 HBB7 HC7 HB7 HT7 y0 y1 y2
  have HK8 := Lib.hid (KB.of_below G HB8.out HGL.out)
  have HG8 := Lib.hid ((HB8.out.block _ HGL.out).trans HG.out)
  go_wp2_with fail
  refine (HM.out _ HG8.out).mono ?_
  rintro e w9 ⟨rfl, hG9, hK9⟩
  have hne : w.heap.size + 1 + 1 ≠ G := by have := HGL.out; omega
  have HC9 := Lib.hid ((hK9.same _ hne (hlt HC8.out)).trans HC8.out)
  have HROW := Lib.hid (setRow_at w9 (w.heap.size + 1 + 1) _ #[.int .i64 va, .int .i64 vb, .string { data := vs }] 24 (0, 0) HC9.out)
  have HGF := Lib.hid ((setRow_other w9 (w.heap.size + 1 + 1) G #[.int .i64 va, .int .i64 vb, .string { data := vs }] hne).trans hG9)
  have HKF := Lib.hid ((HK8.out.trans hK9).addRow (g := w.heap.size + 1 + 1) #[.int .i64 va, .int .i64 vb, .string { data := vs }] (by omega))
  clear hG9 hK9
  go_wp2_with (refine wpList_store_row rfl 24 (.tmp 8) (.tmp 92) rfl (w.heap.size + 1 + 1) #[.int .i64 va, .int .i64 vb, .string { data := vs }] rfl rfl 24 _ HC9.out (by rw [size24]; rfl) rfl (by simp [Value.oneCell']) ?_)
  exact bodyPost_ret (v := .tuple #[.agg #[.int .i64 va, .int .i64 vb, .string { data := vs }], .string { data := why }]) (res11 _ _ (w.heap.size + 1 + 1) _ rfl HROW.out) rfl ⟨rfl, HGF.out, HKF.out⟩

set_option maxRecDepth 10000 in
set_option maxHeartbeats 2000000 in
theorem ro_join32 (n n' : Int) (t t' : Array UInt8) (w : World)  (hcx : ∀ W, Calls Tryd.prog 15 #[.agg #[.int .i64 3, .int .i64 n, .string { data := t }]] W fun e w' => e = .returned (.bool true) ∧ Below W.heap.size W w') (hcy : ∀ W, Calls Tryd.prog 15 #[.agg #[.int .i64 2, .int .i64 n', .string { data := t' }]] W fun e w' => e = .returned (.bool true) ∧ Below W.heap.size W w') (G : Nat) (c s s' : Int) (T T' : Array UInt8) (hl : ((T.size : Int)) + (T'.size : Int) ≤ 2000) (va vb : Int) (vs why : Array UInt8) (ht : TAB w) (hg : w.heap[G]? = some (.cells #[.slice none 0 0, .int .i64 c, .int .i64 s] 38 (0, 0))) (hj1 : ∀ W, TAB W → Calls Tryd.prog 23 #[.agg #[.int .i64 3, .int .i64 n, .string { data := t }]] W fun e w' => e = .returned (.tuple #[.string { data := T }, .bool true]) ∧ Below W.heap.size W w') (hj2 : ∀ W, TAB W → Calls Tryd.prog 23 #[.agg #[.int .i64 2, .int .i64 n', .string { data := t' }]] W fun e w' => e = .returned (.tuple #[.string { data := T' }, .bool true]) ∧ Below W.heap.size W w') (hm : ∀ W, W.heap[G]? = some (.cells #[.slice none 0 0, .int .i64 c, .int .i64 s] 38 (0, 0)) → Calls Tryd.prog 24 #[.pointer (some ⟨G, 0, none⟩), .string ({ data := T } ++ { data := T' })] W fun e w' => e = .returned (.tuple #[.agg #[.int .i64 va, .int .i64 vb, .string { data := vs }], .string { data := why }]) ∧ w'.heap[G]? = some (.cells #[.slice none 0 0, .int .i64 c, .int .i64 s'] 38 (0, 0)) ∧ KB G W w') :
    Calls Tryd.prog 11 #[.pointer (some ⟨G, 0, none⟩), .string { data := #[46, 46] }, .agg #[.int .i64 3, .int .i64 n, .string { data := t }], .agg #[.int .i64 2, .int .i64 n', .string { data := t' }]] w fun e w' => e = .returned (.tuple #[.agg #[.int .i64 va, .int .i64 vb, .string { data := vs }], .string { data := why }]) ∧ w'.heap[G]? = some (.cells #[.slice none 0 0, .int .i64 c, .int .i64 s'] 38 (0, 0)) ∧ KB G w w' := by
  obtain ⟨ha, hb, hc, hB⟩ := three w (.cells #[.int .i64 3, .int .i64 n, .string { data := t }] 24) (.cells #[.int .i64 2, .int .i64 n', .string { data := t' }] 24) (.cells #[.int .i64 0, .int .i64 0, .string { data := #[] }] 24)
  have HA := Lib.hid ha
  have HBB := Lib.hid hb
  have HC := Lib.hid hc
  have HB := Lib.hid hB
  have HCX := Lib.hid hcx
  have HCY := Lib.hid hcy
  have HJ1 := Lib.hid hj1
  have HJ2 := Lib.hid hj2
  have HM := Lib.hid hm
  have HT := Lib.hid ht
  have HG := Lib.hid hg
  have HGL := Lib.hid (hlt hg)
  clear hj1 hj2 hm ht hg
  clear ha hb hc hB hcx hcy
  go_enter Tryd.func11, Tryd.ntmps11
  go_wp2_with fail
  generalize (((w.alloc (.cells #[.int .i64 3, .int .i64 n, .string { data := t }] 24)).alloc (.cells #[.int .i64 2, .int .i64 n', .string { data := t' }] 24)).alloc (.cells #[.int .i64 0, .int .i64 0, .string { data := #[] }] 24)) = w3 at *
  refine (HCX.out w3).mono ?_
  rintro e w4 ⟨rfl, hb4⟩
  have HA4 := Lib.hid ((hb4.block _ (hlt HA.out)).trans HA.out)
  have HBB4 := Lib.hid ((hb4.block _ (hlt HBB.out)).trans HBB.out)
  have HC4 := Lib.hid ((hb4.block _ (hlt HC.out)).trans HC.out)
  have HB4 := Lib.hid (HB.out.trans (hb4.mono HB.out.size))
  obtain ⟨y0, y1, y2⟩ := box3 HBB4.out
  clear hb4 HA HBB HC HB
  go_wp2_with fail
  refine (HCY.out w4).mono ?_
  rintro e w5 ⟨rfl, hb5⟩
  have HA5 := Lib.hid ((hb5.block _ (hlt HA4.out)).trans HA4.out)
  have HBB5 := Lib.hid ((hb5.block _ (hlt HBB4.out)).trans HBB4.out)
  have HC5 := Lib.hid ((hb5.block _ (hlt HC4.out)).trans HC4.out)
  have HB5 := Lib.hid (HB4.out.trans (hb5.mono HB4.out.size))
  clear y0 y1 y2 hb5 HA4 HBB4 HC4 HB4 HCX HCY
  obtain ⟨x0, x1, x2⟩ := box3 HA5.out
  obtain ⟨y0, y1, y2⟩ := box3 HBB5.out
  go_wp2_with fail
  go_quiet (fail)
  go_wp2_with fail
  have HT6 := Lib.hid (tab_below HT.out (below_drewN HB5.out nq))
  have HA6 : Hid ((w5.drewN nq).heap[w.heap.size]? = _) := Lib.hid HA5.out
  have HBB6 : Hid ((w5.drewN nq).heap[w.heap.size + 1]? = _) := Lib.hid HBB5.out
  have HC6 : Hid ((w5.drewN nq).heap[w.heap.size + 1 + 1]? = _) := Lib.hid HC5.out
  have HB6 := Lib.hid (below_drewN HB5.out nq)
  clear HA5 HBB5 HC5 HB5 x0 x1 x2 y0 y1 y2
  generalize w5.drewN nq = w6 at *
  refine (HJ1.out w6 HT6.out).mono ?_
  rintro e w7 ⟨rfl, hb7⟩
  have HT7 := Lib.hid (tab_below HT6.out hb7)
  have HBB7 := Lib.hid ((hb7.block _ (hlt HBB6.out)).trans HBB6.out)
  have HC7 := Lib.hid ((hb7.block _ (hlt HC6.out)).trans HC6.out)
  have HB7 := Lib.hid (HB6.out.trans (hb7.mono HB6.out.size))
  obtain ⟨y0, y1, y2⟩ := box3 HBB7.out
  clear hb7 HA6 HBB6 HC6 HB6 HT6
  go_wp2_with fail
  refine (HJ2.out w7 HT7.out).mono ?_
  rintro e w8 ⟨rfl, hb8⟩
  have HC8 := Lib.hid ((hb8.block _ (hlt HC7.out)).trans HC7.out)
  have HB8 := Lib.hid (HB7.out.trans (hb8.mono HB7.out.size))
  clear hb8 HBB7 HC7 HB7 HT7 y0 y1 y2
  have HK8 := Lib.hid (KB.of_below G HB8.out HGL.out)
  have HG8 := Lib.hid ((HB8.out.block _ HGL.out).trans HG.out)
  go_wp2_with fail
  refine (HM.out _ HG8.out).mono ?_
  rintro e w9 ⟨rfl, hG9, hK9⟩
  have hne : w.heap.size + 1 + 1 ≠ G := by have := HGL.out; omega
  have HC9 := Lib.hid ((hK9.same _ hne (hlt HC8.out)).trans HC8.out)
  have HROW := Lib.hid (setRow_at w9 (w.heap.size + 1 + 1) _ #[.int .i64 va, .int .i64 vb, .string { data := vs }] 24 (0, 0) HC9.out)
  have HGF := Lib.hid ((setRow_other w9 (w.heap.size + 1 + 1) G #[.int .i64 va, .int .i64 vb, .string { data := vs }] hne).trans hG9)
  have HKF := Lib.hid ((HK8.out.trans hK9).addRow (g := w.heap.size + 1 + 1) #[.int .i64 va, .int .i64 vb, .string { data := vs }] (by omega))
  clear hG9 hK9
  go_wp2_with (refine wpList_store_row rfl 24 (.tmp 8) (.tmp 92) rfl (w.heap.size + 1 + 1) #[.int .i64 va, .int .i64 vb, .string { data := vs }] rfl rfl 24 _ HC9.out (by rw [size24]; rfl) rfl (by simp [Value.oneCell']) ?_)
  exact bodyPost_ret (v := .tuple #[.agg #[.int .i64 va, .int .i64 vb, .string { data := vs }], .string { data := why }]) (res11 _ _ (w.heap.size + 1 + 1) _ rfl HROW.out) rfl ⟨rfl, HGF.out, HKF.out⟩

set_option maxRecDepth 10000 in
set_option maxHeartbeats 2000000 in
theorem ro_join33 (n n' : Int) (t t' : Array UInt8) (w : World)  (hcx : ∀ W, Calls Tryd.prog 15 #[.agg #[.int .i64 3, .int .i64 n, .string { data := t }]] W fun e w' => e = .returned (.bool true) ∧ Below W.heap.size W w') (hcy : ∀ W, Calls Tryd.prog 15 #[.agg #[.int .i64 3, .int .i64 n', .string { data := t' }]] W fun e w' => e = .returned (.bool true) ∧ Below W.heap.size W w') (G : Nat) (c s s' : Int) (T T' : Array UInt8) (hl : ((T.size : Int)) + (T'.size : Int) ≤ 2000) (va vb : Int) (vs why : Array UInt8) (ht : TAB w) (hg : w.heap[G]? = some (.cells #[.slice none 0 0, .int .i64 c, .int .i64 s] 38 (0, 0))) (hj1 : ∀ W, TAB W → Calls Tryd.prog 23 #[.agg #[.int .i64 3, .int .i64 n, .string { data := t }]] W fun e w' => e = .returned (.tuple #[.string { data := T }, .bool true]) ∧ Below W.heap.size W w') (hj2 : ∀ W, TAB W → Calls Tryd.prog 23 #[.agg #[.int .i64 3, .int .i64 n', .string { data := t' }]] W fun e w' => e = .returned (.tuple #[.string { data := T' }, .bool true]) ∧ Below W.heap.size W w') (hm : ∀ W, W.heap[G]? = some (.cells #[.slice none 0 0, .int .i64 c, .int .i64 s] 38 (0, 0)) → Calls Tryd.prog 24 #[.pointer (some ⟨G, 0, none⟩), .string ({ data := T } ++ { data := T' })] W fun e w' => e = .returned (.tuple #[.agg #[.int .i64 va, .int .i64 vb, .string { data := vs }], .string { data := why }]) ∧ w'.heap[G]? = some (.cells #[.slice none 0 0, .int .i64 c, .int .i64 s'] 38 (0, 0)) ∧ KB G W w') :
    Calls Tryd.prog 11 #[.pointer (some ⟨G, 0, none⟩), .string { data := #[46, 46] }, .agg #[.int .i64 3, .int .i64 n, .string { data := t }], .agg #[.int .i64 3, .int .i64 n', .string { data := t' }]] w fun e w' => e = .returned (.tuple #[.agg #[.int .i64 va, .int .i64 vb, .string { data := vs }], .string { data := why }]) ∧ w'.heap[G]? = some (.cells #[.slice none 0 0, .int .i64 c, .int .i64 s'] 38 (0, 0)) ∧ KB G w w' := by
  obtain ⟨ha, hb, hc, hB⟩ := three w (.cells #[.int .i64 3, .int .i64 n, .string { data := t }] 24) (.cells #[.int .i64 3, .int .i64 n', .string { data := t' }] 24) (.cells #[.int .i64 0, .int .i64 0, .string { data := #[] }] 24)
  have HA := Lib.hid ha
  have HBB := Lib.hid hb
  have HC := Lib.hid hc
  have HB := Lib.hid hB
  have HCX := Lib.hid hcx
  have HCY := Lib.hid hcy
  have HJ1 := Lib.hid hj1
  have HJ2 := Lib.hid hj2
  have HM := Lib.hid hm
  have HT := Lib.hid ht
  have HG := Lib.hid hg
  have HGL := Lib.hid (hlt hg)
  clear hj1 hj2 hm ht hg
  clear ha hb hc hB hcx hcy
  go_enter Tryd.func11, Tryd.ntmps11
  go_wp2_with fail
  generalize (((w.alloc (.cells #[.int .i64 3, .int .i64 n, .string { data := t }] 24)).alloc (.cells #[.int .i64 3, .int .i64 n', .string { data := t' }] 24)).alloc (.cells #[.int .i64 0, .int .i64 0, .string { data := #[] }] 24)) = w3 at *
  refine (HCX.out w3).mono ?_
  rintro e w4 ⟨rfl, hb4⟩
  have HA4 := Lib.hid ((hb4.block _ (hlt HA.out)).trans HA.out)
  have HBB4 := Lib.hid ((hb4.block _ (hlt HBB.out)).trans HBB.out)
  have HC4 := Lib.hid ((hb4.block _ (hlt HC.out)).trans HC.out)
  have HB4 := Lib.hid (HB.out.trans (hb4.mono HB.out.size))
  obtain ⟨y0, y1, y2⟩ := box3 HBB4.out
  clear hb4 HA HBB HC HB
  go_wp2_with fail
  refine (HCY.out w4).mono ?_
  rintro e w5 ⟨rfl, hb5⟩
  have HA5 := Lib.hid ((hb5.block _ (hlt HA4.out)).trans HA4.out)
  have HBB5 := Lib.hid ((hb5.block _ (hlt HBB4.out)).trans HBB4.out)
  have HC5 := Lib.hid ((hb5.block _ (hlt HC4.out)).trans HC4.out)
  have HB5 := Lib.hid (HB4.out.trans (hb5.mono HB4.out.size))
  clear y0 y1 y2 hb5 HA4 HBB4 HC4 HB4 HCX HCY
  obtain ⟨x0, x1, x2⟩ := box3 HA5.out
  obtain ⟨y0, y1, y2⟩ := box3 HBB5.out
  go_wp2_with fail
  go_quiet (fail)
  go_wp2_with fail
  have HT6 := Lib.hid (tab_below HT.out (below_drewN HB5.out nq))
  have HA6 : Hid ((w5.drewN nq).heap[w.heap.size]? = _) := Lib.hid HA5.out
  have HBB6 : Hid ((w5.drewN nq).heap[w.heap.size + 1]? = _) := Lib.hid HBB5.out
  have HC6 : Hid ((w5.drewN nq).heap[w.heap.size + 1 + 1]? = _) := Lib.hid HC5.out
  have HB6 := Lib.hid (below_drewN HB5.out nq)
  clear HA5 HBB5 HC5 HB5 x0 x1 x2 y0 y1 y2
  generalize w5.drewN nq = w6 at *
  refine (HJ1.out w6 HT6.out).mono ?_
  rintro e w7 ⟨rfl, hb7⟩
  have HT7 := Lib.hid (tab_below HT6.out hb7)
  have HBB7 := Lib.hid ((hb7.block _ (hlt HBB6.out)).trans HBB6.out)
  have HC7 := Lib.hid ((hb7.block _ (hlt HC6.out)).trans HC6.out)
  have HB7 := Lib.hid (HB6.out.trans (hb7.mono HB6.out.size))
  obtain ⟨y0, y1, y2⟩ := box3 HBB7.out
  clear hb7 HA6 HBB6 HC6 HB6 HT6
  go_wp2_with fail
  refine (HJ2.out w7 HT7.out).mono ?_
  rintro e w8 ⟨rfl, hb8⟩
  have HC8 := Lib.hid ((hb8.block _ (hlt HC7.out)).trans HC7.out)
  have HB8 := Lib.hid (HB7.out.trans (hb8.mono HB7.out.size))
  clear hb8 HBB7 HC7 HB7 HT7 y0 y1 y2
  have HK8 := Lib.hid (KB.of_below G HB8.out HGL.out)
  have HG8 := Lib.hid ((HB8.out.block _ HGL.out).trans HG.out)
  go_wp2_with fail
  refine (HM.out _ HG8.out).mono ?_
  rintro e w9 ⟨rfl, hG9, hK9⟩
  have hne : w.heap.size + 1 + 1 ≠ G := by have := HGL.out; omega
  have HC9 := Lib.hid ((hK9.same _ hne (hlt HC8.out)).trans HC8.out)
  have HROW := Lib.hid (setRow_at w9 (w.heap.size + 1 + 1) _ #[.int .i64 va, .int .i64 vb, .string { data := vs }] 24 (0, 0) HC9.out)
  have HGF := Lib.hid ((setRow_other w9 (w.heap.size + 1 + 1) G #[.int .i64 va, .int .i64 vb, .string { data := vs }] hne).trans hG9)
  have HKF := Lib.hid ((HK8.out.trans hK9).addRow (g := w.heap.size + 1 + 1) #[.int .i64 va, .int .i64 vb, .string { data := vs }] (by omega))
  clear hG9 hK9
  go_wp2_with (refine wpList_store_row rfl 24 (.tmp 8) (.tmp 92) rfl (w.heap.size + 1 + 1) #[.int .i64 va, .int .i64 vb, .string { data := vs }] rfl rfl 24 _ HC9.out (by rw [size24]; rfl) rfl (by simp [Value.oneCell']) ?_)
  exact bodyPost_ret (v := .tuple #[.agg #[.int .i64 va, .int .i64 vb, .string { data := vs }], .string { data := why }]) (res11 _ _ (w.heap.size + 1 + 1) _ rfl HROW.out) rfl ⟨rfl, HGF.out, HKF.out⟩

set_option maxRecDepth 10000 in
set_option maxHeartbeats 2000000 in
theorem ro_joinbadB (g : Value) (n k' n' : Int) (t t' : Array UInt8) (w : World) (e : (k' == 2) = false) (hcx : ∀ W, Calls Tryd.prog 15 #[.agg #[.int .i64 2, .int .i64 n, .string { data := t }]] W fun e w' => e = .returned (.bool true) ∧ Below W.heap.size W w') (hcy : ∀ W, Calls Tryd.prog 15 #[.agg #[.int .i64 k', .int .i64 n', .string { data := t' }]] W fun e w' => e = .returned (.bool true) ∧ Below W.heap.size W w') (T T' : Array UInt8) (ht : TAB w) (hj1 : ∀ W, TAB W → Calls Tryd.prog 23 #[.agg #[.int .i64 2, .int .i64 n, .string { data := t }]] W fun e w' => e = .returned (.tuple #[.string { data := T }, .bool true]) ∧ Below W.heap.size W w') (hj2 : ∀ W, TAB W → Calls Tryd.prog 23 #[.agg #[.int .i64 k', .int .i64 n', .string { data := t' }]] W fun e w' => e = .returned (.tuple #[.string { data := T' }, .bool false]) ∧ Below W.heap.size W w') :
    Calls Tryd.prog 11 #[g, .string { data := #[46, 46] }, .agg #[.int .i64 2, .int .i64 n, .string { data := t }], .agg #[.int .i64 k', .int .i64 n', .string { data := t' }]] w fun e w' => e = .returned (.tuple #[.agg #[.int .i64 0, .int .i64 0, .string { data := #[] }], .string { data := #[116, 121, 112, 101] }]) ∧ Below w.heap.size w w' := by
  obtain ⟨ha, hb, hc, hB⟩ := three w (.cells #[.int .i64 2, .int .i64 n, .string { data := t }] 24) (.cells #[.int .i64 k', .int .i64 n', .string { data := t' }] 24) (.cells #[.int .i64 0, .int .i64 0, .string { data := #[] }] 24)
  have HA := Lib.hid ha
  have HBB := Lib.hid hb
  have HC := Lib.hid hc
  have HB := Lib.hid hB
  have HCX := Lib.hid hcx
  have HCY := Lib.hid hcy
  have HJ1 := Lib.hid hj1
  have HJ2 := Lib.hid hj2
  have HT := Lib.hid ht
  clear hj1 hj2 ht
  clear ha hb hc hB hcx hcy
  go_enter Tryd.func11, Tryd.ntmps11
  go_wp2_with fail
  generalize (((w.alloc (.cells #[.int .i64 2, .int .i64 n, .string { data := t }] 24)).alloc (.cells #[.int .i64 k', .int .i64 n', .string { data := t' }] 24)).alloc (.cells #[.int .i64 0, .int .i64 0, .string { data := #[] }] 24)) = w3 at *
  refine (HCX.out w3).mono ?_
  rintro e w4 ⟨rfl, hb4⟩
  have HA4 := Lib.hid ((hb4.block _ (hlt HA.out)).trans HA.out)
  have HBB4 := Lib.hid ((hb4.block _ (hlt HBB.out)).trans HBB.out)
  have HC4 := Lib.hid ((hb4.block _ (hlt HC.out)).trans HC.out)
  have HB4 := Lib.hid (HB.out.trans (hb4.mono HB.out.size))
  obtain ⟨y0, y1, y2⟩ := box3 HBB4.out
  clear hb4 HA HBB HC HB
  go_wp2_with fail
  refine (HCY.out w4).mono ?_
  rintro e w5 ⟨rfl, hb5⟩
  have HA5 := Lib.hid ((hb5.block _ (hlt HA4.out)).trans HA4.out)
  have HBB5 := Lib.hid ((hb5.block _ (hlt HBB4.out)).trans HBB4.out)
  have HC5 := Lib.hid ((hb5.block _ (hlt HC4.out)).trans HC4.out)
  have HB5 := Lib.hid (HB4.out.trans (hb5.mono HB4.out.size))
  clear y0 y1 y2 hb5 HA4 HBB4 HC4 HB4 HCX HCY
  obtain ⟨x0, x1, x2⟩ := box3 HA5.out
  obtain ⟨y0, y1, y2⟩ := box3 HBB5.out
  go_wp2_with fail
  go_quiet (fail)
  go_wp2_with fail
  have HT6 := Lib.hid (tab_below HT.out (below_drewN HB5.out nq))
  have HA6 : Hid ((w5.drewN nq).heap[w.heap.size]? = _) := Lib.hid HA5.out
  have HBB6 : Hid ((w5.drewN nq).heap[w.heap.size + 1]? = _) := Lib.hid HBB5.out
  have HC6 : Hid ((w5.drewN nq).heap[w.heap.size + 1 + 1]? = _) := Lib.hid HC5.out
  have HB6 := Lib.hid (below_drewN HB5.out nq)
  clear HA5 HBB5 HC5 HB5 x0 x1 x2 y0 y1 y2
  generalize w5.drewN nq = w6 at *
  refine (HJ1.out w6 HT6.out).mono ?_
  rintro e w7 ⟨rfl, hb7⟩
  have HT7 := Lib.hid (tab_below HT6.out hb7)
  have HBB7 := Lib.hid ((hb7.block _ (hlt HBB6.out)).trans HBB6.out)
  have HC7 := Lib.hid ((hb7.block _ (hlt HC6.out)).trans HC6.out)
  have HB7 := Lib.hid (HB6.out.trans (hb7.mono HB6.out.size))
  obtain ⟨y0, y1, y2⟩ := box3 HBB7.out
  clear hb7 HA6 HBB6 HC6 HB6 HT6
  go_wp2_with fail
  refine (HJ2.out w7 HT7.out).mono ?_
  rintro e w8 ⟨rfl, hb8⟩
  have HC8 := Lib.hid ((hb8.block _ (hlt HC7.out)).trans HC7.out)
  have HB8 := Lib.hid (HB7.out.trans (hb8.mono HB7.out.size))
  clear hb8 HBB7 HC7 HB7 HT7 y0 y1 y2
  have HROW := Lib.hid (setRow_at w8 (w.heap.size + 1 + 1) _ #[.int .i64 0, .int .i64 0, .string { data := #[] }] 24 (0, 0) HC8.out)
  have HBE := Lib.hid (setRow_below HB8.out (show w.heap.size ≤ w.heap.size + 1 + 1 by omega) #[.int .i64 0, .int .i64 0, .string { data := #[] }])
  go_wp2_with (refine wpList_store_row rfl 24 (.tmp 8) (.tmp 151) rfl (w.heap.size + 1 + 1) #[.int .i64 0, .int .i64 0, .string { data := #[] }] rfl rfl 24 _ HC8.out (by rw [size24]; rfl) rfl (by simp [Value.oneCell']) ?_)
  exact bodyPost_ret (v := .tuple #[.agg #[.int .i64 0, .int .i64 0, .string { data := #[] }], .string { data := #[116, 121, 112, 101] }]) (res11 _ _ (w.heap.size + 1 + 1) _ rfl HROW.out) rfl ⟨rfl, HBE.out⟩

set_option maxRecDepth 10000 in
set_option maxHeartbeats 2000000 in
theorem ro_joinbadD (g : Value) (n k' n' : Int) (t t' : Array UInt8) (w : World) (e : (k' == 3) = false) (hcx : ∀ W, Calls Tryd.prog 15 #[.agg #[.int .i64 3, .int .i64 n, .string { data := t }]] W fun e w' => e = .returned (.bool true) ∧ Below W.heap.size W w') (hcy : ∀ W, Calls Tryd.prog 15 #[.agg #[.int .i64 k', .int .i64 n', .string { data := t' }]] W fun e w' => e = .returned (.bool true) ∧ Below W.heap.size W w') (T T' : Array UInt8) (ht : TAB w) (hj1 : ∀ W, TAB W → Calls Tryd.prog 23 #[.agg #[.int .i64 3, .int .i64 n, .string { data := t }]] W fun e w' => e = .returned (.tuple #[.string { data := T }, .bool true]) ∧ Below W.heap.size W w') (hj2 : ∀ W, TAB W → Calls Tryd.prog 23 #[.agg #[.int .i64 k', .int .i64 n', .string { data := t' }]] W fun e w' => e = .returned (.tuple #[.string { data := T' }, .bool false]) ∧ Below W.heap.size W w') :
    Calls Tryd.prog 11 #[g, .string { data := #[46, 46] }, .agg #[.int .i64 3, .int .i64 n, .string { data := t }], .agg #[.int .i64 k', .int .i64 n', .string { data := t' }]] w fun e w' => e = .returned (.tuple #[.agg #[.int .i64 0, .int .i64 0, .string { data := #[] }], .string { data := #[116, 121, 112, 101] }]) ∧ Below w.heap.size w w' := by
  obtain ⟨ha, hb, hc, hB⟩ := three w (.cells #[.int .i64 3, .int .i64 n, .string { data := t }] 24) (.cells #[.int .i64 k', .int .i64 n', .string { data := t' }] 24) (.cells #[.int .i64 0, .int .i64 0, .string { data := #[] }] 24)
  have HA := Lib.hid ha
  have HBB := Lib.hid hb
  have HC := Lib.hid hc
  have HB := Lib.hid hB
  have HCX := Lib.hid hcx
  have HCY := Lib.hid hcy
  have HJ1 := Lib.hid hj1
  have HJ2 := Lib.hid hj2
  have HT := Lib.hid ht
  clear hj1 hj2 ht
  clear ha hb hc hB hcx hcy
  go_enter Tryd.func11, Tryd.ntmps11
  go_wp2_with fail
  generalize (((w.alloc (.cells #[.int .i64 3, .int .i64 n, .string { data := t }] 24)).alloc (.cells #[.int .i64 k', .int .i64 n', .string { data := t' }] 24)).alloc (.cells #[.int .i64 0, .int .i64 0, .string { data := #[] }] 24)) = w3 at *
  refine (HCX.out w3).mono ?_
  rintro e w4 ⟨rfl, hb4⟩
  have HA4 := Lib.hid ((hb4.block _ (hlt HA.out)).trans HA.out)
  have HBB4 := Lib.hid ((hb4.block _ (hlt HBB.out)).trans HBB.out)
  have HC4 := Lib.hid ((hb4.block _ (hlt HC.out)).trans HC.out)
  have HB4 := Lib.hid (HB.out.trans (hb4.mono HB.out.size))
  obtain ⟨y0, y1, y2⟩ := box3 HBB4.out
  clear hb4 HA HBB HC HB
  go_wp2_with fail
  refine (HCY.out w4).mono ?_
  rintro e w5 ⟨rfl, hb5⟩
  have HA5 := Lib.hid ((hb5.block _ (hlt HA4.out)).trans HA4.out)
  have HBB5 := Lib.hid ((hb5.block _ (hlt HBB4.out)).trans HBB4.out)
  have HC5 := Lib.hid ((hb5.block _ (hlt HC4.out)).trans HC4.out)
  have HB5 := Lib.hid (HB4.out.trans (hb5.mono HB4.out.size))
  clear y0 y1 y2 hb5 HA4 HBB4 HC4 HB4 HCX HCY
  obtain ⟨x0, x1, x2⟩ := box3 HA5.out
  obtain ⟨y0, y1, y2⟩ := box3 HBB5.out
  go_wp2_with fail
  go_quiet (fail)
  go_wp2_with fail
  have HT6 := Lib.hid (tab_below HT.out (below_drewN HB5.out nq))
  have HA6 : Hid ((w5.drewN nq).heap[w.heap.size]? = _) := Lib.hid HA5.out
  have HBB6 : Hid ((w5.drewN nq).heap[w.heap.size + 1]? = _) := Lib.hid HBB5.out
  have HC6 : Hid ((w5.drewN nq).heap[w.heap.size + 1 + 1]? = _) := Lib.hid HC5.out
  have HB6 := Lib.hid (below_drewN HB5.out nq)
  clear HA5 HBB5 HC5 HB5 x0 x1 x2 y0 y1 y2
  generalize w5.drewN nq = w6 at *
  refine (HJ1.out w6 HT6.out).mono ?_
  rintro e w7 ⟨rfl, hb7⟩
  have HT7 := Lib.hid (tab_below HT6.out hb7)
  have HBB7 := Lib.hid ((hb7.block _ (hlt HBB6.out)).trans HBB6.out)
  have HC7 := Lib.hid ((hb7.block _ (hlt HC6.out)).trans HC6.out)
  have HB7 := Lib.hid (HB6.out.trans (hb7.mono HB6.out.size))
  obtain ⟨y0, y1, y2⟩ := box3 HBB7.out
  clear hb7 HA6 HBB6 HC6 HB6 HT6
  go_wp2_with fail
  refine (HJ2.out w7 HT7.out).mono ?_
  rintro e w8 ⟨rfl, hb8⟩
  have HC8 := Lib.hid ((hb8.block _ (hlt HC7.out)).trans HC7.out)
  have HB8 := Lib.hid (HB7.out.trans (hb8.mono HB7.out.size))
  clear hb8 HBB7 HC7 HB7 HT7 y0 y1 y2
  have HROW := Lib.hid (setRow_at w8 (w.heap.size + 1 + 1) _ #[.int .i64 0, .int .i64 0, .string { data := #[] }] 24 (0, 0) HC8.out)
  have HBE := Lib.hid (setRow_below HB8.out (show w.heap.size ≤ w.heap.size + 1 + 1 by omega) #[.int .i64 0, .int .i64 0, .string { data := #[] }])
  go_wp2_with (refine wpList_store_row rfl 24 (.tmp 8) (.tmp 151) rfl (w.heap.size + 1 + 1) #[.int .i64 0, .int .i64 0, .string { data := #[] }] rfl rfl 24 _ HC8.out (by rw [size24]; rfl) rfl (by simp [Value.oneCell']) ?_)
  exact bodyPost_ret (v := .tuple #[.agg #[.int .i64 0, .int .i64 0, .string { data := #[] }], .string { data := #[116, 121, 112, 101] }]) (res11 _ _ (w.heap.size + 1 + 1) _ rfl HROW.out) rfl ⟨rfl, HBE.out⟩

set_option maxRecDepth 10000 in
set_option maxHeartbeats 2000000 in
theorem ro_joinbadE (g : Value) (k n k' n' : Int) (t t' : Array UInt8) (w : World) (e : (k == 2) = false) (e3 : (k == 3) = false) (hcx : ∀ W, Calls Tryd.prog 15 #[.agg #[.int .i64 k, .int .i64 n, .string { data := t }]] W fun e w' => e = .returned (.bool true) ∧ Below W.heap.size W w') (hcy : ∀ W, Calls Tryd.prog 15 #[.agg #[.int .i64 k', .int .i64 n', .string { data := t' }]] W fun e w' => e = .returned (.bool true) ∧ Below W.heap.size W w') (b' : Bool) (T T' : Array UInt8) (ht : TAB w) (hj1 : ∀ W, TAB W → Calls Tryd.prog 23 #[.agg #[.int .i64 k, .int .i64 n, .string { data := t }]] W fun e w' => e = .returned (.tuple #[.string { data := T }, .bool false]) ∧ Below W.heap.size W w') (hj2 : ∀ W, TAB W → Calls Tryd.prog 23 #[.agg #[.int .i64 k', .int .i64 n', .string { data := t' }]] W fun e w' => e = .returned (.tuple #[.string { data := T' }, .bool b']) ∧ Below W.heap.size W w') :
    Calls Tryd.prog 11 #[g, .string { data := #[46, 46] }, .agg #[.int .i64 k, .int .i64 n, .string { data := t }], .agg #[.int .i64 k', .int .i64 n', .string { data := t' }]] w fun e w' => e = .returned (.tuple #[.agg #[.int .i64 0, .int .i64 0, .string { data := #[] }], .string { data := #[116, 121, 112, 101] }]) ∧ Below w.heap.size w w' := by
  obtain ⟨ha, hb, hc, hB⟩ := three w (.cells #[.int .i64 k, .int .i64 n, .string { data := t }] 24) (.cells #[.int .i64 k', .int .i64 n', .string { data := t' }] 24) (.cells #[.int .i64 0, .int .i64 0, .string { data := #[] }] 24)
  have HA := Lib.hid ha
  have HBB := Lib.hid hb
  have HC := Lib.hid hc
  have HB := Lib.hid hB
  have HCX := Lib.hid hcx
  have HCY := Lib.hid hcy
  have HJ1 := Lib.hid hj1
  have HJ2 := Lib.hid hj2
  have HT := Lib.hid ht
  clear hj1 hj2 ht
  clear ha hb hc hB hcx hcy
  go_enter Tryd.func11, Tryd.ntmps11
  go_wp2_with fail
  generalize (((w.alloc (.cells #[.int .i64 k, .int .i64 n, .string { data := t }] 24)).alloc (.cells #[.int .i64 k', .int .i64 n', .string { data := t' }] 24)).alloc (.cells #[.int .i64 0, .int .i64 0, .string { data := #[] }] 24)) = w3 at *
  refine (HCX.out w3).mono ?_
  rintro e w4 ⟨rfl, hb4⟩
  have HA4 := Lib.hid ((hb4.block _ (hlt HA.out)).trans HA.out)
  have HBB4 := Lib.hid ((hb4.block _ (hlt HBB.out)).trans HBB.out)
  have HC4 := Lib.hid ((hb4.block _ (hlt HC.out)).trans HC.out)
  have HB4 := Lib.hid (HB.out.trans (hb4.mono HB.out.size))
  obtain ⟨y0, y1, y2⟩ := box3 HBB4.out
  clear hb4 HA HBB HC HB
  go_wp2_with fail
  refine (HCY.out w4).mono ?_
  rintro e w5 ⟨rfl, hb5⟩
  have HA5 := Lib.hid ((hb5.block _ (hlt HA4.out)).trans HA4.out)
  have HBB5 := Lib.hid ((hb5.block _ (hlt HBB4.out)).trans HBB4.out)
  have HC5 := Lib.hid ((hb5.block _ (hlt HC4.out)).trans HC4.out)
  have HB5 := Lib.hid (HB4.out.trans (hb5.mono HB4.out.size))
  clear y0 y1 y2 hb5 HA4 HBB4 HC4 HB4 HCX HCY
  obtain ⟨x0, x1, x2⟩ := box3 HA5.out
  obtain ⟨y0, y1, y2⟩ := box3 HBB5.out
  go_wp2_with fail
  go_quiet (fail)
  go_wp2_with fail
  have HT6 := Lib.hid (tab_below HT.out (below_drewN HB5.out nq))
  have HA6 : Hid ((w5.drewN nq).heap[w.heap.size]? = _) := Lib.hid HA5.out
  have HBB6 : Hid ((w5.drewN nq).heap[w.heap.size + 1]? = _) := Lib.hid HBB5.out
  have HC6 : Hid ((w5.drewN nq).heap[w.heap.size + 1 + 1]? = _) := Lib.hid HC5.out
  have HB6 := Lib.hid (below_drewN HB5.out nq)
  clear HA5 HBB5 HC5 HB5 x0 x1 x2 y0 y1 y2
  generalize w5.drewN nq = w6 at *
  refine (HJ1.out w6 HT6.out).mono ?_
  rintro e w7 ⟨rfl, hb7⟩
  have HT7 := Lib.hid (tab_below HT6.out hb7)
  have HBB7 := Lib.hid ((hb7.block _ (hlt HBB6.out)).trans HBB6.out)
  have HC7 := Lib.hid ((hb7.block _ (hlt HC6.out)).trans HC6.out)
  have HB7 := Lib.hid (HB6.out.trans (hb7.mono HB6.out.size))
  obtain ⟨y0, y1, y2⟩ := box3 HBB7.out
  clear hb7 HA6 HBB6 HC6 HB6 HT6
  go_wp2_with fail
  refine (HJ2.out w7 HT7.out).mono ?_
  rintro e w8 ⟨rfl, hb8⟩
  have HC8 := Lib.hid ((hb8.block _ (hlt HC7.out)).trans HC7.out)
  have HB8 := Lib.hid (HB7.out.trans (hb8.mono HB7.out.size))
  clear hb8 HBB7 HC7 HB7 HT7 y0 y1 y2
  have HROW := Lib.hid (setRow_at w8 (w.heap.size + 1 + 1) _ #[.int .i64 0, .int .i64 0, .string { data := #[] }] 24 (0, 0) HC8.out)
  have HBE := Lib.hid (setRow_below HB8.out (show w.heap.size ≤ w.heap.size + 1 + 1 by omega) #[.int .i64 0, .int .i64 0, .string { data := #[] }])
  go_wp2_with (refine wpList_store_row rfl 24 (.tmp 8) (.tmp 151) rfl (w.heap.size + 1 + 1) #[.int .i64 0, .int .i64 0, .string { data := #[] }] rfl rfl 24 _ HC8.out (by rw [size24]; rfl) rfl (by simp [Value.oneCell']) ?_)
  exact bodyPost_ret (v := .tuple #[.agg #[.int .i64 0, .int .i64 0, .string { data := #[] }], .string { data := #[116, 121, 112, 101] }]) (res11 _ _ (w.heap.size + 1 + 1) _ rfl HROW.out) rfl ⟨rfl, HBE.out⟩
end Go.Proofs.YthbnhplkoomdhaaDoor
