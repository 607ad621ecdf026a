/- The reference: two texts in order. -/
import Derived.Test.YthbnhplkoomdhaaDoorRefM
import Derived.Test.YthbnhplkoomdhaaDoorQuiet
namespace Go.Proofs.YthbnhplkoomdhaaDoor
open Go Go.RowKit
set_option maxRecDepth 10000 in
set_option maxHeartbeats 2000000 in
theorem ro_ltt10 (g : Value) (n k' n' : Int) (t t' : Array UInt8) (w : World) (e : (k' == 3) = true) (hcx : ∀ W, Calls Tryd.prog 15 #[.agg #[.int .i64 3, .int .i64 n, .string { data := t }]] W fun e w' => e = .returned (.bool true) ∧ Below W.heap.size W w') (hcy : ∀ W, Calls Tryd.prog 15 #[.agg #[.int .i64 k', .int .i64 n', .string { data := t' }]] W fun e w' => e = .returned (.bool true) ∧ Below W.heap.size W w') (hls : ∀ W, Calls Tryd.prog 25 #[.string { data := t }, .string { data := t' }] W fun e w' => e = .returned (.bool true) ∧ ∃ n, w' = W.drewN n) (d2 : ((ByteArray.mk t).toList == (ByteArray.mk t').toList) = false) :
    Calls Tryd.prog 11 #[g, .string { data := #[60] }, .agg #[.int .i64 3, .int .i64 n, .string { data := t }], .agg #[.int .i64 k', .int .i64 n', .string { data := t' }]] w fun e w' => e = .returned (.tuple #[.agg #[.int .i64 1, .int .i64 1, .string { data := #[] }], .string { data := #[] }]) ∧ Below w.heap.size w w' := by
  obtain ⟨ha, hb, hc, hB⟩ := three w (.cells #[.int .i64 3, .int .i64 n, .string { data := t }] 24) (.cells #[.int .i64 k', .int .i64 n', .string { data := t' }] 24) (.cells #[.int .i64 0, .int .i64 0, .string { data := #[] }] 24)
  have HA := Lib.hid ha
  have HBB := Lib.hid hb
  have HC := Lib.hid hc
  have HB := Lib.hid hB
  have HCX := Lib.hid hcx
  have HCY := Lib.hid hcy
  have HLS := Lib.hid hls
  clear hls
  clear ha hb hc hB hcx hcy
  go_enter Tryd.func11, Tryd.ntmps11
  go_wp2_with fail
  generalize (((w.alloc (.cells #[.int .i64 3, .int .i64 n, .string { data := t }] 24)).alloc (.cells #[.int .i64 k', .int .i64 n', .string { data := t' }] 24)).alloc (.cells #[.int .i64 0, .int .i64 0, .string { data := #[] }] 24)) = w3 at *
  refine (HCX.out w3).mono ?_
  rintro e w4 ⟨rfl, hb4⟩
  have HA4 := Lib.hid ((hb4.block _ (hlt HA.out)).trans HA.out)
  have HBB4 := Lib.hid ((hb4.block _ (hlt HBB.out)).trans HBB.out)
  have HC4 := Lib.hid ((hb4.block _ (hlt HC.out)).trans HC.out)
  have HB4 := Lib.hid (HB.out.trans (hb4.mono HB.out.size))
  obtain ⟨y0, y1, y2⟩ := box3 HBB4.out
  clear hb4 HA HBB HC HB
  go_wp2_with fail
  refine (HCY.out w4).mono ?_
  rintro e w5 ⟨rfl, hb5⟩
  have HA5 := Lib.hid ((hb5.block _ (hlt HA4.out)).trans HA4.out)
  have HBB5 := Lib.hid ((hb5.block _ (hlt HBB4.out)).trans HBB4.out)
  have HC5 := Lib.hid ((hb5.block _ (hlt HC4.out)).trans HC4.out)
  have HB5 := Lib.hid (HB4.out.trans (hb5.mono HB4.out.size))
  clear y0 y1 y2 hb5 HA4 HBB4 HC4 HB4 HCX HCY
  obtain ⟨x0, x1, x2⟩ := box3 HA5.out
  obtain ⟨y0, y1, y2⟩ := box3 HBB5.out
  go_wp2_with fail
  go_quiet (fail)
  go_wp2_with fail
  rename Nat => nqa
  go_quiet (fail)
  go_wp2_with fail
  have HB6 := Lib.hid (below_drewN (below_drewN HB5.out nqa) nq)
  have HA6 : Hid (((w5.drewN nqa).drewN nq).heap[w.heap.size]? = _) := Lib.hid HA5.out
  have HBB6 : Hid (((w5.drewN nqa).drewN nq).heap[w.heap.size + 1]? = _) := Lib.hid HBB5.out
  have HC6 : Hid (((w5.drewN nqa).drewN nq).heap[w.heap.size + 1 + 1]? = _) := Lib.hid HC5.out
  clear HA5 HBB5 HC5 HB5 x0 x1 x2 y0 y1 y2
  generalize ((w5.drewN nqa).drewN nq) = wq at *
  have zA : ∀ x : InW (Grown wq), x.w.heap[w.heap.size]? = some (.cells #[.int .i64 3, .int .i64 n, .string { data := t }] 24 (0, 0)) := fun x => (x.h.block _ (hlt HA6.out)).trans HA6.out
  have zA0 : ∀ x : InW (Grown wq), x.w.cell? ⟨w.heap.size, 0, none⟩ = some (.int .i64 3) := fun x => (box3 (zA x)).1
  have zA1 : ∀ x : InW (Grown wq), x.w.cell? ⟨w.heap.size, 1, none⟩ = some (.int .i64 n) := fun x => (box3 (zA x)).2.1
  have zA2 : ∀ x : InW (Grown wq), x.w.cell? ⟨w.heap.size, 2, none⟩ = some (.string { data := t }) := fun x => (box3 (zA x)).2.2
  clear zA
  have zB : ∀ x : InW (Grown wq), x.w.heap[w.heap.size + 1]? = some (.cells #[.int .i64 k', .int .i64 n', .string { data := t' }] 24 (0, 0)) := fun x => (x.h.block _ (hlt HBB6.out)).trans HBB6.out
  have zB0 : ∀ x : InW (Grown wq), x.w.cell? ⟨w.heap.size + 1, 0, none⟩ = some (.int .i64 k') := fun x => (box3 (zB x)).1
  have zB1 : ∀ x : InW (Grown wq), x.w.cell? ⟨w.heap.size + 1, 1, none⟩ = some (.int .i64 n') := fun x => (box3 (zB x)).2.1
  have zB2 : ∀ x : InW (Grown wq), x.w.cell? ⟨w.heap.size + 1, 2, none⟩ = some (.string { data := t' }) := fun x => (box3 (zB x)).2.2
  clear zB
  have H1 : Hid (∀ x : InW (Grown wq), Calls Tryd.prog 25 #[.string { data := t }, .string { data := t' }] x.w (RetIn (Grown wq) (.bool true))) := Lib.hid fun x => ret_drew (HLS.out x.w)
  have HIN : Nonempty (InW (Grown wq)) := ⟨⟨wq, Below.refl _ _⟩⟩
  refine region_in (Grown wq) (by kernel_rfl) (by kernel_rfl) (Below.refl _ _).drew ?_
  repeat (go_big_quiet_step ((rename_i x; with_reducible exact H1.out x)))
  refine wpQuiet_nil ?_
  rintro _ ⟨x, rfl⟩
  have HC5 := Lib.hid ((x.h.block _ (hlt HC6.out)).trans HC6.out)
  have HB7 := Lib.hid (HB6.out.trans (x.h.mono HB6.out.size))
  clear zA0 zA1 zA2 zB0 zB1 zB2 HIN
  generalize x.w = w7 at *
  go_wp2_with fail
  refine (rb1 _).mono ?_
  rintro e w6 ⟨rfl, hb6⟩
  have HC7 := Lib.hid ((hb6.block _ (hlt HC5.out)).trans HC5.out)
  have HROW := Lib.hid (setRow_at w6 (w.heap.size + 1 + 1) _ #[.int .i64 1, .int .i64 1, .string { data := #[] }] 24 (0, 0) HC7.out)
  have HBE := Lib.hid (setRow_below (HB7.out.trans (hb6.mono HB7.out.size)) (show w.heap.size ≤ w.heap.size + 1 + 1 by omega) #[.int .i64 1, .int .i64 1, .string { data := #[] }])
  clear hb6
  go_wp2_with (refine wpList_store_row rfl 24 (.tmp 8) (.tmp 131) rfl (w.heap.size + 1 + 1) #[.int .i64 1, .int .i64 1, .string { data := #[] }] rfl rfl 24 _ HC7.out (by rw [size24]; rfl) rfl (by simp [Value.oneCell']) ?_)
  exact bodyPost_ret (v := .tuple #[.agg #[.int .i64 1, .int .i64 1, .string { data := #[] }], .string { data := #[] }]) (res11 _ _ (w.heap.size + 1 + 1) _ rfl HROW.out) rfl ⟨rfl, HBE.out⟩

set_option maxRecDepth 10000 in
set_option maxHeartbeats 2000000 in
theorem ro_ltt01 (g : Value) (n k' n' : Int) (t t' : Array UInt8) (w : World) (e : (k' == 3) = true) (hcx : ∀ W, Calls Tryd.prog 15 #[.agg #[.int .i64 3, .int .i64 n, .string { data := t }]] W fun e w' => e = .returned (.bool true) ∧ Below W.heap.size W w') (hcy : ∀ W, Calls Tryd.prog 15 #[.agg #[.int .i64 k', .int .i64 n', .string { data := t' }]] W fun e w' => e = .returned (.bool true) ∧ Below W.heap.size W w') (hls : ∀ W, Calls Tryd.prog 25 #[.string { data := t }, .string { data := t' }] W fun e w' => e = .returned (.bool false) ∧ ∃ n, w' = W.drewN n) (d2 : ((ByteArray.mk t).toList == (ByteArray.mk t').toList) = true) :
    Calls Tryd.prog 11 #[g, .string { data := #[60] }, .agg #[.int .i64 3, .int .i64 n, .string { data := t }], .agg #[.int .i64 k', .int .i64 n', .string { data := t' }]] w fun e w' => e = .returned (.tuple #[.agg #[.int .i64 1, .int .i64 0, .string { data := #[] }], .string { data := #[] }]) ∧ Below w.heap.size w w' := by
  obtain ⟨ha, hb, hc, hB⟩ := three w (.cells #[.int .i64 3, .int .i64 n, .string { data := t }] 24) (.cells #[.int .i64 k', .int .i64 n', .string { data := t' }] 24) (.cells #[.int .i64 0, .int .i64 0, .string { data := #[] }] 24)
  have HA := Lib.hid ha
  have HBB := Lib.hid hb
  have HC := Lib.hid hc
  have HB := Lib.hid hB
  have HCX := Lib.hid hcx
  have HCY := Lib.hid hcy
  have HLS := Lib.hid hls
  clear hls
  clear ha hb hc hB hcx hcy
  go_enter Tryd.func11, Tryd.ntmps11
  go_wp2_with fail
  generalize (((w.alloc (.cells #[.int .i64 3, .int .i64 n, .string { data := t }] 24)).alloc (.cells #[.int .i64 k', .int .i64 n', .string { data := t' }] 24)).alloc (.cells #[.int .i64 0, .int .i64 0, .string { data := #[] }] 24)) = w3 at *
  refine (HCX.out w3).mono ?_
  rintro e w4 ⟨rfl, hb4⟩
  have HA4 := Lib.hid ((hb4.block _ (hlt HA.out)).trans HA.out)
  have HBB4 := Lib.hid ((hb4.block _ (hlt HBB.out)).trans HBB.out)
  have HC4 := Lib.hid ((hb4.block _ (hlt HC.out)).trans HC.out)
  have HB4 := Lib.hid (HB.out.trans (hb4.mono HB.out.size))
  obtain ⟨y0, y1, y2⟩ := box3 HBB4.out
  clear hb4 HA HBB HC HB
  go_wp2_with fail
  refine (HCY.out w4).mono ?_
  rintro e w5 ⟨rfl, hb5⟩
  have HA5 := Lib.hid ((hb5.block _ (hlt HA4.out)).trans HA4.out)
  have HBB5 := Lib.hid ((hb5.block _ (hlt HBB4.out)).trans HBB4.out)
  have HC5 := Lib.hid ((hb5.block _ (hlt HC4.out)).trans HC4.out)
  have HB5 := Lib.hid (HB4.out.trans (hb5.mono HB4.out.size))
  clear y0 y1 y2 hb5 HA4 HBB4 HC4 HB4 HCX HCY
  obtain ⟨x0, x1, x2⟩ := box3 HA5.out
  obtain ⟨y0, y1, y2⟩ := box3 HBB5.out
  go_wp2_with fail
  go_quiet (fail)
  go_wp2_with fail
  rename Nat => nqa
  go_quiet (fail)
  go_wp2_with fail
  have HB6 := Lib.hid (below_drewN (below_drewN HB5.out nqa) nq)
  have HA6 : Hid (((w5.drewN nqa).drewN nq).heap[w.heap.size]? = _) := Lib.hid HA5.out
  have HBB6 : Hid (((w5.drewN nqa).drewN nq).heap[w.heap.size + 1]? = _) := Lib.hid HBB5.out
  have HC6 : Hid (((w5.drewN nqa).drewN nq).heap[w.heap.size + 1 + 1]? = _) := Lib.hid HC5.out
  clear HA5 HBB5 HC5 HB5 x0 x1 x2 y0 y1 y2
  generalize ((w5.drewN nqa).drewN nq) = wq at *
  have zA : ∀ x : InW (Grown wq), x.w.heap[w.heap.size]? = some (.cells #[.int .i64 3, .int .i64 n, .string { data := t }] 24 (0, 0)) := fun x => (x.h.block _ (hlt HA6.out)).trans HA6.out
  have zA0 : ∀ x : InW (Grown wq), x.w.cell? ⟨w.heap.size, 0, none⟩ = some (.int .i64 3) := fun x => (box3 (zA x)).1
  have zA1 : ∀ x : InW (Grown wq), x.w.cell? ⟨w.heap.size, 1, none⟩ = some (.int .i64 n) := fun x => (box3 (zA x)).2.1
  have zA2 : ∀ x : InW (Grown wq), x.w.cell? ⟨w.heap.size, 2, none⟩ = some (.string { data := t }) := fun x => (box3 (zA x)).2.2
  clear zA
  have zB : ∀ x : InW (Grown wq), x.w.heap[w.heap.size + 1]? = some (.cells #[.int .i64 k', .int .i64 n', .string { data := t' }] 24 (0, 0)) := fun x => (x.h.block _ (hlt HBB6.out)).trans HBB6.out
  have zB0 : ∀ x : InW (Grown wq), x.w.cell? ⟨w.heap.size + 1, 0, none⟩ = some (.int .i64 k') := fun x => (box3 (zB x)).1
  have zB1 : ∀ x : InW (Grown wq), x.w.cell? ⟨w.heap.size + 1, 1, none⟩ = some (.int .i64 n') := fun x => (box3 (zB x)).2.1
  have zB2 : ∀ x : InW (Grown wq), x.w.cell? ⟨w.heap.size + 1, 2, none⟩ = some (.string { data := t' }) := fun x => (box3 (zB x)).2.2
  clear zB
  have H1 : Hid (∀ x : InW (Grown wq), Calls Tryd.prog 25 #[.string { data := t }, .string { data := t' }] x.w (RetIn (Grown wq) (.bool false))) := Lib.hid fun x => ret_drew (HLS.out x.w)
  have HIN : Nonempty (InW (Grown wq)) := ⟨⟨wq, Below.refl _ _⟩⟩
  refine region_in (Grown wq) (by kernel_rfl) (by kernel_rfl) (Below.refl _ _).drew ?_
  repeat (go_big_quiet_step ((rename_i x; with_reducible exact H1.out x)))
  refine wpQuiet_nil ?_
  rintro _ ⟨x, rfl⟩
  have HC5 := Lib.hid ((x.h.block _ (hlt HC6.out)).trans HC6.out)
  have HB7 := Lib.hid (HB6.out.trans (x.h.mono HB6.out.size))
  clear zA0 zA1 zA2 zB0 zB1 zB2 HIN
  generalize x.w = w7 at *
  go_wp2_with fail
  refine (rb0 _).mono ?_
  rintro e w6 ⟨rfl, hb6⟩
  have HC7 := Lib.hid ((hb6.block _ (hlt HC5.out)).trans HC5.out)
  have HROW := Lib.hid (setRow_at w6 (w.heap.size + 1 + 1) _ #[.int .i64 1, .int .i64 0, .string { data := #[] }] 24 (0, 0) HC7.out)
  have HBE := Lib.hid (setRow_below (HB7.out.trans (hb6.mono HB7.out.size)) (show w.heap.size ≤ w.heap.size + 1 + 1 by omega) #[.int .i64 1, .int .i64 0, .string { data := #[] }])
  clear hb6
  go_wp2_with (refine wpList_store_row rfl 24 (.tmp 8) (.tmp 131) rfl (w.heap.size + 1 + 1) #[.int .i64 1, .int .i64 0, .string { data := #[] }] rfl rfl 24 _ HC7.out (by rw [size24]; rfl) rfl (by simp [Value.oneCell']) ?_)
  exact bodyPost_ret (v := .tuple #[.agg #[.int .i64 1, .int .i64 0, .string { data := #[] }], .string { data := #[] }]) (res11 _ _ (w.heap.size + 1 + 1) _ rfl HROW.out) rfl ⟨rfl, HBE.out⟩

set_option maxRecDepth 10000 in
set_option maxHeartbeats 2000000 in
theorem ro_ltt00 (g : Value) (n k' n' : Int) (t t' : Array UInt8) (w : World) (e : (k' == 3) = true) (hcx : ∀ W, Calls Tryd.prog 15 #[.agg #[.int .i64 3, .int .i64 n, .string { data := t }]] W fun e w' => e = .returned (.bool true) ∧ Below W.heap.size W w') (hcy : ∀ W, Calls Tryd.prog 15 #[.agg #[.int .i64 k', .int .i64 n', .string { data := t' }]] W fun e w' => e = .returned (.bool true) ∧ Below W.heap.size W w') (hls : ∀ W, Calls Tryd.prog 25 #[.string { data := t }, .string { data := t' }] W fun e w' => e = .returned (.bool false) ∧ ∃ n, w' = W.drewN n) (d2 : ((ByteArray.mk t).toList == (ByteArray.mk t').toList) = false) :
    Calls Tryd.prog 11 #[g, .string { data := #[60] }, .agg #[.int .i64 3, .int .i64 n, .string { data := t }], .agg #[.int .i64 k', .int .i64 n', .string { data := t' }]] w fun e w' => e = .returned (.tuple #[.agg #[.int .i64 1, .int .i64 0, .string { data := #[] }], .string { data := #[] }]) ∧ Below w.heap.size w w' := by
  obtain ⟨ha, hb, hc, hB⟩ := three w (.cells #[.int .i64 3, .int .i64 n, .string { data := t }] 24) (.cells #[.int .i64 k', .int .i64 n', .string { data := t' }] 24) (.cells #[.int .i64 0, .int .i64 0, .string { data := #[] }] 24)
  have HA := Lib.hid ha
  have HBB := Lib.hid hb
  have HC := Lib.hid hc
  have HB := Lib.hid hB
  have HCX := Lib.hid hcx
  have HCY := Lib.hid hcy
  have HLS := Lib.hid hls
  clear hls
  clear ha hb hc hB hcx hcy
  go_enter Tryd.func11, Tryd.ntmps11
  go_wp2_with fail
  generalize (((w.alloc (.cells #[.int .i64 3, .int .i64 n, .string { data := t }] 24)).alloc (.cells #[.int .i64 k', .int .i64 n', .string { data := t' }] 24)).alloc (.cells #[.int .i64 0, .int .i64 0, .string { data := #[] }] 24)) = w3 at *
  refine (HCX.out w3).mono ?_
  rintro e w4 ⟨rfl, hb4⟩
  have HA4 := Lib.hid ((hb4.block _ (hlt HA.out)).trans HA.out)
  have HBB4 := Lib.hid ((hb4.block _ (hlt HBB.out)).trans HBB.out)
  have HC4 := Lib.hid ((hb4.block _ (hlt HC.out)).trans HC.out)
  have HB4 := Lib.hid (HB.out.trans (hb4.mono HB.out.size))
  obtain ⟨y0, y1, y2⟩ := box3 HBB4.out
  clear hb4 HA HBB HC HB
  go_wp2_with fail
  refine (HCY.out w4).mono ?_
  rintro e w5 ⟨rfl, hb5⟩
  have HA5 := Lib.hid ((hb5.block _ (hlt HA4.out)).trans HA4.out)
  have HBB5 := Lib.hid ((hb5.block _ (hlt HBB4.out)).trans HBB4.out)
  have HC5 := Lib.hid ((hb5.block _ (hlt HC4.out)).trans HC4.out)
  have HB5 := Lib.hid (HB4.out.trans (hb5.mono HB4.out.size))
  clear y0 y1 y2 hb5 HA4 HBB4 HC4 HB4 HCX HCY
  obtain ⟨x0, x1, x2⟩ := box3 HA5.out
  obtain ⟨y0, y1, y2⟩ := box3 HBB5.out
  go_wp2_with fail
  go_quiet (fail)
  go_wp2_with fail
  rename Nat => nqa
  go_quiet (fail)
  go_wp2_with fail
  have HB6 := Lib.hid (below_drewN (below_drewN HB5.out nqa) nq)
  have HA6 : Hid (((w5.drewN nqa).drewN nq).heap[w.heap.size]? = _) := Lib.hid HA5.out
  have HBB6 : Hid (((w5.drewN nqa).drewN nq).heap[w.heap.size + 1]? = _) := Lib.hid HBB5.out
  have HC6 : Hid (((w5.drewN nqa).drewN nq).heap[w.heap.size + 1 + 1]? = _) := Lib.hid HC5.out
  clear HA5 HBB5 HC5 HB5 x0 x1 x2 y0 y1 y2
  generalize ((w5.drewN nqa).drewN nq) = wq at *
  have zA : ∀ x : InW (Grown wq), x.w.heap[w.heap.size]? = some (.cells #[.int .i64 3, .int .i64 n, .string { data := t }] 24 (0, 0)) := fun x => (x.h.block _ (hlt HA6.out)).trans HA6.out
  have zA0 : ∀ x : InW (Grown wq), x.w.cell? ⟨w.heap.size, 0, none⟩ = some (.int .i64 3) := fun x => (box3 (zA x)).1
  have zA1 : ∀ x : InW (Grown wq), x.w.cell? ⟨w.heap.size, 1, none⟩ = some (.int .i64 n) := fun x => (box3 (zA x)).2.1
  have zA2 : ∀ x : InW (Grown wq), x.w.cell? ⟨w.heap.size, 2, none⟩ = some (.string { data := t }) := fun x => (box3 (zA x)).2.2
  clear zA
  have zB : ∀ x : InW (Grown wq), x.w.heap[w.heap.size + 1]? = some (.cells #[.int .i64 k', .int .i64 n', .string { data := t' }] 24 (0, 0)) := fun x => (x.h.block _ (hlt HBB6.out)).trans HBB6.out
  have zB0 : ∀ x : InW (Grown wq), x.w.cell? ⟨w.heap.size + 1, 0, none⟩ = some (.int .i64 k') := fun x => (box3 (zB x)).1
  have zB1 : ∀ x : InW (Grown wq), x.w.cell? ⟨w.heap.size + 1, 1, none⟩ = some (.int .i64 n') := fun x => (box3 (zB x)).2.1
  have zB2 : ∀ x : InW (Grown wq), x.w.cell? ⟨w.heap.size + 1, 2, none⟩ = some (.string { data := t' }) := fun x => (box3 (zB x)).2.2
  clear zB
  have H1 : Hid (∀ x : InW (Grown wq), Calls Tryd.prog 25 #[.string { data := t }, .string { data := t' }] x.w (RetIn (Grown wq) (.bool false))) := Lib.hid fun x => ret_drew (HLS.out x.w)
  have HIN : Nonempty (InW (Grown wq)) := ⟨⟨wq, Below.refl _ _⟩⟩
  refine region_in (Grown wq) (by kernel_rfl) (by kernel_rfl) (Below.refl _ _).drew ?_
  repeat (go_big_quiet_step ((rename_i x; with_reducible exact H1.out x)))
  refine wpQuiet_nil ?_
  rintro _ ⟨x, rfl⟩
  have HC5 := Lib.hid ((x.h.block _ (hlt HC6.out)).trans HC6.out)
  have HB7 := Lib.hid (HB6.out.trans (x.h.mono HB6.out.size))
  clear zA0 zA1 zA2 zB0 zB1 zB2 HIN
  generalize x.w = w7 at *
  go_wp2_with fail
  refine (rb0 _).mono ?_
  rintro e w6 ⟨rfl, hb6⟩
  have HC7 := Lib.hid ((hb6.block _ (hlt HC5.out)).trans HC5.out)
  have HROW := Lib.hid (setRow_at w6 (w.heap.size + 1 + 1) _ #[.int .i64 1, .int .i64 0, .string { data := #[] }] 24 (0, 0) HC7.out)
  have HBE := Lib.hid (setRow_below (HB7.out.trans (hb6.mono HB7.out.size)) (show w.heap.size ≤ w.heap.size + 1 + 1 by omega) #[.int .i64 1, .int .i64 0, .string { data := #[] }])
  clear hb6
  go_wp2_with (refine wpList_store_row rfl 24 (.tmp 8) (.tmp 131) rfl (w.heap.size + 1 + 1) #[.int .i64 1, .int .i64 0, .string { data := #[] }] rfl rfl 24 _ HC7.out (by rw [size24]; rfl) rfl (by simp [Value.oneCell']) ?_)
  exact bodyPost_ret (v := .tuple #[.agg #[.int .i64 1, .int .i64 0, .string { data := #[] }], .string { data := #[] }]) (res11 _ _ (w.heap.size + 1 + 1) _ rfl HROW.out) rfl ⟨rfl, HBE.out⟩

set_option maxRecDepth 10000 in
set_option maxHeartbeats 2000000 in
theorem ro_let10 (g : Value) (n k' n' : Int) (t t' : Array UInt8) (w : World) (e : (k' == 3) = true) (hcx : ∀ W, Calls Tryd.prog 15 #[.agg #[.int .i64 3, .int .i64 n, .string { data := t }]] W fun e w' => e = .returned (.bool true) ∧ Below W.heap.size W w') (hcy : ∀ W, Calls Tryd.prog 15 #[.agg #[.int .i64 k', .int .i64 n', .string { data := t' }]] W fun e w' => e = .returned (.bool true) ∧ Below W.heap.size W w') (hls : ∀ W, Calls Tryd.prog 25 #[.string { data := t }, .string { data := t' }] W fun e w' => e = .returned (.bool true) ∧ ∃ n, w' = W.drewN n) (d2 : ((ByteArray.mk t).toList == (ByteArray.mk t').toList) = false) :
    Calls Tryd.prog 11 #[g, .string { data := #[60, 61] }, .agg #[.int .i64 3, .int .i64 n, .string { data := t }], .agg #[.int .i64 k', .int .i64 n', .string { data := t' }]] w fun e w' => e = .returned (.tuple #[.agg #[.int .i64 1, .int .i64 1, .string { data := #[] }], .string { data := #[] }]) ∧ Below w.heap.size w w' := by
  obtain ⟨ha, hb, hc, hB⟩ := three w (.cells #[.int .i64 3, .int .i64 n, .string { data := t }] 24) (.cells #[.int .i64 k', .int .i64 n', .string { data := t' }] 24) (.cells #[.int .i64 0, .int .i64 0, .string { data := #[] }] 24)
  have HA := Lib.hid ha
  have HBB := Lib.hid hb
  have HC := Lib.hid hc
  have HB := Lib.hid hB
  have HCX := Lib.hid hcx
  have HCY := Lib.hid hcy
  have HLS := Lib.hid hls
  clear hls
  clear ha hb hc hB hcx hcy
  go_enter Tryd.func11, Tryd.ntmps11
  go_wp2_with fail
  generalize (((w.alloc (.cells #[.int .i64 3, .int .i64 n, .string { data := t }] 24)).alloc (.cells #[.int .i64 k', .int .i64 n', .string { data := t' }] 24)).alloc (.cells #[.int .i64 0, .int .i64 0, .string { data := #[] }] 24)) = w3 at *
  refine (HCX.out w3).mono ?_
  rintro e w4 ⟨rfl, hb4⟩
  have HA4 := Lib.hid ((hb4.block _ (hlt HA.out)).trans HA.out)
  have HBB4 := Lib.hid ((hb4.block _ (hlt HBB.out)).trans HBB.out)
  have HC4 := Lib.hid ((hb4.block _ (hlt HC.out)).trans HC.out)
  have HB4 := Lib.hid (HB.out.trans (hb4.mono HB.out.size))
  obtain ⟨y0, y1, y2⟩ := box3 HBB4.out
  clear hb4 HA HBB HC HB
  go_wp2_with fail
  refine (HCY.out w4).mono ?_
  rintro e w5 ⟨rfl, hb5⟩
  have HA5 := Lib.hid ((hb5.block _ (hlt HA4.out)).trans HA4.out)
  have HBB5 := Lib.hid ((hb5.block _ (hlt HBB4.out)).trans HBB4.out)
  have HC5 := Lib.hid ((hb5.block _ (hlt HC4.out)).trans HC4.out)
  have HB5 := Lib.hid (HB4.out.trans (hb5.mono HB4.out.size))
  clear y0 y1 y2 hb5 HA4 HBB4 HC4 HB4 HCX HCY
  obtain ⟨x0, x1, x2⟩ := box3 HA5.out
  obtain ⟨y0, y1, y2⟩ := box3 HBB5.out
  go_wp2_with fail
  go_quiet (fail)
  go_wp2_with fail
  rename Nat => nqa
  go_quiet (fail)
  go_wp2_with fail
  have HB6 := Lib.hid (below_drewN (below_drewN HB5.out nqa) nq)
  have HA6 : Hid (((w5.drewN nqa).drewN nq).heap[w.heap.size]? = _) := Lib.hid HA5.out
  have HBB6 : Hid (((w5.drewN nqa).drewN nq).heap[w.heap.size + 1]? = _) := Lib.hid HBB5.out
  have HC6 : Hid (((w5.drewN nqa).drewN nq).heap[w.heap.size + 1 + 1]? = _) := Lib.hid HC5.out
  clear HA5 HBB5 HC5 HB5 x0 x1 x2 y0 y1 y2
  generalize ((w5.drewN nqa).drewN nq) = wq at *
  have zA : ∀ x : InW (Grown wq), x.w.heap[w.heap.size]? = some (.cells #[.int .i64 3, .int .i64 n, .string { data := t }] 24 (0, 0)) := fun x => (x.h.block _ (hlt HA6.out)).trans HA6.out
  have zA0 : ∀ x : InW (Grown wq), x.w.cell? ⟨w.heap.size, 0, none⟩ = some (.int .i64 3) := fun x => (box3 (zA x)).1
  have zA1 : ∀ x : InW (Grown wq), x.w.cell? ⟨w.heap.size, 1, none⟩ = some (.int .i64 n) := fun x => (box3 (zA x)).2.1
  have zA2 : ∀ x : InW (Grown wq), x.w.cell? ⟨w.heap.size, 2, none⟩ = some (.string { data := t }) := fun x => (box3 (zA x)).2.2
  clear zA
  have zB : ∀ x : InW (Grown wq), x.w.heap[w.heap.size + 1]? = some (.cells #[.int .i64 k', .int .i64 n', .string { data := t' }] 24 (0, 0)) := fun x => (x.h.block _ (hlt HBB6.out)).trans HBB6.out
  have zB0 : ∀ x : InW (Grown wq), x.w.cell? ⟨w.heap.size + 1, 0, none⟩ = some (.int .i64 k') := fun x => (box3 (zB x)).1
  have zB1 : ∀ x : InW (Grown wq), x.w.cell? ⟨w.heap.size + 1, 1, none⟩ = some (.int .i64 n') := fun x => (box3 (zB x)).2.1
  have zB2 : ∀ x : InW (Grown wq), x.w.cell? ⟨w.heap.size + 1, 2, none⟩ = some (.string { data := t' }) := fun x => (box3 (zB x)).2.2
  clear zB
  have H1 : Hid (∀ x : InW (Grown wq), Calls Tryd.prog 25 #[.string { data := t }, .string { data := t' }] x.w (RetIn (Grown wq) (.bool true))) := Lib.hid fun x => ret_drew (HLS.out x.w)
  have HIN : Nonempty (InW (Grown wq)) := ⟨⟨wq, Below.refl _ _⟩⟩
  refine region_in (Grown wq) (by kernel_rfl) (by kernel_rfl) (Below.refl _ _).drew ?_
  repeat (go_big_quiet_step ((rename_i x; with_reducible exact H1.out x)))
  refine wpQuiet_nil ?_
  rintro _ ⟨x, rfl⟩
  have HC5 := Lib.hid ((x.h.block _ (hlt HC6.out)).trans HC6.out)
  have HB7 := Lib.hid (HB6.out.trans (x.h.mono HB6.out.size))
  clear zA0 zA1 zA2 zB0 zB1 zB2 HIN
  generalize x.w = w7 at *
  go_wp2_with fail
  refine (rb1 _).mono ?_
  rintro e w6 ⟨rfl, hb6⟩
  have HC7 := Lib.hid ((hb6.block _ (hlt HC5.out)).trans HC5.out)
  have HROW := Lib.hid (setRow_at w6 (w.heap.size + 1 + 1) _ #[.int .i64 1, .int .i64 1, .string { data := #[] }] 24 (0, 0) HC7.out)
  have HBE := Lib.hid (setRow_below (HB7.out.trans (hb6.mono HB7.out.size)) (show w.heap.size ≤ w.heap.size + 1 + 1 by omega) #[.int .i64 1, .int .i64 1, .string { data := #[] }])
  clear hb6
  go_wp2_with (refine wpList_store_row rfl 24 (.tmp 8) (.tmp 138) rfl (w.heap.size + 1 + 1) #[.int .i64 1, .int .i64 1, .string { data := #[] }] rfl rfl 24 _ HC7.out (by rw [size24]; rfl) rfl (by simp [Value.oneCell']) ?_)
  exact bodyPost_ret (v := .tuple #[.agg #[.int .i64 1, .int .i64 1, .string { data := #[] }], .string { data := #[] }]) (res11 _ _ (w.heap.size + 1 + 1) _ rfl HROW.out) rfl ⟨rfl, HBE.out⟩

set_option maxRecDepth 10000 in
set_option maxHeartbeats 2000000 in
theorem ro_let01 (g : Value) (n k' n' : Int) (t t' : Array UInt8) (w : World) (e : (k' == 3) = true) (hcx : ∀ W, Calls Tryd.prog 15 #[.agg #[.int .i64 3, .int .i64 n, .string { data := t }]] W fun e w' => e = .returned (.bool true) ∧ Below W.heap.size W w') (hcy : ∀ W, Calls Tryd.prog 15 #[.agg #[.int .i64 k', .int .i64 n', .string { data := t' }]] W fun e w' => e = .returned (.bool true) ∧ Below W.heap.size W w') (hls : ∀ W, Calls Tryd.prog 25 #[.string { data := t }, .string { data := t' }] W fun e w' => e = .returned (.bool false) ∧ ∃ n, w' = W.drewN n) (d2 : ((ByteArray.mk t).toList == (ByteArray.mk t').toList) = true) :
    Calls Tryd.prog 11 #[g, .string { data := #[60, 61] }, .agg #[.int .i64 3, .int .i64 n, .string { data := t }], .agg #[.int .i64 k', .int .i64 n', .string { data := t' }]] w fun e w' => e = .returned (.tuple #[.agg #[.int .i64 1, .int .i64 1, .string { data := #[] }], .string { data := #[] }]) ∧ Below w.heap.size w w' := by
  obtain ⟨ha, hb, hc, hB⟩ := three w (.cells #[.int .i64 3, .int .i64 n, .string { data := t }] 24) (.cells #[.int .i64 k', .int .i64 n', .string { data := t' }] 24) (.cells #[.int .i64 0, .int .i64 0, .string { data := #[] }] 24)
  have HA := Lib.hid ha
  have HBB := Lib.hid hb
  have HC := Lib.hid hc
  have HB := Lib.hid hB
  have HCX := Lib.hid hcx
  have HCY := Lib.hid hcy
  have HLS := Lib.hid hls
  clear hls
  clear ha hb hc hB hcx hcy
  go_enter Tryd.func11, Tryd.ntmps11
  go_wp2_with fail
  generalize (((w.alloc (.cells #[.int .i64 3, .int .i64 n, .string { data := t }] 24)).alloc (.cells #[.int .i64 k', .int .i64 n', .string { data := t' }] 24)).alloc (.cells #[.int .i64 0, .int .i64 0, .string { data := #[] }] 24)) = w3 at *
  refine (HCX.out w3).mono ?_
  rintro e w4 ⟨rfl, hb4⟩
  have HA4 := Lib.hid ((hb4.block _ (hlt HA.out)).trans HA.out)
  have HBB4 := Lib.hid ((hb4.block _ (hlt HBB.out)).trans HBB.out)
  have HC4 := Lib.hid ((hb4.block _ (hlt HC.out)).trans HC.out)
  have HB4 := Lib.hid (HB.out.trans (hb4.mono HB.out.size))
  obtain ⟨y0, y1, y2⟩ := box3 HBB4.out
  clear hb4 HA HBB HC HB
  go_wp2_with fail
  refine (HCY.out w4).mono ?_
  rintro e w5 ⟨rfl, hb5⟩
  have HA5 := Lib.hid ((hb5.block _ (hlt HA4.out)).trans HA4.out)
  have HBB5 := Lib.hid ((hb5.block _ (hlt HBB4.out)).trans HBB4.out)
  have HC5 := Lib.hid ((hb5.block _ (hlt HC4.out)).trans HC4.out)
  have HB5 := Lib.hid (HB4.out.trans (hb5.mono HB4.out.size))
  clear y0 y1 y2 hb5 HA4 HBB4 HC4 HB4 HCX HCY
  obtain ⟨x0, x1, x2⟩ := box3 HA5.out
  obtain ⟨y0, y1, y2⟩ := box3 HBB5.out
  go_wp2_with fail
  go_quiet (fail)
  go_wp2_with fail
  rename Nat => nqa
  go_quiet (fail)
  go_wp2_with fail
  have HB6 := Lib.hid (below_drewN (below_drewN HB5.out nqa) nq)
  have HA6 : Hid (((w5.drewN nqa).drewN nq).heap[w.heap.size]? = _) := Lib.hid HA5.out
  have HBB6 : Hid (((w5.drewN nqa).drewN nq).heap[w.heap.size + 1]? = _) := Lib.hid HBB5.out
  have HC6 : Hid (((w5.drewN nqa).drewN nq).heap[w.heap.size + 1 + 1]? = _) := Lib.hid HC5.out
  clear HA5 HBB5 HC5 HB5 x0 x1 x2 y0 y1 y2
  generalize ((w5.drewN nqa).drewN nq) = wq at *
  have zA : ∀ x : InW (Grown wq), x.w.heap[w.heap.size]? = some (.cells #[.int .i64 3, .int .i64 n, .string { data := t }] 24 (0, 0)) := fun x => (x.h.block _ (hlt HA6.out)).trans HA6.out
  have zA0 : ∀ x : InW (Grown wq), x.w.cell? ⟨w.heap.size, 0, none⟩ = some (.int .i64 3) := fun x => (box3 (zA x)).1
  have zA1 : ∀ x : InW (Grown wq), x.w.cell? ⟨w.heap.size, 1, none⟩ = some (.int .i64 n) := fun x => (box3 (zA x)).2.1
  have zA2 : ∀ x : InW (Grown wq), x.w.cell? ⟨w.heap.size, 2, none⟩ = some (.string { data := t }) := fun x => (box3 (zA x)).2.2
  clear zA
  have zB : ∀ x : InW (Grown wq), x.w.heap[w.heap.size + 1]? = some (.cells #[.int .i64 k', .int .i64 n', .string { data := t' }] 24 (0, 0)) := fun x => (x.h.block _ (hlt HBB6.out)).trans HBB6.out
  have zB0 : ∀ x : InW (Grown wq), x.w.cell? ⟨w.heap.size + 1, 0, none⟩ = some (.int .i64 k') := fun x => (box3 (zB x)).1
  have zB1 : ∀ x : InW (Grown wq), x.w.cell? ⟨w.heap.size + 1, 1, none⟩ = some (.int .i64 n') := fun x => (box3 (zB x)).2.1
  have zB2 : ∀ x : InW (Grown wq), x.w.cell? ⟨w.heap.size + 1, 2, none⟩ = some (.string { data := t' }) := fun x => (box3 (zB x)).2.2
  clear zB
  have H1 : Hid (∀ x : InW (Grown wq), Calls Tryd.prog 25 #[.string { data := t }, .string { data := t' }] x.w (RetIn (Grown wq) (.bool false))) := Lib.hid fun x => ret_drew (HLS.out x.w)
  have HIN : Nonempty (InW (Grown wq)) := ⟨⟨wq, Below.refl _ _⟩⟩
  refine region_in (Grown wq) (by kernel_rfl) (by kernel_rfl) (Below.refl _ _).drew ?_
  repeat (go_big_quiet_step ((rename_i x; with_reducible exact H1.out x)))
  refine wpQuiet_nil ?_
  rintro _ ⟨x, rfl⟩
  have HC5 := Lib.hid ((x.h.block _ (hlt HC6.out)).trans HC6.out)
  have HB7 := Lib.hid (HB6.out.trans (x.h.mono HB6.out.size))
  clear zA0 zA1 zA2 zB0 zB1 zB2 HIN
  generalize x.w = w7 at *
  go_wp2_with fail
  refine (rb1 _).mono ?_
  rintro e w6 ⟨rfl, hb6⟩
  have HC7 := Lib.hid ((hb6.block _ (hlt HC5.out)).trans HC5.out)
  have HROW := Lib.hid (setRow_at w6 (w.heap.size + 1 + 1) _ #[.int .i64 1, .int .i64 1, .string { data := #[] }] 24 (0, 0) HC7.out)
  have HBE := Lib.hid (setRow_below (HB7.out.trans (hb6.mono HB7.out.size)) (show w.heap.size ≤ w.heap.size + 1 + 1 by omega) #[.int .i64 1, .int .i64 1, .string { data := #[] }])
  clear hb6
  go_wp2_with (refine wpList_store_row rfl 24 (.tmp 8) (.tmp 138) rfl (w.heap.size + 1 + 1) #[.int .i64 1, .int .i64 1, .string { data := #[] }] rfl rfl 24 _ HC7.out (by rw [size24]; rfl) rfl (by simp [Value.oneCell']) ?_)
  exact bodyPost_ret (v := .tuple #[.agg #[.int .i64 1, .int .i64 1, .string { data := #[] }], .string { data := #[] }]) (res11 _ _ (w.heap.size + 1 + 1) _ rfl HROW.out) rfl ⟨rfl, HBE.out⟩

set_option maxRecDepth 10000 in
set_option maxHeartbeats 2000000 in
theorem ro_let00 (g : Value) (n k' n' : Int) (t t' : Array UInt8) (w : World) (e : (k' == 3) = true) (hcx : ∀ W, Calls Tryd.prog 15 #[.agg #[.int .i64 3, .int .i64 n, .string { data := t }]] W fun e w' => e = .returned (.bool true) ∧ Below W.heap.size W w') (hcy : ∀ W, Calls Tryd.prog 15 #[.agg #[.int .i64 k', .int .i64 n', .string { data := t' }]] W fun e w' => e = .returned (.bool true) ∧ Below W.heap.size W w') (hls : ∀ W, Calls Tryd.prog 25 #[.string { data := t }, .string { data := t' }] W fun e w' => e = .returned (.bool false) ∧ ∃ n, w' = W.drewN n) (d2 : ((ByteArray.mk t).toList == (ByteArray.mk t').toList) = false) :
    Calls Tryd.prog 11 #[g, .string { data := #[60, 61] }, .agg #[.int .i64 3, .int .i64 n, .string { data := t }], .agg #[.int .i64 k', .int .i64 n', .string { data := t' }]] w fun e w' => e = .returned (.tuple #[.agg #[.int .i64 1, .int .i64 0, .string { data := #[] }], .string { data := #[] }]) ∧ Below w.heap.size w w' := by
  obtain ⟨ha, hb, hc, hB⟩ := three w (.cells #[.int .i64 3, .int .i64 n, .string { data := t }] 24) (.cells #[.int .i64 k', .int .i64 n', .string { data := t' }] 24) (.cells #[.int .i64 0, .int .i64 0, .string { data := #[] }] 24)
  have HA := Lib.hid ha
  have HBB := Lib.hid hb
  have HC := Lib.hid hc
  have HB := Lib.hid hB
  have HCX := Lib.hid hcx
  have HCY := Lib.hid hcy
  have HLS := Lib.hid hls
  clear hls
  clear ha hb hc hB hcx hcy
  go_enter Tryd.func11, Tryd.ntmps11
  go_wp2_with fail
  generalize (((w.alloc (.cells #[.int .i64 3, .int .i64 n, .string { data := t }] 24)).alloc (.cells #[.int .i64 k', .int .i64 n', .string { data := t' }] 24)).alloc (.cells #[.int .i64 0, .int .i64 0, .string { data := #[] }] 24)) = w3 at *
  refine (HCX.out w3).mono ?_
  rintro e w4 ⟨rfl, hb4⟩
  have HA4 := Lib.hid ((hb4.block _ (hlt HA.out)).trans HA.out)
  have HBB4 := Lib.hid ((hb4.block _ (hlt HBB.out)).trans HBB.out)
  have HC4 := Lib.hid ((hb4.block _ (hlt HC.out)).trans HC.out)
  have HB4 := Lib.hid (HB.out.trans (hb4.mono HB.out.size))
  obtain ⟨y0, y1, y2⟩ := box3 HBB4.out
  clear hb4 HA HBB HC HB
  go_wp2_with fail
  refine (HCY.out w4).mono ?_
  rintro e w5 ⟨rfl, hb5⟩
  have HA5 := Lib.hid ((hb5.block _ (hlt HA4.out)).trans HA4.out)
  have HBB5 := Lib.hid ((hb5.block _ (hlt HBB4.out)).trans HBB4.out)
  have HC5 := Lib.hid ((hb5.block _ (hlt HC4.out)).trans HC4.out)
  have HB5 := Lib.hid (HB4.out.trans (hb5.mono HB4.out.size))
  clear y0 y1 y2 hb5 HA4 HBB4 HC4 HB4 HCX HCY
  obtain ⟨x0, x1, x2⟩ := box3 HA5.out
  obtain ⟨y0, y1, y2⟩ := box3 HBB5.out
  go_wp2_with fail
  go_quiet (fail)
  go_wp2_with fail
  rename Nat => nqa
  go_quiet (fail)
  go_wp2_with fail
  have HB6 := Lib.hid (below_drewN (below_drewN HB5.out nqa) nq)
  have HA6 : Hid (((w5.drewN nqa).drewN nq).heap[w.heap.size]? = _) := Lib.hid HA5.out
  have HBB6 : Hid (((w5.drewN nqa).drewN nq).heap[w.heap.size + 1]? = _) := Lib.hid HBB5.out
  have HC6 : Hid (((w5.drewN nqa).drewN nq).heap[w.heap.size + 1 + 1]? = _) := Lib.hid HC5.out
  clear HA5 HBB5 HC5 HB5 x0 x1 x2 y0 y1 y2
  generalize ((w5.drewN nqa).drewN nq) = wq at *
  have zA : ∀ x : InW (Grown wq), x.w.heap[w.heap.size]? = some (.cells #[.int .i64 3, .int .i64 n, .string { data := t }] 24 (0, 0)) := fun x => (x.h.block _ (hlt HA6.out)).trans HA6.out
  have zA0 : ∀ x : InW (Grown wq), x.w.cell? ⟨w.heap.size, 0, none⟩ = some (.int .i64 3) := fun x => (box3 (zA x)).1
  have zA1 : ∀ x : InW (Grown wq), x.w.cell? ⟨w.heap.size, 1, none⟩ = some (.int .i64 n) := fun x => (box3 (zA x)).2.1
  have zA2 : ∀ x : InW (Grown wq), x.w.cell? ⟨w.heap.size, 2, none⟩ = some (.string { data := t }) := fun x => (box3 (zA x)).2.2
  clear zA
  have zB : ∀ x : InW (Grown wq), x.w.heap[w.heap.size + 1]? = some (.cells #[.int .i64 k', .int .i64 n', .string { data := t' }] 24 (0, 0)) := fun x => (x.h.block _ (hlt HBB6.out)).trans HBB6.out
  have zB0 : ∀ x : InW (Grown wq), x.w.cell? ⟨w.heap.size + 1, 0, none⟩ = some (.int .i64 k') := fun x => (box3 (zB x)).1
  have zB1 : ∀ x : InW (Grown wq), x.w.cell? ⟨w.heap.size + 1, 1, none⟩ = some (.int .i64 n') := fun x => (box3 (zB x)).2.1
  have zB2 : ∀ x : InW (Grown wq), x.w.cell? ⟨w.heap.size + 1, 2, none⟩ = some (.string { data := t' }) := fun x => (box3 (zB x)).2.2
  clear zB
  have H1 : Hid (∀ x : InW (Grown wq), Calls Tryd.prog 25 #[.string { data := t }, .string { data := t' }] x.w (RetIn (Grown wq) (.bool false))) := Lib.hid fun x => ret_drew (HLS.out x.w)
  have HIN : Nonempty (InW (Grown wq)) := ⟨⟨wq, Below.refl _ _⟩⟩
  refine region_in (Grown wq) (by kernel_rfl) (by kernel_rfl) (Below.refl _ _).drew ?_
  repeat (go_big_quiet_step ((rename_i x; with_reducible exact H1.out x)))
  refine wpQuiet_nil ?_
  rintro _ ⟨x, rfl⟩
  have HC5 := Lib.hid ((x.h.block _ (hlt HC6.out)).trans HC6.out)
  have HB7 := Lib.hid (HB6.out.trans (x.h.mono HB6.out.size))
  clear zA0 zA1 zA2 zB0 zB1 zB2 HIN
  generalize x.w = w7 at *
  go_wp2_with fail
  refine (rb0 _).mono ?_
  rintro e w6 ⟨rfl, hb6⟩
  have HC7 := Lib.hid ((hb6.block _ (hlt HC5.out)).trans HC5.out)
  have HROW := Lib.hid (setRow_at w6 (w.heap.size + 1 + 1) _ #[.int .i64 1, .int .i64 0, .string { data := #[] }] 24 (0, 0) HC7.out)
  have HBE := Lib.hid (setRow_below (HB7.out.trans (hb6.mono HB7.out.size)) (show w.heap.size ≤ w.heap.size + 1 + 1 by omega) #[.int .i64 1, .int .i64 0, .string { data := #[] }])
  clear hb6
  go_wp2_with (refine wpList_store_row rfl 24 (.tmp 8) (.tmp 138) rfl (w.heap.size + 1 + 1) #[.int .i64 1, .int .i64 0, .string { data := #[] }] rfl rfl 24 _ HC7.out (by rw [size24]; rfl) rfl (by simp [Value.oneCell']) ?_)
  exact bodyPost_ret (v := .tuple #[.agg #[.int .i64 1, .int .i64 0, .string { data := #[] }], .string { data := #[] }]) (res11 _ _ (w.heap.size + 1 + 1) _ rfl HROW.out) rfl ⟨rfl, HBE.out⟩
end Go.Proofs.YthbnhplkoomdhaaDoor
